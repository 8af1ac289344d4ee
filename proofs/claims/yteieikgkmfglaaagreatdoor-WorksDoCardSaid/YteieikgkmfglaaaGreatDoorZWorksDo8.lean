/- A land: the cells beside each, and how far it is onto each. · Fields: of all cells at once, those beside, and how far it is onto each. · What every call on a path says first. · A list of integers from which the first is taken, and that is added to at its end. · slices.Repeat, of a list of one. · Ways: plain mathematics. nb: the cells beside one; st: how far it is from one to another one that is beside; t: whereto. · How far each cell is from one, as the program finds it: it goes on from the cells of a list till there is none. · Lands: how far it is to a cell, and from one. · The next cell on a way, the way, and what may be reached: plain mathematics. · The calls of package path: what they say where something is wrong; how far it is. · The calls of package path: what may be reached. · works.Spot: the nearest cell that will do; whether nobody is on a cell. · works.Spot: where a new unit would come. · A unit that is put keeps a world right, and its cell is taken then. Plain mathematics. · works.Train as mathematics: who waits, who comes, who stays. · Spot and Train have one answer. Plain mathematics. · Ways: who flies gets there no later; a way's steps; two small fields. Plain mathematics. · What may be reached, and the ways there: plain mathematics. -/
import Derived.Test.YteieikgkmfglaaaGreatDoorZWorksDo1
import Derived.Test.YteieikgkmfglaaaGreatDoorZWorksDo5
import Derived.Test.YteieikgkmfglaaaGreatDoorZWorksDo2
import Derived.Deep.DeepCutAuto
import Derived.ArgAppend
import Derived.Test.YteieikgkmfglaaaGreatDoorZWorksDo4
import Derived.Laws.CopyRow
import Derived.Test.YteieikgkmfglaaaGreatDoorZWorksDo6
import Derived.Test.YteieikgkmfglaaaGreatDoorZWorksDo3
namespace Go.Proofs.YteieikgkmfglaaaGreatDoor
open Go.RowKit
set_option linter.unusedVariables false
/-- v is a slice of n lists: the i-th is nb i. -/
def Bs (w : World) (v : Value) (n : Nat) (nb : Nat → List Int) : Prop := ∃ x c, v = .slice (some x) n c ∧ n ≤ c ∧ c ≤ 9223372036854775807 ∧ ∀ i, i < n → ∃ u, w.cell? (x.add i) = some u ∧ Ro w u (nb i)
theorem Bs.below {w w' : World} {v : Value} {n : Nat} {nb : Nat → List Int} (h : Bs w v n nb) (hb : Below w.heap.size w w') : Bs w' v n nb := by
 obtain ⟨x, c, h1, h2, h3, h4⟩ := h
 refine ⟨x, c, h1, h2, h3, fun i hi => ?_⟩
 obtain ⟨u, hu, hr⟩ := h4 i hi
 have := cell_lt hu
 exact ⟨u, by rw [hb.cell (p := x.add i) this]; exact hu, hr.below hb⟩
/-- v is a land. -/
def Ld (w : World) (v : Value) (n : Nat) (nb : Nat → List Int) (ss : List Int) : Prop := ∃ u1 u2, v = .agg #[u1, u2] ∧ Bs w u1 n nb ∧ Ro w u2 ss ∧ ss.length = n
theorem Ld.below {w w' : World} {v : Value} {n : Nat} {nb : Nat → List Int} {ss : List Int} (h : Ld w v n nb ss) (hb : Below w.heap.size w w') : Ld w' v n nb ss := by
 obtain ⟨u1, u2, h1, h2, h3, h4⟩ := h
 exact ⟨u1, u2, h1, h2.below hb, h3.below hb, h4⟩
/-- a land in a box. -/
structure Bl (w : World) (z : Nat) (u1 u2 : Value) : Prop where
 c0 : w.cell? ⟨z, 0, none⟩ = some u1
 c1 : w.cell? ⟨z, 1, none⟩ = some u2
theorem Bl.lt {w : World} {z : Nat} {u1 u2 : Value} (h : Bl w z u1 u2) : z < w.heap.size := cell_lt h.c0
theorem Bl.mk' {w : World} {z : Nat} (u1 u2 : Value) (hz : w.heap.size = z) : Bl (w.alloc (.cells #[u1, u2] 147)) z u1 u2 := by
 subst hz
 exact ⟨by simp, by simp⟩
theorem Bl.below {w w' : World} {z B : Nat} {u1 u2 : Value} (h : Bl w z u1 u2) (hb : Below B w w') (hz : z < B) : Bl w' z u1 u2 :=
 ⟨by rw [hb.cell (p := ⟨z, 0, none⟩) hz]; exact h.c0, by rw [hb.cell (p := ⟨z, 1, none⟩) hz]; exact h.c1⟩
theorem Bl.kp {w w' : World} {z b : Nat} {u1 u2 : Value} (h : Bl w z u1 u2) (hk : Kp b w w') (hz : z ≠ b) : Bl w' z u1 u2 := by
 have e := hk.block z h.lt hz
 exact ⟨by rw [World.cell?_of_block (w := w) (a := ⟨z, 0, none⟩) e]; exact h.c0, by rw [World.cell?_of_block (w := w) (a := ⟨z, 1, none⟩) e]; exact h.c1⟩
end Go.Proofs.YteieikgkmfglaaaGreatDoor
namespace Go.Proofs.YteieikgkmfglaaaGreatDoor
open Go.RowKit
set_option linter.unusedVariables false
theorem info_ints : (Tryz.prog.info? 23).map (fun i => (i.zero, i.size, i.bytes)) = some (some (.slice none 0 0), 1, 24) := by kernel_rfl
/-- one more list. -/
theorem app_list {ops : Array Oper} {rest : List Oper} {o : Oper} {a : Act} {Q : Exit → Act → World → Prop} (w : World) (hgd : o.guard = none) (s x : Operand)
  (ho : o.op = .call { callee := .builtin .append, args := #[s, x], argTypes := #[145, 145] }) (base : Nat) (v : Value) (us : List Value) (hs : a.eval s = v) (hown : w.ownsRow base 23 1 v us.length us)
  (ad : Addr) (u : Value) (hx : a.eval x = .slice (some ad) 1 1) (hd : w.cell? ad = some u) (hu : u.oneCell' = true) (hl : us.length ≤ 1000000) (hbase : base ≤ w.heap.size)
  (h : ∀ g cap w', w'.ownsRow base 23 1 (.slice (some ⟨g, 0, none⟩) (us.length + 1) cap) (us.length + 1) (us ++ [u]) → w.grownBy w' v.ownBlock → (v.ownBlock = some g ∨ g = w.heap.size) → g < w'.heap.size → wpList Tryz.prog ops Q rest (a.put o.dst (.slice (some ⟨g, 0, none⟩) (us.length + 1) cap)) w') :
  wpList Tryz.prog ops Q (o :: rest) a w := by
 obtain ⟨i0, hi, hz0, hz1, hz2⟩ := info_parts info_ints
 refine wpList_append_lies w hgd s x 145 ho base 23 i0 (.slice none 0 0) 1 24 Tryz.underlying145 hi hz0 hz1 hz2 rfl (by decide) v us.length _ hs hown ad 1 1 [u] hx rfl ?_ ?_ (by decide) (by unfold maxLen; omega) (by omega) hbase _ rfl ?_
 ·intro j e hj
  match j, hj with
  | 0, hj => simp at hj; subst hj; exact hd
 ·intro e he
  simp at he
  subst he
  exact hu
 ·intro g cap w' h1 h2 h3 h4
  exact h g cap w' h1 h2 h3 h4
/-- u lies elsewhere than v. -/
def Apart (u v : Value) : Prop := u.ownBlock = none ∨ u.ownBlock ≠ v.ownBlock
theorem Apart.app {u v : Value} {z g n cap : Nat} (h : Apart u v) (hu : ∀ k, u.ownBlock = some k → k < z) (hg : v.ownBlock = some g ∨ g = z) : Apart u (.slice (some ⟨g, 0, none⟩) n cap) := by
 rcases h with h | h
 ·exact .inl h
 ·cases hb : u.ownBlock with
  | none => exact .inl hb
  | some k =>
   refine .inr ?_
   intro e
   rw [hb] at e
   simp only [Value.ownBlock, Option.some.injEq] at e
   rcases hg with hg | hg
   ·exact h (by rw [hg, hb, e])
   ·have := hu k hb
    omega
/-- what is new lies elsewhere. -/
theorem Apart.fresh {w' : World} {u v : Value} {xs : List Int} {z : Nat} (hu : Ow w' z u xs) (hv : ∀ k, v.ownBlock = some k → k < z) : Apart u v := by
 cases hb : u.ownBlock with
 | none => exact .inl hb
 | some k =>
  refine .inr fun e => ?_
  have h1 := (hu.block k hb).1
  rw [hb] at e
  have h2 := hv k e.symm
  omega
/-- of the first k cells. -/
structure Wds (w : World) (base : Nat) (v4 v5 : Value) (us : List Value) (nb : Nat → List Int) (ss : List Int) : Prop where
 o4 : w.ownsRow base 23 1 v4 us.length us
 o5 : Ow w base v5 ss
 e45 : Apart v5 v4
 e54 : Apart v4 v5
 each : ∀ i u, us[i]? = some u → Ow w base u (nb i) ∧ Apart u v4 ∧ Apart u v5
theorem Wds.below {w w' : World} {base : Nat} {v4 v5 : Value} {us : List Value} {nb : Nat → List Int} {ss : List Int} (h : Wds w base v4 v5 us nb ss) (hb : Below w.heap.size w w') : Wds w' base v4 v5 us nb ss :=
 ⟨World.ownsRow.kept h.o4 (row := none) ⟨hb.os, hb.tape, hb.output, hb.size, fun k hk _ => hb.block k hk⟩ (by cases v4.ownBlock <;> simp), h.o5.below hb, h.e45, h.e54, fun i u hu => ⟨(h.each i u hu).1.below hb, (h.each i u hu).2⟩⟩
theorem Wds.kp {w w' : World} {base z : Nat} {v4 v5 : Value} {us : List Value} {nb : Nat → List Int} {ss : List Int} (h : Wds w base v4 v5 us nb ss) (hk : Kp z w w') (hz : z < base) : Wds w' base v4 v5 us nb ss := by
 have hg : w.grownBy w' (some z) := ⟨hk.os, hk.tape, hk.output, hk.size, fun k h1 h2 => hk.block k h1 (fun e => h2 (by rw [e]))⟩
 have ne : ∀ {u : Value} {xs : List Int}, Ow w base u xs → u.ownBlock = none ∨ u.ownBlock ≠ some z := fun {u} {xs} ho => by
  cases hb : u.ownBlock with
  | none => exact .inl rfl
  | some k =>
   have := (ho.block k hb).1
   exact .inr (by simp; omega)
 have ne4 : v4.ownBlock = none ∨ v4.ownBlock ≠ some z := by
  cases hb : v4.ownBlock with
  | none => exact .inl rfl
  | some k =>
   have := (World.ownsRow.lt h.o4 k hb).1
   exact .inr (by simp; omega)
 exact ⟨World.ownsRow.kept h.o4 hg ne4, h.o5.kept hg (ne h.o5), h.e45, h.e54, fun i u hu => ⟨(h.each i u hu).1.kept hg (ne (h.each i u hu).1), (h.each i u hu).2⟩⟩
theorem Wds.start (w : World) (base : Nat) (nb : Nat → List Int) : Wds w base (.slice none 0 0) (.slice none 0 0) [] nb [] :=
 ⟨World.ownsRow_nil _ _ _ _, Ow.nil _ _, .inl rfl, .inl rfl, fun i u hu => by simp at hu⟩
theorem Wds.bs {w : World} {base n : Nat} {v4 v5 : Value} {us : List Value} {nb : Nat → List Int} {ss : List Int} (h : Wds w base v4 v5 us nb ss) (hl : us.length = n) (h0 : 0 < n) : Bs w v4 n nb := by
 rcases h.o4.2 with ⟨_, e⟩ | ⟨g, cap, cur, hv, hb, hg, h1, h2, h3, h4⟩
 ·omega
 ·refine ⟨⟨g, 0, none⟩, cap, by rw [hv, hl], by omega, by unfold maxLen at h2; omega, fun i hi => ?_⟩
  obtain ⟨u, hu⟩ : ∃ u, us[i]? = some u := ⟨us[i]'(by omega), List.getElem?_eq_getElem _⟩
  refine ⟨u, ?_, (h.each i u hu).1.ro⟩
  rw [Addr.add_lit, Nat.zero_add]
  simp only [World.cell?, hg]
  rw [← h4, List.getElem?_take, if_pos (by omega)] at hu
  rw [← Array.getElem?_toList]
  simpa using hu
/-- one list more. -/
theorem Wds.list {w w' : World} {base g cap : Nat} {v4 v5 u : Value} {us : List Value} {nb : Nat → List Int} {ss : List Int} (h : Wds w base v4 v5 us nb ss) (hu : Ow w base u (nb us.length)) (a4 : Apart u v4) (a5 : Apart u v5)
  (ho : w'.ownsRow base 23 1 (.slice (some ⟨g, 0, none⟩) (us.length + 1) cap) (us.length + 1) (us ++ [u])) (hg : w.grownBy w' v4.ownBlock) (hat : v4.ownBlock = some g ∨ g = w.heap.size) :
  Wds w' base (.slice (some ⟨g, 0, none⟩) (us.length + 1) cap) v5 (us ++ [u]) nb ss := by
 have lt : ∀ {u : Value} {xs : List Int}, Ow w base u xs → ∀ k, u.ownBlock = some k → k < w.heap.size := fun h k hk => (h.block k hk).2
 refine ⟨by rw [List.length_append]; exact ho, h.o5.kept hg h.e45, h.e45.app (lt h.o5) hat, ?_, fun i e he => ?_⟩
 ·rcases hat with hat | hat
  ·rcases h.e54 with h1 | h1
   ·rw [hat] at h1; cases h1
   ·exact .inr (by rw [hat] at h1; exact h1)
  ·refine .inr fun e => ?_
   have := (h.o5.block g (by rw [← e]; rfl)).2
   omega
 ·rw [List.getElem?_append] at he
  split at he
  ·have k := h.each i e he
   exact ⟨k.1.kept hg k.2.1, k.2.1.app (lt k.1) hat, k.2.2⟩
  ·rename_i hi
   have hi0 : i = us.length := by
    have := (List.getElem?_eq_some_iff.1 he).1
    simp at this
    omega
   subst hi0
   simp at he
   subst he
   exact ⟨hu.kept hg a4, a4.app (lt hu) hat, a5⟩
/-- one number more. -/
theorem Wds.num {w w' : World} {base g cap : Nat} {v4 v5 : Value} {us : List Value} {nb : Nat → List Int} {ss : List Int} {d : Int} (h : Wds w base v4 v5 us nb ss)
  (ho : Ow w' base (.slice (some ⟨g, 0, none⟩) (ss.length + 1) cap) (ss ++ [d])) (hg : w.grownBy w' v5.ownBlock) (hat : v5.ownBlock = some g ∨ g = w.heap.size) :
  Wds w' base v4 (.slice (some ⟨g, 0, none⟩) (ss.length + 1) cap) us nb (ss ++ [d]) := by
 have lt : ∀ {u : Value} {xs : List Int}, Ow w base u xs → ∀ k, u.ownBlock = some k → k < w.heap.size := fun h k hk => (h.block k hk).2
 have lt4 : ∀ k, v4.ownBlock = some k → k < w.heap.size := fun k hk => (World.ownsRow.lt h.o4 k hk).2
 refine ⟨World.ownsRow.kept h.o4 hg h.e54, ho, ?_, h.e54.app lt4 hat, fun i e he => ?_⟩
 ·rcases hat with hat | hat
  ·rcases h.e45 with h1 | h1
   ·rw [hat] at h1; cases h1
   ·exact .inr (by rw [hat] at h1; exact h1)
  ·refine .inr fun e => ?_
   have := lt4 g (by rw [← e]; rfl)
   omega
 ·have k := h.each i e he
  exact ⟨k.1.kept hg k.2.2, k.2.1, k.2.2.app (lt k.1) hat⟩
set_option maxHeartbeats 1000000 in
theorem Ways_bad (v : Value) (W H : Int) (gs os : List Int) (F : Int) (fl : Bool) (w : World) (h : Fl w v W H gs os) (hF : Fd.fault W H gs os = F) (h0 : F ≠ 0) :
  Calls Tryz.prog 125 #[v, .bool fl] w fun e w' => e = .returned (.tuple #[.slice none 0 0, .slice none 0 0, .iface 77 (.int .i64 F)]) ∧ Below w.heap.size w w' := by
 have F0 : Hid (Fl w v W H gs os) := h
 have HF : Hid (Fd.fault W H gs os = F) := hF
 have H0 : Hid (F ≠ 0) := h0
 obtain ⟨u1, u2, rfl, ⟨a1, c, rfl, c1, c2, ca⟩, ⟨b1, d, rfl, d1, d2, cb⟩⟩ := h
 clear hF h0 ca cb
 go_enter Tryz.func125, Tryz.ntmps125
 go_wp2_with fail
 refine (check_any _ W H gs os _ (F0.out.below ((Below.refl _ _).alloc (Nat.le_refl _) _))).mono ?_
 rintro e w1 ⟨v1, rfl, hv, hb⟩
 have B1 : Hid (Below w.heap.size w w1) := ((Below.refl _ _).alloc (Nat.le_refl _) _).trans (hb.mono (by simp))
 rw [HF.out] at hv
 clear hb
 rcases hv with ⟨hz, rfl⟩ | ⟨hz, rfl⟩
 ·exact absurd hz H0.out
 ·clear hz
  go_wp2
  go_ret3
  exact ⟨rfl, B1⟩
set_option maxHeartbeats 2000000 in
theorem Ways_ok (v : Value) (W H : Nat) (gs os : List Int) (fl : Bool) (w : World) (h : Fl w v W H gs os) (G : Fd.Good W H gs os) (hs : Sd w) :
  Calls Tryz.prog 125 #[v, .bool fl] w fun e w' => ∃ u1 u2 us, e = .returned (.tuple #[u1, u2, .nilIface]) ∧ us.length = W * H ∧ Wds w' (w.heap.size + 1) u1 u2 us (Fd.near W H) (gs.map fun g => Fd.onto g fl) ∧ Below w.heap.size w w' := by
 have F0 : Hid (Fl w v W H gs os) := h
 have S0 : Hid (Sd w) := hs
 have G0 : Hid (Fd.Good W H gs os) := G
 obtain ⟨u1, u2, rfl, ⟨a1, c, rfl, c1, c2, ca⟩, ⟨b1, d, rfl, d1, d2, cb⟩⟩ := h
 have gl := G.gl
 have gp := G.pos
 obtain ⟨x, rfl, xl, hx⟩ := ca (by intro e; rw [e] at gl; simp at gl; omega)
 have Hx : Hid ((∀ (i : Nat) d, gs[i]? = some d → w.cell? (x.add i) = some (.int .i64 d)) ∧ x.block < w.heap.size) := ⟨hx, xl⟩
 have gl2 : gs.length ≤ 144 := by omega
 have Gl : Hid (gs.length = W * H) := gl
 clear cb ca hs hx xl G gl gp
 go_enter Tryz.func125, Tryz.ntmps125
 go_wp2_with fail
 refine (check_any _ W H gs os _ (F0.out.below ((Below.refl _ _).alloc (Nat.le_refl _) _))).mono ?_
 rintro e w1 ⟨v1, rfl, hv, hb⟩
 have B1 : Hid (Below w.heap.size w w1) := ((Below.refl _ _).alloc (Nat.le_refl _) _).trans (hb.mono (by simp))
 have X1 : Hid (Bf w1 w.heap.size W H (Value.slice (some x) gs.length c) (Value.slice b1 os.length d)) := (Bf.mk' (w := w) W H (Value.slice (some x) gs.length c) (Value.slice b1 os.length d) rfl).below hb (by simp)
 rw [Fd.fault_good G0.out] at hv
 clear hb
 rcases hv with ⟨hz, rfl⟩ | ⟨hz, rfl⟩
 ·clear hz
  obtain ⟨x0, x1, x2, x3⟩ := X1.out
  go_wp2_with fail
  clear x0 x1 x2 x3
  go_loopw [4, 5, 18] (fun v4 v5 i W' => ∃ (k : Nat) (us : List Value), k ≤ gs.length ∧ i = .int .i64 (k : Nat) ∧ us.length = k ∧ Wds W' (w.heap.size + 1) v4 v5 us (Fd.near W H) ((gs.take k).map fun g => Fd.onto g fl) ∧ Bf W' w.heap.size W H (Value.slice (some x) gs.length c) (Value.slice b1 os.length d) ∧ Below w.heap.size w W') (fun _ _ i _ => gs.length - (intOf i).toNat)
  case atStart => exact ⟨0, [], Nat.zero_le _, rfl, rfl, Wds.start _ _ _, X1, B1⟩
  case round =>
   obtain ⟨k, us, hk, rfl, hl, hw, hX, hB⟩ := hrel
   clear X1 B1
   have D : Hid (Wds wr (w.heap.size + 1) u4 u5 us (Fd.near W H) ((gs.take k).map fun g => Fd.onto g fl)) := hw
   have X : Hid (Bf wr w.heap.size W H (Value.slice (some x) gs.length c) (Value.slice b1 os.length d)) := hX
   have B : Hid (Below w.heap.size w wr) := hB
   have Hl : Hid (us.length = k) := hl
   clear hw hX hB hl
   by_cases h0 : k = gs.length
   ·subst h0
    go_wp2
    go_ret3
    refine ⟨_, _, us, rfl, by rw [Hl.out, Gl.out], ?_, B⟩
    have := D.out
    rw [List.take_of_length_le (Nat.le_refl _)] at this
    exact this
   ·have hkl : k < gs.length := by omega
    obtain ⟨g, hg⟩ : ∃ g, gs[k]? = some g := ⟨_, List.getElem?_eq_getElem hkl⟩
    have cg : wr.cell? (x.add k) = some (.int .i64 g) := by rw [B.out.cell (p := x.add k) (by rw [add_block]; exact Hx.out.2)]; exact Hx.out.1 k g hg
    have Hg : Hid ((gs.take (k + 1)).map (fun g => Fd.onto g fl) = (gs.take k).map (fun g => Fd.onto g fl) ++ [Fd.onto g fl]) := by
     unfold Hid
     rw [List.take_succ_eq_append_getElem hkl, List.map_append]
     rw [List.getElem?_eq_getElem hkl] at hg
     injection hg with hg
     rw [hg]
     rfl
    have Lk : Hid (((gs.take k).map fun g => Fd.onto g fl).length ≤ 144) := by unfold Hid; simp; omega
    have zs : Hid (w.heap.size < wr.heap.size) := X.out.lt
    obtain ⟨x0, x1, x2, x3⟩ := X.out
    clear hg
    go_wp2_with fail
    refine (near_own _ W H gs os k _ (F0.out.below B.out) G0.out (by rw [← Gl.out]; exact hkl) (S0.out.below B.out)).mono ?_
    rintro e w2 ⟨u, rfl, hu, hb2⟩
    obtain ⟨ua, uc, hue⟩ := hu.len
    have a4 : Apart u u4 := Apart.fresh hu (fun k hk => (World.ownsRow.lt D.out.o4 k hk).2)
    have a5 : Apart u u5 := Apart.fresh hu (fun k hk => (D.out.o5.block k hk).2)
    have A45 : Hid (Apart u u4 ∧ Apart u u5) := ⟨a4, a5⟩
    have ba : Below w2.heap.size w2 (w2.alloc (Obj.cells #[u] 23)) := (Below.refl _ _).alloc (Nat.le_refl _) _
    have U3 : Hid (Ow (w2.alloc (Obj.cells #[u] 23)) (w.heap.size + 1) u (Fd.near W H k)) := (hu.mono zs.out).below ba
    have D3 : Hid (Wds (w2.alloc (Obj.cells #[u] 23)) (w.heap.size + 1) u4 u5 us (Fd.near W H) ((gs.take k).map fun g => Fd.onto g fl)) := (D.out.below hb2).below ba
    have X3 : Hid (Bf (w2.alloc (Obj.cells #[u] 23)) w.heap.size W H (Value.slice (some x) gs.length c) (Value.slice b1 os.length d)) := (X.out.below hb2 X.out.lt).below ba (Nat.lt_of_lt_of_le X.out.lt hb2.size)
    have B3 : Hid (Below w.heap.size w (w2.alloc (Obj.cells #[u] 23))) := (B.out.trans (hb2.mono B.out.size)).trans (ba.mono (Nat.le_trans B.out.size hb2.size))
    have Cd : Hid ((w2.alloc (Obj.cells #[u] 23)).cell? ⟨w2.heap.size, 0, none⟩ = some u) := by unfold Hid; simp
    have S3 : Hid (w.heap.size + 1 ≤ (w2.alloc (Obj.cells #[u] 23)).heap.size) := X3.out.lt
    clear a4 a5 ba hu hb2 D X B zs x0 x1 x2 x3 cg
    subst hue
    go_wp2_with (at_builtin; refine app_list _ rfl _ _ rfl (w.heap.size + 1) _ us rfl D3.out.o4 ⟨w2.heap.size, 0, none⟩ _ rfl Cd.out rfl (by rw [Hl.out]; omega) S3.out ?_)
    intro g4 cap4 w4 o4 gr4 at4 lt4
    have D4 : Hid (Wds w4 (w.heap.size + 1) (.slice (some ⟨g4, 0, none⟩) (us.length + 1) cap4) u5 (us ++ [.slice ua (Fd.near W H k).length uc]) (Fd.near W H) ((gs.take k).map fun g => Fd.onto g fl)) := D3.out.list (by rw [Hl.out]; exact U3.out) A45.out.1 A45.out.2 o4 gr4 (by simpa using at4)
    have b4 : Below (w.heap.size + 1) (w2.alloc (Obj.cells #[.slice ua (Fd.near W H k).length uc] 23)) w4 := (Below.refl _ _).grown gr4 S3.out (fun k hk => (World.ownsRow.lt D3.out.o4 k hk).1)
    have X4 : Hid (Bf w4 w.heap.size W H (Value.slice (some x) gs.length c) (Value.slice b1 os.length d)) := X3.out.below b4 (Nat.lt_succ_self _)
    have B4 : Hid (Below w.heap.size w w4) := B3.out.trans (b4.mono (Nat.le_succ _))
    clear o4 gr4 at4 lt4 b4 D3 X3 B3 S3 Cd U3 A45
    go_wp2_with fail
    refine (step_any g fl _).mono ?_
    rintro e w5 ⟨rfl, rfl⟩
    obtain ⟨s, hs⟩ : ∃ s, Fd.onto g fl = s := ⟨_, rfl⟩
    rw [hs] at Hg ⊢
    have ba : Below w5.heap.size w5 (w5.alloc (Obj.cells #[.int .i64 s] 3)) := (Below.refl _ _).alloc (Nat.le_refl _) _
    have D5 : Hid (Wds (w5.alloc (Obj.cells #[.int .i64 s] 3)) (w.heap.size + 1) (.slice (some ⟨g4, 0, none⟩) (us.length + 1) cap4) u5 (us ++ [.slice ua (Fd.near W H k).length uc]) (Fd.near W H) ((gs.take k).map fun g => Fd.onto g fl)) := D4.out.below ba
    have X5 : Hid (Bf (w5.alloc (Obj.cells #[.int .i64 s] 3)) w.heap.size W H (Value.slice (some x) gs.length c) (Value.slice b1 os.length d)) := X4.out.below ba X4.out.lt
    have B5 : Hid (Below w.heap.size w (w5.alloc (Obj.cells #[.int .i64 s] 3))) := B4.out.trans (ba.mono B4.out.size)
    have Cd : Hid ((w5.alloc (Obj.cells #[.int .i64 s] 3)).cell? ⟨w5.heap.size, 0, none⟩ = some (.int .i64 s)) := by unfold Hid; simp
    have S5 : Hid (w.heap.size + 1 ≤ (w5.alloc (Obj.cells #[.int .i64 s] 3)).heap.size) := X5.out.lt
    clear ba D4 X4 B4 hs
    generalize (gs.take k).map (fun g => Fd.onto g fl) = ss at *
    go_wp2_with (at_builtin; refine app_int _ rfl _ _ rfl (w.heap.size + 1) _ ss rfl D5.out.o5 ⟨w5.heap.size, 0, none⟩ s rfl Cd.out (Nat.le_trans Lk.out (by omega)) S5.out ?_)
    intro g6 cap6 w6 o6 gr6 at6 lt6
    have D6 : Hid (Wds w6 (w.heap.size + 1) (.slice (some ⟨g4, 0, none⟩) (us.length + 1) cap4) (.slice (some ⟨g6, 0, none⟩) (ss.length + 1) cap6) (us ++ [.slice ua (Fd.near W H k).length uc]) (Fd.near W H) (ss ++ [s])) := D5.out.num o6 gr6 (by simpa using at6)
    have b6 : Below (w.heap.size + 1) (w5.alloc (Obj.cells #[.int .i64 s] 3)) w6 := (Below.refl _ _).grown gr6 S5.out (fun k hk => (D5.out.o5.block k hk).1)
    have X6 : Hid (Bf w6 w.heap.size W H (Value.slice (some x) gs.length c) (Value.slice b1 os.length d)) := X5.out.below b6 (Nat.lt_succ_self _)
    have B6 : Hid (Below w.heap.size w w6) := B5.out.trans (b6.mono (Nat.le_succ _))
    clear o6 gr6 at6 lt6 b6 D5 X5 B5 S5 Cd
    go_wp2
    go_round
    case rel => exact ⟨k + 1, us ++ [.slice ua (Fd.near W H k).length uc], by omega, by go_num, by simp [Hl.out], by rw [Hg.out]; exact D6, X6, B6⟩
    case measure => simp [intOf]; omega
 ·exact absurd rfl hz
end Go.Proofs.YteieikgkmfglaaaGreatDoor
namespace Go.Proofs.YteieikgkmfglaaaGreatDoor
open Go.RowKit
set_option linter.unusedVariables false
theorem enter_none : ∀ args w, (callFunc 126 args).run Tryz.prog w = .ok (.enter 126 args) w := by
 intro args w
 go_simp
set_option maxHeartbeats 1000000 in
theorem nocell_any (x : Int) (b n c : Nat) (a : Option Addr) (w : World) (hb : w.cell? ⟨b, 0, none⟩ = some (.slice a n c)) (hn : n ≤ 144) :
  Calls Tryz.prog 126 #[.int .i64 x, .pointer (some ⟨b, 0, none⟩)] w fun e w' => e = .returned (.bool (!decide (0 ≤ x ∧ x < n))) ∧ w' = w := by
 by_cases h1 : x < 0
 ·go_enter Tryz.func126, Tryz.ntmps126
  go_wp2
  go_ret
  exact ⟨by rw [decide_eq_false (by omega)]; rfl, rfl⟩
 ·by_cases h2 : (n : Int) ≤ x
  ·go_enter Tryz.func126, Tryz.ntmps126
   go_wp2
   go_ret
   exact ⟨by rw [decide_eq_false (by omega)]; rfl, rfl⟩
  ·go_enter Tryz.func126, Tryz.ntmps126
   go_wp2
   go_ret
   exact ⟨rfl, rfl⟩
/-- a box for a land, that may be written. -/
structure Lw (w : World) (z : Nat) (a b : Value) : Prop where
 c0 : w.cell? ⟨z, 0, none⟩ = some a
 c1 : w.cell? ⟨z, 1, none⟩ = some b
 f0 : w.frozen? ⟨z, 0, none⟩ = false
 f1 : w.frozen? ⟨z, 1, none⟩ = false
theorem Lw.mk' {w : World} {z : Nat} {a b : Value} (h : w.heap[z]? = some (.cells #[a, b] 147 (0, 0))) : Lw w z a b :=
 ⟨by simp [World.cell?, h], by simp [World.cell?, h], by simp [World.frozen?, h], by simp [World.frozen?, h]⟩
set_option maxHeartbeats 1000000 in
theorem look_bad (v u : Value) (W H : Int) (gs os : List Int) (F : Int) (fl : Bool) (w : World) (h : Fl w v W H gs os) (hF : Fd.fault W H gs os = F) (h0 : F ≠ 0) :
  Calls Tryz.prog 99 #[v, .bool fl, u] w fun e w' => e = .returned (.tuple #[.agg #[.slice none 0 0, .slice none 0 0], .iface 77 (.int .i64 F)]) ∧ Below w.heap.size w w' := by
 have F0 : Hid (Fl w v W H gs os) := h
 have HF : Hid (Fd.fault W H gs os = F) := hF
 have H0 : Hid (F ≠ 0) := h0
 obtain ⟨u1, u2, rfl, ⟨a1, c, rfl, c1, c2, ca⟩, ⟨b1, d, rfl, d1, d2, cb⟩⟩ := h
 clear hF h0 ca cb
 go_enter Tryz.func99, Tryz.ntmps99
 go_wp2_with fail
 refine (Ways_bad _ W H gs os F fl _ (F0.out.below (((Below.refl _ _).alloc (Nat.le_refl _) _).alloc (by simp) _)) HF.out H0.out).mono ?_
 rintro e w1 ⟨rfl, hb⟩
 have B1 : Hid (Below w.heap.size w w1) := (((Below.refl _ _).alloc (Nat.le_refl _) _).alloc (by simp) _).trans (hb.mono (by simp; omega))
 have blk : Hid (w1.heap[w.heap.size + 1]? = some (.cells #[.slice none 0 0, .slice none 0 0] 147 (0, 0))) := by
  unfold Hid
  rw [hb.block (w.heap.size + 1) (by simp)]
  have := heap_alloc_new (w.alloc (Obj.cells #[.int .i64 W, .int .i64 H, .slice a1 gs.length c, .slice b1 os.length d] 25)) (Obj.cells #[.slice none 0 0, .slice none 0 0] 147)
  simpa using this
 clear hb
 have blk2 : (w1.alloc (Obj.cells #[.slice none 0 0] 23)).heap[w.heap.size + 1]? = some (.cells #[.slice none 0 0, .slice none 0 0] 147 (0, 0)) := by
  rw [heap_alloc_old w1 _ (lt_of_block blk.out)]
  exact blk.out
 have B2 : Hid (Below w.heap.size w (w1.alloc (Obj.cells #[.slice none 0 0] 23))) := B1.out.alloc B1.out.size _
 go_upto_region 2 with fail
 generalize w1.alloc (Obj.cells #[.slice none 0 0] 23) = w2 at *
 obtain ⟨c0, c1, f0, f1⟩ := Lw.mk' blk2
 clear blk blk2 B1
 go_wp2
 refine bodyPost_ret (v := .tuple #[.agg #[.slice none 0 0, .slice none 0 0], .iface 77 (.int .i64 F)]) (by simp [results, Tryz.results99, go_sem, c0, c1]) rfl ?_
 exact ⟨rfl, (B2.out.setCell (Nat.le_succ _) _).setCell (Nat.le_succ _) _⟩
set_option maxHeartbeats 2000000 in
theorem look_none (v u : Value) (W H : Nat) (gs os xs : List Int) (fl : Bool) (w : World) (h : Fl w v W H gs os) (G : Fd.Good W H gs os) (hs : Sd w) (hu : Ro w u xs) (hx : xs.any (fun x => !decide (0 ≤ x ∧ x < ((W * H : Nat) : Int))) = true) :
  Calls Tryz.prog 99 #[v, .bool fl, u] w fun e w' => e = .returned (.tuple #[.agg #[.slice none 0 0, .slice none 0 0], .iface 77 (.int .i64 6)]) ∧ Below w.heap.size w w' := by
 have F0 : Hid (Fl w v W H gs os) := h
 have S0 : Hid (Sd w) := hs
 have G0 : Hid (Fd.Good W H gs os) := G
 have U0 : Hid (Ro w u xs) := hu
 have Hx : Hid (xs.any (fun x => !decide (0 ≤ x ∧ x < ((W * H : Nat) : Int))) = true) := hx
 obtain ⟨u1, u2, rfl, ⟨a1, c, rfl, c1, c2, ca⟩, ⟨b1, d, rfl, d1, d2, cb⟩⟩ := h
 clear hs hu hx ca cb
 have Gp : Hid (W * H ≤ 144) := G.pos.2
 have Gq : Hid (0 < W * H) := by have := G.pos.1; unfold Hid; omega
 have Gl : Hid (gs.length = W * H) := G.gl
 clear G
 go_enter Tryz.func99, Tryz.ntmps99
 go_wp2_with fail
 have b0 : Below w.heap.size w ((w.alloc (Obj.cells #[.int .i64 W, .int .i64 H, .slice a1 gs.length c, .slice b1 os.length d] 25)).alloc (Obj.cells #[.slice none 0 0, .slice none 0 0] 147)) := ((Below.refl _ _).alloc (Nat.le_refl _) _).alloc (by simp) _
 refine (Ways_ok _ W H gs os fl _ (F0.out.below b0) G0.out (S0.out.below b0)).mono ?_
 rintro e w1 ⟨p1, p2, us, rfl, hus, hD, hb⟩
 obtain ⟨ss, hss⟩ : ∃ ss, (gs.map fun g => Fd.onto g fl) = ss := ⟨_, rfl⟩
 have Sl : Hid (ss.length = W * H) := by unfold Hid; rw [← hss, List.length_map]; exact Gl.out
 have Hss : Hid ((gs.map fun g => Fd.onto g fl) = ss) := hss
 rw [hss] at hD
 clear hss
 have B1 : Hid (Below w.heap.size w w1) := b0.trans (hb.mono (by simp; omega))
 have blk : Hid (w1.heap[w.heap.size + 1]? = some (.cells #[.slice none 0 0, .slice none 0 0] 147 (0, 0))) := by
  unfold Hid
  rw [hb.block (w.heap.size + 1) (by simp)]
  have := heap_alloc_new (w.alloc (Obj.cells #[.int .i64 W, .int .i64 H, .slice a1 gs.length c, .slice b1 os.length d] 25)) (Obj.cells #[.slice none 0 0, .slice none 0 0] 147)
  simpa using this
 have ba : Below w1.heap.size w1 (w1.alloc (Obj.cells #[p2] 23)) := (Below.refl _ _).alloc (Nat.le_refl _) _
 have Hus : Hid (us.length = W * H) := hus
 have L2 : Hid (Wds (w1.alloc (Obj.cells #[p2] 23)) (w.heap.size + 1 + 1 + 1) p1 p2 us (Fd.near W H) ss) := by
  have := hD.below ba
  unfold Hid
  simpa using this
 have hp1 := hD.bs hus (by have := Gq.out; omega)
 have hp2 := hD.o5.ro
 clear hD hus
 have B2 : Hid (Below w.heap.size w (w1.alloc (Obj.cells #[p2] 23))) := B1.out.trans (ba.mono B1.out.size)
 have K2 : Hid ((w1.alloc (Obj.cells #[p2] 23)).heap[w.heap.size + 1]? = some (.cells #[.slice none 0 0, .slice none 0 0] 147 (0, 0))) := by
  unfold Hid
  rw [heap_alloc_old w1 _ (lt_of_block blk.out)]
  exact blk.out
 have C2 : Hid ((w1.alloc (Obj.cells #[p2] 23)).cell? ⟨w1.heap.size, 0, none⟩ = some p2) := by unfold Hid; simp
 obtain ⟨x1, e1, hp1e, -⟩ := hp1
 obtain ⟨x2, e2, hp2e, -⟩ := hp2
 subst hp1e
 subst hp2e
 clear hb ba b0 blk B1
 go_upto_region 2 with fail
 generalize w1.alloc (Obj.cells #[.slice x2 ss.length e2] 23) = w2 at *
 have U2 : Hid (Ro w2 u xs) := U0.out.below B2.out
 have c9 := C2.out
 have hc : ∀ m, ∀ x ∈ xs, Calls Tryz.prog 126 (#[.int .i64 x] ++ #[.pointer (some ⟨w1.heap.size, 0, none⟩)]) (w2.drewN m) fun e w' => e = .returned (.bool (!decide (0 ≤ x ∧ x < ((W * H : Nat) : Int)))) ∧ ∃ q, w' = w2.drewN q := by
  intro m x _
  rw [show (#[Value.int .i64 x] ++ #[Value.pointer (some ⟨w1.heap.size, 0, none⟩)] : Array Value) = #[.int .i64 x, .pointer (some ⟨w1.heap.size, 0, none⟩)] from rfl]
  refine (nocell_any x w1.heap.size (W * H) e2 x2 (w2.drewN m) ?_ Gp.out).mono ?_
  ·have := C2.out
   rw [Sl.out] at this
   exact this
  ·rintro e w' ⟨h1, h2⟩
   exact ⟨h1, m, h2⟩
 have hh := hasf_any 126 enter_none u #[.pointer (some ⟨w1.heap.size, 0, none⟩)] xs (fun x => !decide (0 ≤ x ∧ x < ((W * H : Nat) : Int))) w2 U2.out hc
 rw [Hx.out] at hh
 have H3 : Hid (Calls Tryz.prog 87 #[u, .func (Fn.func 126) #[] #[.pointer (some ⟨w1.heap.size, 0, none⟩)]] w2 fun e w' => e = .returned (.bool true) ∧ ∃ q, w' = w2.drewN q) := hh
 clear hh hc
 go_wp2_with fail
 refine Calls.mono H3.out ?_
 rintro e w3 ⟨rfl, q, rfl⟩
 clear H3
 obtain ⟨c0, c1, f0, f1⟩ := Lw.mk' (w := w2.drewN q) K2.out
 have L3 : Hid (Wds (w2.drewN q) (w.heap.size + 1 + 1 + 1) (.slice (some x1) (W * H) e1) (.slice x2 ss.length e2) us (Fd.near W H) ss) := L2.out.below (_root_.Go.below_drewN (Below.refl _ _) _)
 have B3 : Hid (Below w.heap.size w (w2.drewN q)) := _root_.Go.below_drewN B2.out _
 have c9 : (w2.drewN q).cell? ⟨w1.heap.size, 0, none⟩ = some (.slice x2 ss.length e2) := C2.out
 generalize w2.drewN q = w3 at *
 clear B2 L2 K2 C2
 go_wp2
 refine bodyPost_ret (v := .tuple #[.agg #[.slice none 0 0, .slice none 0 0], .iface 77 (.int .i64 6)]) (by simp [results, Tryz.results99, go_sem, c0, c1]) rfl ?_
 exact ⟨rfl, (B3.out.setCell (Nat.le_succ _) _).setCell (Nat.le_succ _) _⟩
set_option maxHeartbeats 2000000 in
theorem look_ok (v u : Value) (W H : Nat) (gs os xs : List Int) (fl : Bool) (w : World) (h : Fl w v W H gs os) (G : Fd.Good W H gs os) (hs : Sd w) (hu : Ro w u xs) (hx : xs.any (fun x => !decide (0 ≤ x ∧ x < ((W * H : Nat) : Int))) = false) :
  Calls Tryz.prog 99 #[v, .bool fl, u] w fun e w' => (∃ v', e = .returned (.tuple #[v', .nilIface]) ∧ Ld w' v' (W * H) (Fd.near W H) (gs.map fun g => Fd.onto g fl)) ∧ Below w.heap.size w w' := by
 have F0 : Hid (Fl w v W H gs os) := h
 have S0 : Hid (Sd w) := hs
 have G0 : Hid (Fd.Good W H gs os) := G
 have U0 : Hid (Ro w u xs) := hu
 have Hx : Hid (xs.any (fun x => !decide (0 ≤ x ∧ x < ((W * H : Nat) : Int))) = false) := hx
 obtain ⟨u1, u2, rfl, ⟨a1, c, rfl, c1, c2, ca⟩, ⟨b1, d, rfl, d1, d2, cb⟩⟩ := h
 clear hs hu hx ca cb
 have Gp : Hid (W * H ≤ 144) := G.pos.2
 have Gq : Hid (0 < W * H) := by have := G.pos.1; unfold Hid; omega
 have Gl : Hid (gs.length = W * H) := G.gl
 clear G
 go_enter Tryz.func99, Tryz.ntmps99
 go_wp2_with fail
 have b0 : Below w.heap.size w ((w.alloc (Obj.cells #[.int .i64 W, .int .i64 H, .slice a1 gs.length c, .slice b1 os.length d] 25)).alloc (Obj.cells #[.slice none 0 0, .slice none 0 0] 147)) := ((Below.refl _ _).alloc (Nat.le_refl _) _).alloc (by simp) _
 refine (Ways_ok _ W H gs os fl _ (F0.out.below b0) G0.out (S0.out.below b0)).mono ?_
 rintro e w1 ⟨p1, p2, us, rfl, hus, hD, hb⟩
 obtain ⟨ss, hss⟩ : ∃ ss, (gs.map fun g => Fd.onto g fl) = ss := ⟨_, rfl⟩
 have Sl : Hid (ss.length = W * H) := by unfold Hid; rw [← hss, List.length_map]; exact Gl.out
 have Hss : Hid ((gs.map fun g => Fd.onto g fl) = ss) := hss
 rw [hss] at hD
 clear hss
 have B1 : Hid (Below w.heap.size w w1) := b0.trans (hb.mono (by simp; omega))
 have blk : Hid (w1.heap[w.heap.size + 1]? = some (.cells #[.slice none 0 0, .slice none 0 0] 147 (0, 0))) := by
  unfold Hid
  rw [hb.block (w.heap.size + 1) (by simp)]
  have := heap_alloc_new (w.alloc (Obj.cells #[.int .i64 W, .int .i64 H, .slice a1 gs.length c, .slice b1 os.length d] 25)) (Obj.cells #[.slice none 0 0, .slice none 0 0] 147)
  simpa using this
 have ba : Below w1.heap.size w1 (w1.alloc (Obj.cells #[p2] 23)) := (Below.refl _ _).alloc (Nat.le_refl _) _
 have Hus : Hid (us.length = W * H) := hus
 have L2 : Hid (Wds (w1.alloc (Obj.cells #[p2] 23)) (w.heap.size + 1 + 1 + 1) p1 p2 us (Fd.near W H) ss) := by
  have := hD.below ba
  unfold Hid
  simpa using this
 have hp1 := hD.bs hus (by have := Gq.out; omega)
 have hp2 := hD.o5.ro
 clear hD hus
 have B2 : Hid (Below w.heap.size w (w1.alloc (Obj.cells #[p2] 23))) := B1.out.trans (ba.mono B1.out.size)
 have K2 : Hid ((w1.alloc (Obj.cells #[p2] 23)).heap[w.heap.size + 1]? = some (.cells #[.slice none 0 0, .slice none 0 0] 147 (0, 0))) := by
  unfold Hid
  rw [heap_alloc_old w1 _ (lt_of_block blk.out)]
  exact blk.out
 have C2 : Hid ((w1.alloc (Obj.cells #[p2] 23)).cell? ⟨w1.heap.size, 0, none⟩ = some p2) := by unfold Hid; simp
 obtain ⟨x1, e1, hp1e, -⟩ := hp1
 obtain ⟨x2, e2, hp2e, -⟩ := hp2
 subst hp1e
 subst hp2e
 clear hb ba b0 blk B1
 go_upto_region 2 with fail
 generalize w1.alloc (Obj.cells #[.slice x2 ss.length e2] 23) = w2 at *
 have U2 : Hid (Ro w2 u xs) := U0.out.below B2.out
 have c9 := C2.out
 have hc : ∀ m, ∀ x ∈ xs, Calls Tryz.prog 126 (#[.int .i64 x] ++ #[.pointer (some ⟨w1.heap.size, 0, none⟩)]) (w2.drewN m) fun e w' => e = .returned (.bool (!decide (0 ≤ x ∧ x < ((W * H : Nat) : Int)))) ∧ ∃ q, w' = w2.drewN q := by
  intro m x _
  rw [show (#[Value.int .i64 x] ++ #[Value.pointer (some ⟨w1.heap.size, 0, none⟩)] : Array Value) = #[.int .i64 x, .pointer (some ⟨w1.heap.size, 0, none⟩)] from rfl]
  refine (nocell_any x w1.heap.size (W * H) e2 x2 (w2.drewN m) ?_ Gp.out).mono ?_
  ·have := C2.out
   rw [Sl.out] at this
   exact this
  ·rintro e w' ⟨h1, h2⟩
   exact ⟨h1, m, h2⟩
 have hh := hasf_any 126 enter_none u #[.pointer (some ⟨w1.heap.size, 0, none⟩)] xs (fun x => !decide (0 ≤ x ∧ x < ((W * H : Nat) : Int))) w2 U2.out hc
 rw [Hx.out] at hh
 have H3 : Hid (Calls Tryz.prog 87 #[u, .func (Fn.func 126) #[] #[.pointer (some ⟨w1.heap.size, 0, none⟩)]] w2 fun e w' => e = .returned (.bool false) ∧ ∃ q, w' = w2.drewN q) := hh
 clear hh hc
 go_wp2_with fail
 refine Calls.mono H3.out ?_
 rintro e w3 ⟨rfl, q, rfl⟩
 clear H3
 obtain ⟨c0, c1, f0, f1⟩ := Lw.mk' (w := w2.drewN q) K2.out
 have L3 : Hid (Wds (w2.drewN q) (w.heap.size + 1 + 1 + 1) (.slice (some x1) (W * H) e1) (.slice x2 ss.length e2) us (Fd.near W H) ss) := L2.out.below (_root_.Go.below_drewN (Below.refl _ _) _)
 have B3 : Hid (Below w.heap.size w (w2.drewN q)) := _root_.Go.below_drewN B2.out _
 have c9 : (w2.drewN q).cell? ⟨w1.heap.size, 0, none⟩ = some (.slice x2 ss.length e2) := C2.out
 generalize w2.drewN q = w3 at *
 clear B2 L2 K2 C2
 go_wp2
 refine bodyPost_ret (v := .tuple #[.agg #[.slice (some x1) (W * H) e1, .slice x2 ss.length e2], .nilIface]) (by simp [results, Tryz.results99, go_sem, c0, c1]) rfl ?_
 have kk : Kp (w.heap.size + 1) w3 ((w3.setCell ⟨w.heap.size + 1, 0, none⟩ (.slice (some x1) (W * H) e1)).setCell ⟨w.heap.size + 1, 1, none⟩ (.slice x2 ss.length e2)) := (Kp.set _ _ _).trans (Kp.set _ _ _)
 refine ⟨⟨_, rfl, ?_⟩, (B3.out.setCell (Nat.le_succ _) _).setCell (Nat.le_succ _) _⟩
 rw [Hss.out]
 have D5 := L3.out.kp kk (by omega)
 exact ⟨_, _, rfl, D5.bs Hus.out Gq.out, D5.o5.ro, Sl.out⟩
end Go.Proofs.YteieikgkmfglaaaGreatDoor
namespace Go.Proofs.YteieikgkmfglaaaGreatDoor
open Go.RowKit
set_option linter.unusedVariables false
/-- v is a slice of the integers xs, somewhere in a block from base on. -/
def Qu (w : World) (base : Nat) (v : Value) (xs : List Int) : Prop := ∃ g off cap cur, v = .slice (some ⟨g, off, none⟩) xs.length cap ∧ base ≤ g ∧ w.heap[g]? = some (.cells cur 3 (0, 0)) ∧ xs.length ≤ cap ∧ cap ≤ maxLen ∧ off + cap ≤ cur.size ∧ ∀ (j : Nat) d, xs[j]? = some d → cur[off + j]? = some (.int .i64 d)
theorem Qu.kept {w w' : World} {base : Nat} {v : Value} {xs : List Int} (h : Qu w base v xs) (hk : ∀ k, base ≤ k → k < w.heap.size → w'.heap[k]? = w.heap[k]?) : Qu w' base v xs := by
 obtain ⟨g, off, cap, cur, h1, h2, h3, h4⟩ := h
 exact ⟨g, off, cap, cur, h1, h2, by rw [hk g h2 (lt_of_block h3)]; exact h3, h4⟩
theorem Qu.below {w w' : World} {base : Nat} {v : Value} {xs : List Int} (h : Qu w base v xs) (hb : Below w.heap.size w w') : Qu w' base v xs := h.kept fun k _ hk => hb.block k hk
theorem Qu.kp {w w' : World} {base b : Nat} {v : Value} {xs : List Int} (h : Qu w base v xs) (hk : Kp b w w') (hb : b < base) : Qu w' base v xs := h.kept fun k h1 h2 => hk.block k h2 (by omega)
theorem Qu.one {w : World} {base z : Nat} (d : Int) (hb : base ≤ w.heap.size) (hz : w.heap.size = z) : Qu (w.alloc (.cells #[.int .i64 d] 3)) base (.slice (some ⟨z, 0, none⟩) 1 1) [d] := by
 subst hz
 refine ⟨_, 0, 1, _, rfl, hb, heap_alloc_new w _, Nat.le_refl _, by unfold maxLen; decide, Nat.le_refl _, fun j e he => ?_⟩
 match j, he with
 | 0, he => simp at he; subst he; rfl
/-- the first one. -/
theorem Qu.first {w : World} {base : Nat} {v : Value} {x : Int} {xs : List Int} (h : Qu w base v (x :: xs)) : ∃ g off cap, v = .slice (some ⟨g, off, none⟩) (xs.length + 1) cap ∧ xs.length + 1 ≤ cap ∧ cap ≤ 9223372036854775807 ∧ w.cell? ⟨g, off, none⟩ = some (.int .i64 x) := by
 obtain ⟨g, off, cap, cur, h1, h2, h3, h4, h5, h6, h7⟩ := h
 refine ⟨g, off, cap, h1, h4, by unfold maxLen at h5; omega, ?_⟩
 have := h7 0 x rfl
 simp only [World.cell?, h3]
 exact this
/-- without the first one. -/
theorem Qu.rest {w : World} {base : Nat} {v : Value} {x : Int} {xs : List Int} (h : Qu w base v (x :: xs)) : ∃ v', Qu w base v' xs ∧ ∀ W, (Instr.slice 23 v (some (.int .i64 1)) none none).run Tryz.prog W = .ok v' W := by
 obtain ⟨g, off, cap, cur, h1, h2, h3, h4, h5, h6, h7⟩ := h
 subst h1
 obtain ⟨i0, hi, hz0, hz1, hz2⟩ := info_parts info_int
 have hu : Tryz.prog.underlying 23 = some (.slice 3) := Tryz.underlying23
 have he : Tryz.prog.elem 23 = 3 := by simp [Program.elem, hu]
 simp only [List.length_cons] at h4 h6
 have h5' : cap ≤ 9223372036854775807 := by unfold maxLen at h5; omega
 by_cases hc : cap = 1
 ·subst hc
  have hx : xs = [] := List.length_eq_zero_iff.1 (by omega)
  subst hx
  refine ⟨.slice (some ⟨g, off, none⟩) 0 0, ⟨g, off, 0, cur, rfl, h2, h3, Nat.le_refl _, by omega, by omega, fun j d hd => by simp at hd⟩, fun W => ?_⟩
  refine (run_slice_l (P := Tryz.prog) W 23 (some ⟨g, off, none⟩) 1 1 (by rw [he]; exact hu) .i64 1 (by decide) (by decide)).trans ?_
  rw [he]
  simp [sizeOf, typeInfo, hi, hz1, sliced]
 ·refine ⟨.slice (some ⟨g, off + 1, none⟩) xs.length (cap - 1), ⟨g, off + 1, cap - 1, cur, rfl, h2, h3, by omega, by omega, by omega, fun j d hd => ?_⟩, fun W => ?_⟩
  ·have := h7 (j + 1) d (by simpa using hd)
   rwa [show off + (j + 1) = off + 1 + j by omega] at this
  ·refine (run_slice_l (P := Tryz.prog) W 23 (some ⟨g, off, none⟩) (xs.length + 1) cap (by rw [he]; exact hu) .i64 1 (by decide) (by omega)).trans ?_
   rw [he]
   simp [sizeOf, typeInfo, hi, hz1, sliced, hc, Addr.add_lit]
/-- one more. -/
theorem app_q {ops : Array Oper} {rest : List Oper} {o : Oper} {a : Act} {Q : Exit → Act → World → Prop} (w : World) (hgd : o.guard = none) (s x : Operand)
  (ho : o.op = .call { callee := .builtin .append, args := #[s, x], argTypes := #[23, 23] }) (base : Nat) (v : Value) (xs : List Int) (hs : a.eval s = v) (hq : Qu w base v xs)
  (ad : Addr) (d : Int) (hx : a.eval x = .slice (some ad) 1 1) (hd : w.cell? ad = some (.int .i64 d)) (hl : xs.length ≤ 1000000) (hbase : base ≤ w.heap.size)
  (h : ∀ v' w', Qu w' base v' (xs ++ [d]) → Below base w w' → wpList Tryz.prog ops Q rest (a.put o.dst v') w') :
  wpList Tryz.prog ops Q (o :: rest) a w := by
 obtain ⟨i0, hi, hz0, hz1, hz2⟩ := info_parts info_int
 obtain ⟨g, off, cap, cur, h1, h2, h3, h4, h5, h6, h7⟩ := hq
 subst h1
 have hcell : ∀ k, k < cur.size → w.cell? ⟨g, k, none⟩ = cur[k]? := fun k hk => by simp [World.cell?, h3]
 refine wpList_append_arg w hgd s x 23 ho 3 i0 (.int .i64 0) 1 8 Tryz.underlying23 hi hz0 hz1 hz2 rfl (by decide) g off xs.length cap (xs.map (Value.int .i64)) hs (by simp) ?_ ad 1 1 [.int .i64 d] hx rfl ?_ ?_ ?_ (by unfold maxLen; omega) (by omega) ?_ ?_
 ·intro j u hj
  rw [List.getElem?_map] at hj
  cases hxj : xs[j]? with
  | none => rw [hxj] at hj; cases hj
  | some y =>
   rw [hxj] at hj
   simp only [Option.map_some, Option.some.injEq] at hj
   have hlt : j < xs.length := (List.getElem?_eq_some_iff.1 hxj).1
   rw [hcell _ (by omega), h7 j y hxj, hj]
 ·intro j u hj
  match j, hj with
  | 0, hj => simp at hj; subst hj; exact hd
 ·intro u hu
  simp at hu
  subst hu
  rfl
 ·intro hr j hj
  have hj0 : j = 0 := by
   have : [Value.int .i64 d].length = 1 := rfl
   omega
  subst hj0
  rw [hcell _ (by omega)]
  refine ⟨?_, by simp [World.frozen?, h3]⟩
  rw [Array.getElem?_eq_getElem (by omega)]
  rfl
 ·intro hr
  refine h _ _ ?_ ?_
  ·refine ⟨g, off, cap, cur.setIfInBounds (off + xs.length) (.int .i64 d), by simp, h2, ?_, by simpa using hr, h5, by simpa using h6, fun j e he => ?_⟩
   ·have := heap_setCell_same w g (off + xs.length) _ _ (.int .i64 d) h3
    simpa [World.setCells] using this
   ·rw [List.getElem?_append] at he
    by_cases hj : j < xs.length
    ·rw [if_pos hj] at he
     rw [Array.getElem?_setIfInBounds_ne (by omega)]
     exact h7 j e he
    ·rw [if_neg hj] at he
     have hj0 : j - xs.length = 0 := by
      rcases Nat.eq_zero_or_pos (j - xs.length) with h | h
      ·exact h
      ·rw [List.getElem?_eq_none (by simp; omega)] at he; cases he
     rw [hj0] at he
     simp at he
     subst he
     rw [show off + j = off + xs.length by omega, Array.getElem?_setIfInBounds_self_of_lt (by omega)]
  ·simp only [World.setCells, Nat.mul_one]
   exact ⟨rfl, rfl, rfl, by simp [World.setCell], fun k hk => Below.heap_setCell _ _ _ _ (by show k ≠ g; omega)⟩
 ·intro hg v' w' ho' hgr
  refine h _ _ ?_ ((Below.refl _ _).grown hgr hbase (fun k hk => by cases hk))
  rcases ho'.2 with ⟨_, h0⟩ | ⟨g', cap', cur', e1, e2, e3, e4, e5, e6, e7⟩
  ·omega
  ·refine ⟨g', 0, cap', cur', by rw [e1]; simp, by omega, e3, by simpa using e4, e5, by omega, fun j e he => ?_⟩
   rw [Nat.zero_add, ← Array.getElem?_toList]
   have hj : j < xs.length + 1 := by
    have := (List.getElem?_eq_some_iff.1 he).1
    simpa using this
   have : (cur'.toList.take ((xs.length + 1) * 1))[j]? = some (.int .i64 e) := by
    rw [e7, show xs.map (Value.int .i64) ++ [Value.int .i64 d] = (xs ++ [d]).map (Value.int .i64) by simp, List.getElem?_map, he]
    rfl
   rw [List.getElem?_take, if_pos (by omega)] at this
   exact this
end Go.Proofs.YteieikgkmfglaaaGreatDoor
namespace Go.Proofs.YteieikgkmfglaaaGreatDoor
open Go.RowKit
set_option linter.unusedVariables false
theorem and_low (n : Nat) (h : n ≤ 144) : n &&& 4294967295 = n := by
 have := Nat.and_two_pow_sub_one_eq_mod n 32
 rw [show 2 ^ 32 - 1 = 4294967295 from rfl] at this
 rw [this]
 exact Nat.mod_eq_of_lt (by omega)
set_option maxHeartbeats 1000000 in
theorem mul64_one (n : Nat) (w : World) (h : n ≤ 144) :
  Calls Tryz.prog 178 #[.int .u64 1, .int .u64 (n : Nat)] w fun e w' => e = .returned (.tuple #[.int .u64 0, .int .u64 (n : Nat)]) ∧ w' = w := by
 have e1 : bits BinOp.and IntKind.u64 1 4294967295 = 1 := bits_and_u64_nat 1 4294967295 (by omega) (by omega)
 have e2 : bits BinOp.and IntKind.u64 (n : Int) 4294967295 = (n : Int) := by
  have := bits_and_u64_nat n 4294967295 (by omega) (by omega)
  rw [and_low n h] at this
  exact this
 have e3 : (n : Int) / 4294967296 = 0 := by omega
 have e4 : bits BinOp.and IntKind.u64 0 4294967295 = 0 := bits_and_u64_nat 0 4294967295 (by omega) (by omega)
 go_enter Tryz.func178, Tryz.ntmps178
 go_wp2
 go_ret2
 exact ⟨rfl, rfl⟩
set_option maxHeartbeats 1000000 in
theorem mul_one (n : Nat) (w : World) (h : n ≤ 144) :
  Calls Tryz.prog 167 #[.int .u64 1, .int .u64 (n : Nat)] w fun e w' => e = .returned (.tuple #[.int .u64 0, .int .u64 (n : Nat)]) ∧ w' = w := by
 go_enter Tryz.func167, Tryz.ntmps167
 go_wp2_with (go_at_call 178; refine (mul64_one _ _ h).mono ?_; rintro e w' ⟨rfl, rfl⟩)
 go_ret2
 exact ⟨rfl, rfl⟩
/-- the first m are vv, of n. -/
def rpCells (vv : Int) (n m : Nat) : Array Value := (List.replicate m (Value.int .i64 vv) ++ List.replicate (n - m) (Value.int .i64 0)).toArray
def Rp (vv : Int) (w : World) (b n m : Nat) : Prop := w.heap[b]? = some (.cells (rpCells vv n m) 3 (0, 0))
theorem Rp.bk {vv : Int} {w : World} {b n : Nat} (h : Rp vv w b n n) : Bk w b (List.replicate n vv) #[] := by
 unfold Rp at h
 unfold Bk
 rw [h]
 simp [intCells, rpCells]
theorem Rp.cell {vv : Int} {w : World} {b n m : Nat} (h : Rp vv w b n m) {i : Nat} (hi : i < m) : w.cell? ⟨b, i, none⟩ = some (.int .i64 vv) := by
 unfold Rp at h
 simp only [World.cell?, h]
 simp [rpCells, List.getElem?_append, hi]
theorem Rp.lt {vv : Int} {w : World} {b n m : Nat} (h : Rp vv w b n m) : b < w.heap.size := lt_of_block h
theorem info_int1 : (Tryz.prog.info? 3).map (·.size) = some 1 := by kernel_rfl
theorem rep_more (a z : Value) (n m k : Nat) (h : m + k ≤ n) : (List.replicate m a ++ List.replicate (n - m) z).take m ++ List.replicate k a ++ (List.replicate m a ++ List.replicate (n - m) z).drop (m + k) = List.replicate (m + k) a ++ List.replicate (n - (m + k)) z := by
 rw [List.take_left' (by simp), List.drop_append, List.length_replicate, List.drop_eq_nil_of_le (by simp), List.nil_append, List.drop_replicate, List.replicate_append_replicate]
 congr 2
 omega
/-- k more of them. -/
theorem rp_copy (vv : Int) (w : World) (b n m k : Nat) (dLen dCap sLen sCap : Nat) (x : Addr) (h : Rp vv w b n m) (hn : k = Nat.min sLen dLen) (hk : m + k ≤ n) (hs : ∀ j, j < k → w.cell? (x.add j) = some (.int .i64 vv)) :
  (Builtin.copy_ #[23, 23] 3 #[.slice (some ⟨b, m, none⟩) dLen dCap, .slice (some x) sLen sCap]).run Tryz.prog w = .ok (.int .i64 (k : Nat)) (w.setRow b (rpCells vv n (m + k))) ∧ Rp vv (w.setRow b (rpCells vv n (m + k))) b n (m + k) ∧ Kp b w (w.setRow b (rpCells vv n (m + k))) := by
 unfold Rp at h
 have r := run_copy_row (P := Tryz.prog) w 23 23 3 3 b m dLen dCap x sLen sCap _ 3 (List.replicate k (.int .i64 vv)) Tryz.underlying23 info_int1 h (by simp [hn]) (fun j v hv => by
  rw [List.getElem?_replicate] at hv
  split at hv
  ·injection hv with hv
   rw [← hv]
   exact hs j (by assumption)
  ·cases hv) (by simp [rpCells]; omega) (fun v hv => by rw [List.eq_of_mem_replicate hv]; rfl)
 rw [List.length_replicate, show (rpCells vv n m).toList = List.replicate m (Value.int .i64 vv) ++ List.replicate (n - m) (Value.int .i64 0) from rfl, rep_more _ _ n m k hk] at r
 exact ⟨r, setRow_heap w b _ _ _ _ h, ⟨rfl, rfl, rfl, by simp, fun i _ hi => setRow_other w b i _ hi⟩⟩
set_option maxRecDepth 100000 in
set_option maxHeartbeats 2000000 in
theorem repeat_ok (vv : Int) (u : Value) (n : Nat) (w : World) (hu : Ro w u [vv]) (n0 : 0 < n) (n1 : n ≤ 144) :
  Calls Tryz.prog 151 #[u, .int .i64 (n : Nat)] w fun e w' => ∃ b, e = .returned (.slice (some ⟨b, 0, none⟩) n n) ∧ w.heap.size ≤ b ∧ Bk w' b (List.replicate n vv) #[] ∧ Below w.heap.size w w' := by
 obtain ⟨a, c, rfl, c1, c2, ca⟩ := hu
 obtain ⟨x, rfl, xl, hx⟩ := ca (by simp)
 have cx : Hid (w.cell? (x.add 0) = some (.int .i64 vv) ∧ x.block < w.heap.size) := ⟨hx 0 _ rfl, xl⟩
 clear ca hx xl
 simp only [List.length_cons, List.length_nil, Nat.zero_add] at c1 ⊢
 go_enter Tryz.func151, Tryz.ntmps151
 go_wp2_with fail
 refine (mul_one _ _ n1).mono ?_
 rintro e w' ⟨rfl, rfl⟩
 have h9 : ¬ (9223372036854775807 : Int) < (n : Int) := by omega
 go_wp2_with (at_make; obtain ⟨i0, hi, hz0, hz1, hz2⟩ := info_parts info_int; refine wpList_make_full _ rfl _ _ 23 rfl w'.heap.size 3 i0 (.int .i64 0) 1 Tryz.underlying23 hi hz0 hz1 _ _ _ _ n rfl rfl rfl rfl (by rw [hz2]; omega) (by unfold maxLen; omega) (Nat.le_refl _) ?_)
 intro w1 o1 g1
 clear hi hz0 hz1 hz2 h9
 have P1 : Hid (Rp vv w1 w'.heap.size n 0) := by
  rcases o1.2 with ⟨h, _⟩ | ⟨g, cap, cur, hv, hb, hg, h1, h2, h3, h4⟩
  ·cases h
  ·cases hv
   unfold Hid Rp rpCells
   rw [hg]
   congr 1
   have e : cur.toList = List.replicate n (Value.int .i64 0) := by
    have := toList_madeCells_one (.int .i64 0) n
    rw [List.take_of_length_le (by simp; omega)] at h4
    rw [h4]
    exact this
   simp only [List.replicate_zero, List.nil_append, Nat.sub_zero]
   rw [← e]
 have B1 : Hid (Below w'.heap.size w' w1) := (Below.refl _ _).grown g1 (Nat.le_refl _) (fun k hk => by cases hk)
 clear o1 g1
 obtain ⟨r2, p2, k2⟩ := rp_copy vv w1 w'.heap.size n 0 1 n n 1 c x P1.out (by show 1 = min 1 n; omega) (by omega) (fun j hj => by
  rw [show j = 0 by omega, B1.out.cell (p := x.add 0) (by rw [add_block]; exact cx.out.2)]
  exact cx.out.1)
 simp only [Nat.zero_add] at r2 p2 k2
 generalize w1.setRow w'.heap.size (rpCells vv n 1) = w2 at *
 have P2 : Hid (Rp vv w2 w'.heap.size n 1) := p2
 have B2 : Hid (Below w'.heap.size w' w2) := k2.below B1.out B1.out.size (Nat.le_refl _)
 clear p2 k2 P1 B1
 go_wp2
 clear r2
 obtain ⟨z, hz⟩ : ∃ z, w'.heap.size = z := ⟨_, rfl⟩
 rw [hz] at P2 B2
 simp only [hz]
 have Hz : Hid (w'.heap.size = z) := hz
 clear hz
 go_loopw [8] (fun i W' => ∃ m : Nat, 1 ≤ m ∧ m ≤ n ∧ i = .int .i64 (m : Nat) ∧ Rp vv W' z n m ∧ Below z w' W') (fun i _ => n - (intOf i).toNat)
 case atStart => exact ⟨1, Nat.le_refl _, n0, rfl, P2, B2⟩
 case round =>
  obtain ⟨m, m1, m2, rfl, hp, hb⟩ := hrel
  have P : Hid (Rp vv wr z n m) := hp
  have B : Hid (Below z w' wr) := hb
  clear hp hb P2 B2
  by_cases h0 : m = n
  ·subst h0
   go_wp2
   go_ret
   exact ⟨z, rfl, by rw [Hz.out]; exact Nat.le_refl _, P.out.bk, by rw [Hz.out]; exact B⟩
  ·have hm : m < n := by omega
   obtain ⟨k, hk⟩ : ∃ k, k = Nat.min m (n - m) := ⟨_, rfl⟩
   have hk' : k ≤ m ∧ k ≤ n - m ∧ 0 < k := by
    have : k = min m (n - m) := hk
    omega
   have rr : (Builtin.copy_ #[23, 23] 3 #[.slice (some ⟨z, m, none⟩) (n - m) (n - m), .slice (some ⟨z, 0, none⟩) m n]).run Tryz.prog wr.drew = .ok (.int .i64 (k : Nat)) (wr.drew.setRow z (rpCells vv n (m + k))) ∧ _ :=
    rp_copy vv wr.drew z n m k (n - m) (n - m) m n ⟨z, 0, none⟩ P.out hk (by omega) (fun j hj => by
     rw [Addr.add_lit, Nat.zero_add]
     exact Rp.cell (w := wr) P.out (by omega))
   obtain ⟨r1, p1, q1⟩ := rr
   have P1 : Hid (Rp vv (wr.drew.setRow z (rpCells vv n (m + k))) z n (m + k)) := p1
   have B1 : Hid (Below z w' (wr.drew.setRow z (rpCells vv n (m + k)))) := q1.below B.out.drew (by have := P.out.lt; show z ≤ wr.heap.size; omega) (Nat.le_refl _)
   obtain ⟨k1, k2, k3⟩ := hk'
   clear hk p1 q1
   generalize wr.drew.setRow z (rpCells vv n (m + k)) = w3 at *
   go_wp2
   go_region
   clear r1
   go_wp2
   go_round
   case rel => exact ⟨m + k, by omega, by omega, by go_num, P1, B1⟩
   case measure => simp [intOf]; omega
end Go.Proofs.YteieikgkmfglaaaGreatDoor
namespace Go.Proofs.YteieikgkmfglaaaGreatDoor.Wy
/-- there is a way from a cell to t whose steps come to d. -/
inductive Way (nb : Nat → List Int) (st : Nat → Nat → Int) (t : Nat) : Nat → Int → Prop
 | here : Way nb st t t 0
 | step {i j : Nat} {d : Int} : (j : Int) ∈ nb i → 0 < st i j → Way nb st t j d → Way nb st t i (st i j + d)
section
variable {nb : Nat → List Int} {st : Nat → Nat → Int} {t : Nat}
theorem Way.nonneg {i : Nat} {d : Int} (h : Way nb st t i d) : 0 ≤ d := by
 induction h with
 | here => omega
 | step _ h1 _ ih => omega
/-- x is how far it is from i: -1, if there is no way. -/
def Least (nb : Nat → List Int) (st : Nat → Nat → Int) (t i : Nat) (x : Int) : Prop :=
 (x = -1 ∧ ∀ d, ¬ Way nb st t i d) ∨ (Way nb st t i x ∧ ∀ d, Way nb st t i d → x ≤ d)
theorem Least.uniq {i : Nat} {x y : Int} (hx : Least nb st t i x) (hy : Least nb st t i y) : x = y := by
 rcases hx with ⟨rfl, hx⟩ | ⟨h1, h2⟩
 ·rcases hy with ⟨rfl, _⟩ | ⟨h3, _⟩
  ·rfl
  ·exact absurd h3 (hx _)
 ·rcases hy with ⟨rfl, hy⟩ | ⟨h3, h4⟩
  ·exact absurd h1 (hy _)
  ·have := h2 _ h3
   have := h4 _ h1
   omega
/-- the list of all. -/
def IsFar (nb : Nat → List Int) (st : Nat → Nat → Int) (t n : Nat) (l : List Int) : Prop := l.length = n ∧ ∀ (i : Nat) x, l[i]? = some x → Least nb st t i x
theorem IsFar.uniq {n : Nat} {l m : List Int} (hl : IsFar nb st t n l) (hm : IsFar nb st t n m) : l = m := by
 apply List.ext_getElem?
 intro i
 by_cases h : i < n
 ·have h1 : i < l.length := by rw [hl.1]; exact h
  have h2 : i < m.length := by rw [hm.1]; exact h
  rw [List.getElem?_eq_getElem h1, List.getElem?_eq_getElem h2, (hl.2 i _ (List.getElem?_eq_getElem h1)).uniq (hm.2 i _ (List.getElem?_eq_getElem h2))]
 ·rw [List.getElem?_eq_none (by rw [hl.1]; omega), List.getElem?_eq_none (by rw [hm.1]; omega)]
/-- what is told is so: there is such a way. -/
def Sound (nb : Nat → List Int) (st : Nat → Nat → Int) (t : Nat) (l : List Int) : Prop := ∀ (i : Nat) x, l[i]? = some x → x = -1 ∨ Way nb st t i x
/-- from no cell is it further than from one beside it, and the step onto that. -/
def Shut (nb : Nat → List Int) (st : Nat → Nat → Int) (l : List Int) (i : Nat) : Prop := ∀ (j : Nat) x y, l[i]? = some x → l[j]? = some y → (j : Int) ∈ nb i → 0 < st i j → 0 ≤ y → 0 ≤ x ∧ x ≤ st i j + y
/-- what is sound and shut is how far it is. -/
theorem far_of {n : Nat} {l : List Int} (hn : l.length = n) (hnb : ∀ (i j : Nat), i < n → (j : Int) ∈ nb i → j < n) (ht : l[t]? = some 0) (hs : Sound nb st t l) (hc : ∀ i, i < n → Shut nb st l i) : IsFar nb st t n l := by
 have key : ∀ i d, Way nb st t i d → i < n → ∃ x, l[i]? = some x ∧ 0 ≤ x ∧ x ≤ d := by
  intro i d h
  induction h with
  | here => intro _; exact ⟨0, ht, by omega, by omega⟩
  | @step i j d h1 h2 h3 ih =>
   intro hi
   obtain ⟨y, hy, y0, yd⟩ := ih (hnb i j hi h1)
   have hx : i < l.length := by rw [hn]; exact hi
   have := hc i hi j _ y (List.getElem?_eq_getElem hx) hy h1 h2 y0
   exact ⟨_, List.getElem?_eq_getElem hx, this.1, by omega⟩
 refine ⟨hn, fun i x hx => ?_⟩
 have hi : i < n := by rw [← hn]; exact (List.getElem?_eq_some_iff.1 hx).1
 rcases hs i x hx with rfl | hw
 ·refine .inl ⟨rfl, fun d hd => ?_⟩
  obtain ⟨x, h1, h2, -⟩ := key i d hd hi
  rw [hx] at h1
  injection h1 with h1
  omega
 ·refine .inr ⟨hw, fun d hd => ?_⟩
  obtain ⟨y, h1, h2, h3⟩ := key i d hd hi
  rw [hx] at h1
  injection h1 with h1
  omega
/-- one cell nearer. -/
theorem Sound.set {l : List Int} {i j : Nat} {y : Int} (h : Sound nb st t l) (hy : l[j]? = some y) (hj : (j : Int) ∈ nb i) (hs : 0 < st i j) (y0 : 0 ≤ y) : Sound nb st t (l.set i (st i j + y)) := by
 intro k x hk
 rw [List.getElem?_set] at hk
 by_cases e : i = k
 ·subst e
  by_cases hl : i < l.length
  ·simp only [hl, if_true] at hk
   injection hk with hk
   subst hk
   rcases h j y hy with rfl | hw
   ·omega
   ·exact .inr (.step hj hs hw)
  ·simp [hl] at hk
 ·rw [if_neg e] at hk
  exact h k x hk
end
/-! how often a cell may get nearer. -/
/-- what is left. -/
def left (M : Nat) (l : List Int) : Nat := (l.map fun x => if x < 0 then M else x.toNat).sum
/-- how many are told. -/
def told (l : List Int) : Nat := (l.map fun x => if x < 0 then 0 else 1).sum
theorem sum_set (f : Int → Nat) (l : List Int) (i : Nat) (x v : Int) (h : l[i]? = some x) : ((l.set i v).map f).sum + f x = (l.map f).sum + f v := by
 induction l generalizing i with
 | nil => simp at h
 | cons a l ih =>
  cases i with
  | zero =>
   simp at h
   subst h
   simp
   omega
  | succ i =>
   simp at h
   have := ih i h
   simp only [List.set_cons_succ, List.map_cons, List.sum_cons]
   omega
theorem left_le (M : Nat) (l : List Int) (h : ∀ x ∈ l, x ≤ M) : left M l ≤ l.length * M := by
 unfold left
 induction l with
 | nil => simp
 | cons a l ih =>
  have h1 := ih (fun x hx => h x (List.mem_cons_of_mem _ hx))
  have h2 := h a (List.mem_cons_self ..)
  simp only [List.map_cons, List.sum_cons, List.length_cons, Nat.add_mul, Nat.one_mul]
  split <;> omega
theorem told_le (l : List Int) : told l ≤ l.length := by
 unfold told
 induction l with
 | nil => simp
 | cons a l ih =>
  simp only [List.map_cons, List.sum_cons, List.length_cons]
  split <;> omega
/-- no cell is further than two for each that is told, but one. -/
def Flat (l : List Int) : Prop := ∀ (i : Nat) x, l[i]? = some x → x < 0 ∨ x + 2 ≤ 2 * told l
theorem Flat.set {l : List Int} {i j : Nat} {x y s : Int} (h : Flat l) (hx : l[i]? = some x) (hy : l[j]? = some y) (y0 : 0 ≤ y) (s0 : 0 < s) (s2 : s ≤ 2) (hn : x < 0 ∨ s + y < x) : Flat (l.set i (s + y)) := by
 have e := sum_set (fun x => if x < 0 then 0 else 1) l i x (s + y) hx
 have ht : told (l.set i (s + y)) + (if x < 0 then 0 else 1) = told l + 1 := by
  unfold told
  rw [e, if_neg (show ¬ s + y < 0 by omega)]
 have hyl := h j y hy
 have hxl := h i x hx
 intro k z hk
 rw [List.getElem?_set] at hk
 by_cases ek : i = k
 ·subst ek
  have hl : i < l.length := (List.getElem?_eq_some_iff.1 hx).1
  simp only [hl, if_true] at hk
  injection hk with hk
  subst hk
  right
  by_cases q : x < 0
  ·rw [if_pos q] at ht; omega
  ·rw [if_neg q] at ht; omega
 ·rw [if_neg ek] at hk
  have hz := h k z hk
  by_cases q : x < 0
  ·rw [if_pos q] at ht; omega
  ·rw [if_neg q] at ht; omega
theorem left_set {l : List Int} {i j n : Nat} {x y s : Int} (h : Flat l) (hl : l.length = n) (hx : l[i]? = some x) (hy : l[j]? = some y) (y0 : 0 ≤ y) (s0 : 0 < s) (s2 : s ≤ 2) (hn : x < 0 ∨ s + y < x) : left (2 * n + 1) (l.set i (s + y)) < left (2 * n + 1) l := by
 have e := sum_set (fun x => if x < 0 then 2 * n + 1 else x.toNat) l i x (s + y) hx
 have hyl := h j y hy
 have ht := told_le l
 unfold left
 rw [if_neg (show ¬ s + y < 0 by omega)] at e
 by_cases q : x < 0
 ·rw [if_pos q] at e; omega
 ·rw [if_neg q] at e; omega
/-! a list of cells to go on from. -/
section
variable {nb : Nat → List Int} {st : Nat → Nat → Int} {t n : Nat}
/-- Shut, of one pair. -/
def Pr (nb : Nat → List Int) (st : Nat → Nat → Int) (l : List Int) (i j : Nat) : Prop := ∀ x y, l[i]? = some x → l[j]? = some y → (j : Int) ∈ nb i → 0 < st i j → 0 ≤ y → 0 ≤ x ∧ x ≤ st i j + y
/-- cells beside one another are so either way; none is beside itself; a step is 2 at most. -/
structure Even (nb : Nat → List Int) (st : Nat → Nat → Int) (n : Nat) : Prop where
 cell : ∀ (i : Nat) x, i < n → x ∈ nb i → ∃ j : Nat, x = j ∧ j < n ∧ (i : Int) ∈ nb j
 other : ∀ (i : Nat), i < n → (i : Int) ∉ nb i
 two : ∀ i j, st i j ≤ 2
theorem Even.lt (h : Even nb st n) : ∀ (i j : Nat), i < n → (j : Int) ∈ nb i → j < n := fun i j hi hj => by
 obtain ⟨k, e, hk, -⟩ := h.cell i j hi hj
 have : j = k := by omega
 omega
theorem Even.back (h : Even nb st n) {i j : Nat} (hi : i < n) (hj : (j : Int) ∈ nb i) : (i : Int) ∈ nb j := by
 obtain ⟨k, e, hk, hb⟩ := h.cell i j hi hj
 have : j = k := by omega
 rw [this]
 exact hb
/-- between two rounds: td, the cells to go on from. -/
structure Wk (nb : Nat → List Int) (st : Nat → Nat → Int) (t n : Nat) (l : List Int) (td : List Nat) : Prop where
 len : l.length = n
 here : l[t]? = some 0
 sound : Sound nb st t l
 flat : Flat l
 todo : ∀ j ∈ td, ∃ y, l[j]? = some y ∧ 0 ≤ y
 shut : ∀ i j, j ∉ td → Pr nb st l i j
/-- in a round: k cells beside the first one have been looked at. -/
structure Wiy (nb : Nat → List Int) (st : Nat → Nat → Int) (t n : Nat) (l : List Int) (a : Nat) (rest : List Nat) (k : Nat) : Prop where
 wk : Wk nb st t n l (a :: rest)
 mid : ∀ (q i : Nat), q < k → (nb a)[q]? = some (i : Int) → Pr nb st l i a
theorem Wk.start (ht : t < n) : Wk nb st t n ((List.replicate n (-1)).set t 0) [t] := by
 have get : ∀ (i : Nat) x, ((List.replicate n (-1 : Int)).set t 0)[i]? = some x → (i = t ∧ x = 0) ∨ (i ≠ t ∧ x = -1) := by
  intro i x hx
  rw [List.getElem?_set] at hx
  by_cases e : t = i
  ·subst e
   rw [if_pos rfl, List.length_replicate, if_pos ht] at hx
   injection hx with hx
   exact .inl ⟨rfl, hx.symm⟩
  ·rw [if_neg e, List.getElem?_replicate] at hx
   split at hx
   ·injection hx with hx
    exact .inr ⟨fun h => e h.symm, hx.symm⟩
   ·cases hx
 have h0 : ((List.replicate n (-1 : Int)).set t 0)[t]? = some 0 := by
  rw [List.getElem?_set, if_pos rfl, List.length_replicate, if_pos ht]
 refine ⟨by simp, h0, fun i x hx => ?_, fun i x hx => ?_, fun j hj => ?_, fun i j hj x y hx hy => ?_⟩
 ·rcases get i x hx with ⟨rfl, rfl⟩ | ⟨_, rfl⟩
  ·exact .inr .here
  ·exact .inl rfl
 ·rcases get i x hx with ⟨rfl, rfl⟩ | ⟨_, rfl⟩
  ·right
   have e := sum_set (fun x => if x < 0 then 0 else 1) (List.replicate n (-1)) i (-1) 0 (by rw [List.getElem?_replicate, if_pos ht])
   have : told ((List.replicate n (-1)).set i 0) = ((List.replicate n (-1 : Int)).map fun x => if x < 0 then 0 else 1).sum + 1 := by
    unfold told
    simpa using e
   omega
  ·left; omega
 ·simp at hj
  subst hj
  exact ⟨0, h0, by omega⟩
 ·intro _ _ y0
  rcases get j y hy with ⟨rfl, rfl⟩ | ⟨_, rfl⟩
  ·simp at hj
  ·omega
theorem left_start (ht : t < n) (hn : n ≤ 144) : left (2 * n + 1) ((List.replicate n (-1)).set t 0) ≤ 41616 := by
 refine Nat.le_trans (left_le _ _ fun x hx => ?_) ?_
 ·rcases List.mem_or_eq_of_mem_set hx with h | h
  ·rw [List.eq_of_mem_replicate h]; omega
  ·omega
 ·rw [List.length_set, List.length_replicate]
  exact Nat.mul_le_mul hn (show 2 * n + 1 ≤ 289 by omega)
theorem Wiy.skip {l : List Int} {a b k : Nat} {rest : List Nat} {x y : Int} (h : Wiy nb st t n l a rest k) (hb : (nb a)[k]? = some (b : Int)) (hx : l[b]? = some x) (hy : l[a]? = some y) (hs : 0 < st b a → 0 ≤ x ∧ x ≤ st b a + y) : Wiy nb st t n l a rest (k + 1) := by
 refine ⟨h.wk, fun q i hq hi => ?_⟩
 by_cases e : q = k
 ·subst e
  rw [hb] at hi
  injection hi with hi
  have : b = i := by omega
  subst this
  intro x' y' hx' hy' _ h0 _
  rw [hx] at hx'
  rw [hy] at hy'
  injection hx' with hx'
  injection hy' with hy'
  subst hx'
  subst hy'
  exact hs h0
 ·exact h.mid q i (by omega) hi
theorem Wiy.set {l : List Int} {a b k : Nat} {rest : List Nat} {x y : Int} (E : Even nb st n) (h : Wiy nb st t n l a rest k) (hb : (nb a)[k]? = some (b : Int)) (hx : l[b]? = some x) (hy : l[a]? = some y) (h0 : 0 < st b a) (hn : x < 0 ∨ st b a + y < x) :
  Wiy nb st t n (l.set b (st b a + y)) a (rest ++ [b]) (k + 1) ∧ left (2 * n + 1) (l.set b (st b a + y)) < left (2 * n + 1) l := by
 have an : a < n := by rw [← h.wk.len]; exact (List.getElem?_eq_some_iff.1 hy).1
 have bn : b < l.length := (List.getElem?_eq_some_iff.1 hx).1
 have hm : (b : Int) ∈ nb a := List.mem_of_getElem? hb
 have hm' := E.back an hm
 have hab : b ≠ a := by
  rintro rfl
  exact E.other b an hm
 obtain ⟨y1, hy1, y0⟩ := h.wk.todo a (List.mem_cons_self ..)
 rw [hy] at hy1
 injection hy1 with hy1
 subst hy1
 have hbt : b ≠ t := by
  rintro rfl
  rw [h.wk.here] at hx
  injection hx with hx
  omega
 have get : ∀ (i : Nat) z, (l.set b (st b a + y))[i]? = some z → (i = b ∧ z = st b a + y) ∨ (i ≠ b ∧ l[i]? = some z) := by
  intro i z hz
  rw [List.getElem?_set] at hz
  by_cases e : b = i
  ·subst e
   rw [if_pos rfl, if_pos bn] at hz
   injection hz with hz
   exact .inl ⟨rfl, hz.symm⟩
  ·rw [if_neg e] at hz
   exact .inr ⟨fun h => e h.symm, hz⟩
 have keep : ∀ (i : Nat), i ≠ b → (l.set b (st b a + y))[i]? = l[i]? := by
  intro i hi
  rw [List.getElem?_set, if_neg (fun h => hi h.symm)]
 refine ⟨⟨⟨by simp [h.wk.len], ?_, h.wk.sound.set hy hm' h0 y0, h.wk.flat.set hx hy y0 h0 (E.two _ _) hn, fun j hj => ?_, fun i j hj => ?_⟩, fun q i hq hi => ?_⟩, left_set h.wk.flat h.wk.len hx hy y0 h0 (E.two _ _) hn⟩
 ·rw [keep t (fun h => hbt h.symm)]
  exact h.wk.here
 ·by_cases e : j = b
  ·subst e
   exact ⟨st j a + y, by rw [List.getElem?_set, if_pos rfl, if_pos bn], by omega⟩
  ·rw [keep j e]
   refine h.wk.todo j ?_
   simp only [List.mem_cons, List.mem_append, List.not_mem_nil, or_false] at hj ⊢
   rcases hj with hj | hj | hj
   ·exact .inl hj
   ·exact .inr hj
   ·exact absurd hj e
 ·have hj1 : j ∉ a :: rest := by
   simp only [List.mem_cons, List.mem_append, List.not_mem_nil, or_false, not_or] at hj ⊢
   exact ⟨hj.1, hj.2.1⟩
  have hj2 : j ≠ b := by
   simp only [List.mem_cons, List.mem_append, List.not_mem_nil, or_false, not_or] at hj
   exact hj.2.2
  have P := h.wk.shut i j hj1
  intro x' y' hx' hy' hn' h0' y0'
  rw [keep j hj2] at hy'
  rcases get i x' hx' with ⟨rfl, rfl⟩ | ⟨_, hx1⟩
  ·have := P x y' hx hy' hn' h0' y0'
   omega
  ·exact P x' y' hx1 hy' hn' h0' y0'
 ·intro x' y' hx' hy' hn' h0' y0'
  rw [keep a (fun h => hab h.symm), hy] at hy'
  injection hy' with hy'
  subst hy'
  rcases get i x' hx' with ⟨rfl, rfl⟩ | ⟨ib, hx1⟩
  ·omega
  ·have hq' : q < k := by
    rcases Nat.lt_or_ge q k with h | h
    ·exact h
    ·have : q = k := by omega
     subst this
     rw [hb] at hi
     injection hi with hi
     exact absurd (by omega) ib
   exact h.mid q i hq' hi x' y hx1 hy hn' h0' y0'
theorem Wiy.done {l : List Int} {a : Nat} {rest : List Nat} (E : Even nb st n) (h : Wiy nb st t n l a rest (nb a).length) : Wk nb st t n l rest := by
 refine ⟨h.wk.len, h.wk.here, h.wk.sound, h.wk.flat, fun j hj => h.wk.todo j (List.mem_cons_of_mem _ hj), fun i j hj => ?_⟩
 by_cases e : j = a
 ·subst e
  intro x y hx hy hn h0 y0
  have hi : i < n := by rw [← h.wk.len]; exact (List.getElem?_eq_some_iff.1 hx).1
  obtain ⟨q, hq⟩ := List.mem_iff_getElem?.1 (E.back hi hn)
  exact h.mid q i (List.getElem?_eq_some_iff.1 hq).1 hq x y hx hy hn h0 y0
 ·exact h.wk.shut i j (by simp [e, hj])
theorem Wk.far {l : List Int} (E : Even nb st n) (h : Wk nb st t n l []) : IsFar nb st t n l := far_of h.len E.lt h.here h.sound fun i hi j => h.shut i j (by simp)
end
/-! there and back. -/
theorem Way.snoc {nb : Nat → List Int} {s : Nat → Int} {a i j : Nat} {d : Int} (h : Way nb (fun _ j => s j) j a d) (hi : (i : Int) ∈ nb j) (h0 : 0 < s i) : Way nb (fun _ j => s j) i a (d + s i) := by
 induction h with
 | here =>
  have := Way.step (st := fun _ j => s j) hi h0 .here
  rwa [show s i + 0 = 0 + s i by omega] at this
 | @step p q d h1 h2 h3 ih =>
  have := Way.step (st := fun _ j => s j) h1 h2 ih
  rwa [show s q + (d + s i) = s q + d + s i by omega] at this
theorem Way.snoc' {nb : Nat → List Int} {s : Nat → Int} {a i j : Nat} {d : Int} (h : Way nb (fun i _ => s i) j a d) (hi : (i : Int) ∈ nb j) (h0 : 0 < s j) : Way nb (fun i _ => s i) i a (d + s j) := by
 induction h with
 | here =>
  have := Way.step (st := fun i _ => s i) hi h0 .here
  rwa [show s j + 0 = 0 + s j by omega] at this
 | @step p q d h1 h2 h3 ih =>
  have := Way.step (st := fun i _ => s i) h1 h2 ih
  rwa [show s p + (d + s j) = s p + d + s j by omega] at this
theorem Way.turn {nb : Nat → List Int} {s : Nat → Int} {n : Nat} (E : Even nb (fun _ j => s j) n) {t i : Nat} {d : Int} (h : Way nb (fun i _ => s i) t i d) (hi : i < n) : Way nb (fun _ j => s j) i t d := by
 induction h with
 | here => exact .here
 | @step i j d h1 h2 h3 ih =>
  have := (ih (E.lt _ _ hi h1)).snoc (E.back hi h1) h2
  rwa [show d + s i = s i + d by omega] at this
theorem Way.turn' {nb : Nat → List Int} {s : Nat → Int} {n : Nat} (E : Even nb (fun _ j => s j) n) {t i : Nat} {d : Int} (h : Way nb (fun _ j => s j) t i d) (hi : i < n) : Way nb (fun i _ => s i) i t d := by
 induction h with
 | here => exact .here
 | @step i j d h1 h2 h3 ih =>
  have := (ih (E.lt _ _ hi h1)).snoc' (E.back hi h1) h2
  rwa [show d + s j = s j + d by omega] at this
theorem Least.turn {nb : Nat → List Int} {s : Nat → Int} {n : Nat} (E : Even nb (fun _ j => s j) n) {t i : Nat} {x : Int} (h : Least nb (fun i _ => s i) t i x) (hi : i < n) (ht : t < n) : Least nb (fun _ j => s j) i t x := by
 rcases h with ⟨rfl, h⟩ | ⟨h1, h2⟩
 ·exact .inl ⟨rfl, fun d hd => h d (hd.turn' E ht)⟩
 ·exact .inr ⟨h1.turn E hi, fun d hd => h2 d (hd.turn' E ht)⟩
/-- a field's. -/
theorem even_near {W H : Nat} (hW : 0 < W) {st : Nat → Nat → Int} (h2 : ∀ i j, st i j ≤ 2) : Even (Fd.near W H) st (W * H) := by
 refine ⟨fun i x hi hx => ?_, fun i hi hx => ?_, h2⟩
 ·obtain ⟨t, h1, h3, h4⟩ := Fd.near_cell hW hi hx
  exact ⟨t, h1, h3, h4⟩
 ·have := Fd.near_mem.1 hx
  omega
end Go.Proofs.YteieikgkmfglaaaGreatDoor.Wy
namespace Go.Proofs.YteieikgkmfglaaaGreatDoor
open Go.RowKit Wy
set_option linter.unusedVariables false
/-- what is left, as memory has it. -/
def wleft (w : World) (b M : Nat) : Nat := match w.heap[b]? with
 | some (.cells cs _ _) => left M (cs.toList.map intOf)
 | _ => 0
theorem Bk.left {w : World} {b : Nat} {l : List Int} (h : Bk w b l #[]) (M : Nat) : wleft w b M = Wy.left M l := by
 unfold Bk at h
 unfold wleft
 rw [h]
 simp [intCells, intOf, Function.comp_def]
/-- how long a slice is. -/
def vlen : Value → Nat
 | .slice _ n _ => n
 | _ => 0
theorem Qu.vlen {w : World} {base : Nat} {v : Value} {xs : List Int} (h : Qu w base v xs) : vlen v = xs.length := by
 obtain ⟨g, off, cap, cur, h1, -⟩ := h
 rw [h1]
 rfl
theorem cell_new {w : World} {z : Nat} (d : Value) (hz : w.heap.size = z) : (w.alloc (Obj.cells #[d] 3)).cell? ⟨z, 0, none⟩ = some d := by
 subst hz
 simp
def ints (td : List Nat) : List Int := td.map Int.ofNat
theorem ints_len (td : List Nat) : (ints td).length = td.length := by simp [ints]
set_option maxRecDepth 100000 in
set_option maxHeartbeats 4000000 in
theorem spread_ok (K : Nat) (eK : ∀ args w, (callFunc K args).run Tryz.prog w = .ok (.enter K args) w) (q v : Value) (n t : Nat) (nb : Nat → List Int) (ss : List Int) (st : Nat → Nat → Int) (w : World) (h : Ld w v n nb ss) (E : Even nb st n) (ht : t < n) (hn : n ≤ 144) (h4 : ∀ i, (nb i).length ≤ 4)
  (hon : ∀ w' (i j : Nat), i < n → j < n → Below w.heap.size w w' → Calls Tryz.prog K #[.int .i64 (i : Nat), .int .i64 (j : Nat), q] w' fun e w'' => e = .returned (.int .i64 (st j i)) ∧ w'' = w') :
  Calls Tryz.prog 127 #[v, .int .i64 (t : Nat), .func (Fn.func K) #[] #[q]] w fun e w' => ∃ b l, e = .returned (.slice (some ⟨b, 0, none⟩) n n) ∧ w.heap.size ≤ b ∧ Bk w' b l #[] ∧ (IsFar nb st t n l ∧ Flat l) ∧ Below w.heap.size w w' := by
 obtain ⟨u1, u2, rfl, ⟨x, c, rfl, c1, c2, hx⟩, ⟨a2, d, rfl, d1, d2, ca⟩, hl⟩ := h
 rw [hl] at d1 ⊢
 have Hx : Hid (∀ i, i < n → ∃ u, w.cell? (x.add i) = some u ∧ Ro w u (nb i)) := hx
 have Ho : Hid (∀ w' (i j : Nat), i < n → j < n → Below w.heap.size w w' → Calls Tryz.prog K #[.int .i64 (i : Nat), .int .i64 (j : Nat), q] w' fun e w'' => e = .returned (.int .i64 (st j i)) ∧ w'' = w') := hon
 have H4 : Hid (∀ i, (nb i).length ≤ 4) := h4
 have E0 : Hid (Even nb st n) := E
 clear hx ca hon h4 E hl
 go_enter Tryz.func127, Tryz.ntmps127
 go_wp2_with fail
 refine (repeat_ok (-1) _ n _ (Ro.lit1 (w := w.alloc _) (-1) (by simp)) (by omega) hn).mono ?_
 rintro e w1 ⟨b, rfl, hbz, hbk, hbel⟩
 have bz : Hid (w.heap.size + 2 ≤ b) := by unfold Hid; simpa using hbz
 have B1 : Hid (Below w.heap.size w w1) := (((Below.refl _ _).alloc (Nat.le_refl _) _).alloc (by simp) _).trans (hbel.mono (by simp; omega))
 have X1 : Hid (Bl w1 w.heap.size (.slice (some x) n c) (.slice a2 n d)) := ((Bl.mk' (w := w) (.slice (some x) n c) (.slice a2 n d) rfl).below ((Below.refl _ _).alloc (Nat.le_refl _) (Obj.cells #[Value.int IntKind.i64 (-1)] 3)) (by simp)).below hbel (by simp; omega)
 have K1 : Hid (Bk w1 b (List.replicate n (-1)) #[]) := hbk
 have ct := hbk.cell (i := t) (d := -1) (by rw [List.getElem?_replicate, if_pos ht])
 have ft := hbk.thaw t
 clear hbz hbk hbel
 have k12 := Kp.set (z := b) w1 t (.int .i64 0)
 have K2 : Hid (Bk (w1.setCell ⟨b, t, none⟩ (.int .i64 0)) b ((List.replicate n (-1)).set t 0) #[]) := K1.out.set t 0 (by simp; exact ht)
 have X2 : Hid (Bl (w1.setCell ⟨b, t, none⟩ (.int .i64 0)) w.heap.size (.slice (some x) n c) (.slice a2 n d)) := X1.out.kp k12 (by have := bz.out; omega)
 have B2 : Hid (Below w.heap.size w (w1.setCell ⟨b, t, none⟩ (.int .i64 0))) := k12.below B1.out B1.out.size (by have := bz.out; omega)
 have Z2 : Hid ((w1.setCell ⟨b, t, none⟩ (.int .i64 0)).heap.size = w1.heap.size) := by unfold Hid; simp
 have bB : Hid (b < w1.heap.size) := K1.out.lt
 clear k12 K1 X1 B1
 go_wp2_with fail
 generalize w1.setCell ⟨b, t, none⟩ (.int .i64 0) = w2 at *
 clear ct ft
 obtain ⟨B, hB⟩ : ∃ B, w1.heap.size = B := ⟨_, rfl⟩
 rw [hB] at bB Z2 ⊢
 have Q3 : Hid (Qu (w2.alloc (Obj.cells #[.int .i64 (t : Nat)] 3)) B (.slice (some ⟨B, 0, none⟩) 1 1) (ints [t])) := Qu.one (w := w2) (t : Nat) (by rw [Z2.out]; exact Nat.le_refl _) Z2.out
 have b23 : Below w2.heap.size w2 (w2.alloc (Obj.cells #[.int .i64 (t : Nat)] 3)) := (Below.refl _ _).alloc (Nat.le_refl _) _
 have K3 : Hid (Bk (w2.alloc (Obj.cells #[.int .i64 (t : Nat)] 3)) b ((List.replicate n (-1)).set t 0) #[]) := K2.out.below b23
 have X3 : Hid (Bl (w2.alloc (Obj.cells #[.int .i64 (t : Nat)] 3)) w.heap.size (.slice (some x) n c) (.slice a2 n d)) := X2.out.below b23 X2.out.lt
 have B3 : Hid (Below w.heap.size w (w2.alloc (Obj.cells #[.int .i64 (t : Nat)] 3))) := B2.out.trans (b23.mono B2.out.size)
 have S3 : Hid (B ≤ (w2.alloc (Obj.cells #[.int .i64 (t : Nat)] 3)).heap.size) := by
  have := b23.size
  rw [Z2.out] at this
  exact this
 generalize w2.alloc (Obj.cells #[.int .i64 (t : Nat)] 3) = w3 at *
 clear K2 X2 B2 Z2 b23 hB
 go_loopw [8] (fun v W' => ∃ l td, Qu W' B v (ints td) ∧ Bk W' b l #[] ∧ Wk nb st t n l td ∧ Bl W' w.heap.size (.slice (some x) n c) (.slice a2 n d) ∧ Below w.heap.size w W' ∧ B ≤ W'.heap.size ∧ 2 * left (2 * n + 1) l + td.length ≤ 100000) (fun v W' => 2 * wleft W' b (2 * n + 1) + vlen v)
 case atStart => exact ⟨_, [t], Q3, K3, Wk.start ht, X3, B3, S3, by have := left_start ht hn; simp only [List.length_cons, List.length_nil]; omega⟩
 case round =>
  obtain ⟨l, td, hq, hk, hw, hxx, hb, hsz, hmx⟩ := hrel
  clear Q3 K3 X3 B3 S3
  have Kb : Hid (Bk wr b l #[]) := hk
  have Ww : Hid (Wk nb st t n l td) := hw
  have X : Hid (Bl wr w.heap.size (.slice (some x) n c) (.slice a2 n d)) := hxx
  have Bw : Hid (Below w.heap.size w wr) := hb
  have Sz : Hid (B ≤ wr.heap.size) := hsz
  clear hk hw hxx hb hsz
  cases td with
  | nil =>
   obtain ⟨g, off, cap, cur, rfl, -, -, -⟩ := hq
   go_wp2
   go_ret
   exact ⟨b, l, rfl, by have := bz.out; omega, Kb, ⟨Ww.out.far E0.out, Ww.out.flat⟩, Bw⟩
  | cons a rest =>
   have Q : Hid (Qu wr B u8 (ints (a :: rest))) := hq
   have an : a < n := by
    obtain ⟨y, hy, -⟩ := Ww.out.todo a (List.mem_cons_self ..)
    have := (List.getElem?_eq_some_iff.1 hy).1
    rw [Ww.out.len] at this
    exact this
   obtain ⟨m0, hm0⟩ : ∃ m0, 2 * wleft wr b (2 * n + 1) + vlen u8 = m0 := ⟨_, rfl⟩
   have M0 : Hid (2 * wleft wr b (2 * n + 1) + vlen u8 = m0) := hm0
   have ML : Hid (2 * left (2 * n + 1) l + rest.length + 1 ≤ m0) := by
    unfold Hid
    rw [← hm0, Kb.out.left, hq.vlen, ints_len]
    simp only [List.length_cons]
    omega
   have m9 : m0 ≤ 100000 := by
    rw [← hm0, Kb.out.left, hq.vlen, ints_len]
    exact hmx
   clear hm0 hmx
   obtain ⟨g, off, cap, hu8, o1, o2, hc⟩ := Qu.first (x := (a : Int)) (xs := ints rest) hq
   subst hu8
   clear hq
   obtain ⟨u, hu, hr⟩ := Hx.out a an
   have hu' : wr.cell? (x.add a) = some u := by rw [Bw.out.cell (p := x.add a) (by have := cell_lt hu; rw [add_block] at this ⊢; exact this)]; exact hu
   have Hr0 : Hid (Ro w u (nb a)) := hr
   obtain ⟨a3, c3, rfl, e1, e2, -⟩ := hr
   have L4 := H4.out a
   have x0 := X.out.c0
   clear hu
   go_wp2_with fail
   clear hc x0 hu' o1 o2 ht
   go_loopw [8, 37] (fun v i W' => ∃ l rest k, i = .int .i64 (k : Nat) ∧ k ≤ (nb a).length ∧ Qu W' B v (ints (a :: rest)) ∧ Bk W' b l #[] ∧ Wiy nb st t n l a rest k ∧ Bl W' w.heap.size (.slice (some x) n c) (.slice a2 n d) ∧ Below w.heap.size w W' ∧ B ≤ W'.heap.size ∧ 2 * left (2 * n + 1) l + rest.length + 1 ≤ m0) (fun _ i _ => (nb a).length - (intOf i).toNat)
   case atStart => exact ⟨l, rest, 0, rfl, Nat.zero_le _, Q, Kb, ⟨Ww, fun q i hq => absurd hq (Nat.not_lt_zero _)⟩, X, Bw, Sz, ML⟩
   case round =>
    clear Q Kb Ww X ML
    obtain ⟨l, rest, k, rfl, hk, hq, hkb, hwi, hx, hb, hsz, hml⟩ := hrel
    have Q : Hid (Qu wr B u8 (ints (a :: rest))) := hq
    have Kb : Hid (Bk wr b l #[]) := hkb
    have Wiy : Hid (Wiy nb st t n l a rest k) := hwi
    have X : Hid (Bl wr w.heap.size (.slice (some x) n c) (.slice a2 n d)) := hx
    have Bw' : Hid (Below w.heap.size w wr) := hb
    have Sz' : Hid (B ≤ wr.heap.size) := hsz
    have ML : Hid (2 * left (2 * n + 1) l + rest.length + 1 ≤ m0) := hml
    clear hkb hwi hx hb hsz hml
    by_cases h0 : k = (nb a).length
    ·have Wds : Hid (Wk nb st t n l rest) := by
      have := Wiy.out
      rw [h0] at this
      exact this.done E0.out
     subst h0
     obtain ⟨v', qv, sv⟩ := Qu.rest (x := (a : Int)) (xs := ints rest) Q.out
     have Q' : Hid (Qu wr B v' (ints rest)) := qv
     clear qv hq Q Wiy
     go_wp2
     go_round
     case rel => exact ⟨l, rest, Q', Kb, Wds, X, Bw', Sz', by have := ML.out; omega⟩
     case measure =>
      rw [Kb.out.left, Q'.out.vlen, ints_len]
      have := ML.out
      have := M0.out
      omega
    ·have hkl : k < (nb a).length := by omega
     obtain ⟨j, hj, jn, -⟩ := E0.out.cell a _ an (List.getElem_mem hkl)
     have Hj : Hid ((nb a)[k]? = some (j : Int)) := by unfold Hid; rw [List.getElem?_eq_getElem hkl, hj]
     clear hj
     obtain ⟨a4, c4, e4, -, -, ca⟩ := Hr0.out.below Bw'.out
     injection e4 with e5 e6 e7
     subst e5
     obtain ⟨y, rfl, -, hy⟩ := ca (by intro h; rw [h] at hkl; simp at hkl)
     have cj := hy k _ Hj.out
     clear hy e6 e7 ca hq
     have l2 := E0.out.two j a
     obtain ⟨yv, hyv, y0⟩ := Wiy.out.wk.todo a (List.mem_cons_self ..)
     have ll : l.length = n := Wiy.out.wk.len
     obtain ⟨xv, hxv⟩ : ∃ xv, l[j]? = some xv := ⟨l[j]'(by rw [ll]; exact jn), List.getElem?_eq_getElem _⟩
     have tl := told_le l
     have fx := Wiy.out.wk.flat j xv hxv
     have fy := Wiy.out.wk.flat a yv hyv
     have xb : xv ≤ 288 := by omega
     have yb : yv ≤ 288 := by omega
     have xm : -1 ≤ xv := by
      rcases Wiy.out.wk.sound j xv hxv with h | h
      ·omega
      ·have := h.nonneg; omega
     have cx := Kb.out.cell hxv
     have cy := Kb.out.cell hyv
     have fz := Kb.out.thaw j
     clear tl fx fy ll
     go_wp2_with fail
     refine (Ho.out wr a j an jn Bw'.out).mono ?_
     rintro e w' ⟨rfl, rfl⟩
     obtain ⟨m, hm⟩ : ∃ m, st j a = m := ⟨_, rfl⟩
     have HD : Hid (st j a = m) := hm
     rw [hm] at l2 ⊢
     clear hm
     by_cases h1 : 0 < m
     ·by_cases h2 : xv < 0
      ·have HS := Wiy.out.set E0.out Hj.out hxv hyv (by rw [HD.out]; exact h1) (.inl h2)
       rw [HD.out, Int.add_comm m yv] at HS
       have HT : Hid (Wy.Wiy nb st t n (l.set j (yv + m)) a (rest ++ [j]) (k + 1) ∧ left (2 * n + 1) (l.set j (yv + m)) < left (2 * n + 1) l) := HS
       clear HS HD
       go_wp2
       go_quiet (fail)
       have kq : Below w'.heap.size w' (w'.drewN nq) := _root_.Go.below_drewN (Below.refl _ _) _
       have K5 : Hid (Bk (w'.drewN nq) b l #[]) := Kb.out.below kq
       have Q5 : Hid (Qu (w'.drewN nq) B u8 (ints (a :: rest))) := Q.out.below kq
       have X5 : Hid (Bl (w'.drewN nq) w.heap.size (.slice (some x) n c) (.slice a2 n d)) := X.out.below kq X.out.lt
       have B5 : Hid (Below w.heap.size w (w'.drewN nq)) := Bw'.out.trans (kq.mono Bw'.out.size)
       have S5 : Hid (B ≤ (w'.drewN nq).heap.size) := Nat.le_trans Sz'.out kq.size
       generalize w'.drewN nq = w5 at *
       clear Kb Q X Bw' Sz' kq cx cy fz cj
       have cx := K5.out.cell hxv
       have cy := K5.out.cell hyv
       have fz := K5.out.thaw j
       have k6 := Kp.set (z := b) w5 j (.int .i64 (yv + m))
       have K6 : Hid (Bk (w5.setCell ⟨b, j, none⟩ (.int .i64 (yv + m))) b (l.set j (yv + m)) #[]) := K5.out.set j (yv + m) (List.getElem?_eq_some_iff.1 hxv).1
       have Q6 : Hid (Qu (w5.setCell ⟨b, j, none⟩ (.int .i64 (yv + m))) B u8 (ints (a :: rest))) := Q5.out.kp k6 bB.out
       have X6 : Hid (Bl (w5.setCell ⟨b, j, none⟩ (.int .i64 (yv + m))) w.heap.size (.slice (some x) n c) (.slice a2 n d)) := X5.out.kp k6 (by have := bz.out; omega)
       have B6 : Hid (Below w.heap.size w (w5.setCell ⟨b, j, none⟩ (.int .i64 (yv + m)))) := k6.below B5.out B5.out.size (by have := bz.out; omega)
       have S6 : Hid (B ≤ (w5.setCell ⟨b, j, none⟩ (.int .i64 (yv + m))).heap.size) := Nat.le_trans S5.out k6.size
       clear k6 K5 Q5 X5 B5 S5 hxv hyv
       have RL : Hid ((ints (a :: rest)).length ≤ 1000000) := by
        unfold Hid
        rw [ints_len]
        simp only [List.length_cons]
        have := ML.out
        omega
       have Sb : Hid (b < B ∧ w.heap.size < B) := by
        have := bz.out
        have := bB.out
        exact ⟨by omega, by omega⟩
       have Ba : Hid (Below (w5.setCell ⟨b, j, none⟩ (.int .i64 (yv + m))).heap.size (w5.setCell ⟨b, j, none⟩ (.int .i64 (yv + m))) ((w5.setCell ⟨b, j, none⟩ (.int .i64 (yv + m))).alloc (Obj.cells #[.int .i64 (j : Nat)] 3))) := (Below.refl _ _).alloc (Nat.le_refl _) _
       have Cd : Hid (((w5.setCell ⟨b, j, none⟩ (.int .i64 (yv + m))).alloc (Obj.cells #[.int .i64 (j : Nat)] 3)).cell? ⟨w5.heap.size, 0, none⟩ = some (.int .i64 (j : Nat))) := cell_new (w := w5.setCell ⟨b, j, none⟩ (.int .i64 (yv + m))) _ (World.size_setCell _ _ _)
       go_wp2_with (at_builtin; refine app_q _ rfl _ _ rfl B _ (ints (a :: rest)) rfl (Q6.out.below Ba.out) ⟨w5.heap.size, 0, none⟩ (j : Nat) rfl Cd.out RL.out (Nat.le_trans S6.out Ba.out.size) ?_)
       intro v7 w7 q7 b7
       have ba := Ba.out
       have Q7 : Hid (Qu w7 B v7 (ints (a :: (rest ++ [j])))) := by
        have e : ints (a :: (rest ++ [j])) = ints (a :: rest) ++ [(j : Int)] := by simp [ints]
        unfold Hid
        rw [e]
        exact q7
       have K7 : Hid (Bk w7 b (l.set j (yv + m)) #[]) := (K6.out.below ba).low b7 Sb.out.1
       have X7 : Hid (Bl w7 w.heap.size (.slice (some x) n c) (.slice a2 n d)) := (X6.out.below ba X6.out.lt).below b7 Sb.out.2
       have B7 : Hid (Below w.heap.size w w7) := (B6.out.trans (ba.mono B6.out.size)).trans (b7.mono (Nat.le_of_lt Sb.out.2))
       have S7 : Hid (B ≤ w7.heap.size) := Nat.le_trans (Nat.le_trans S6.out ba.size) b7.size
       clear q7 b7 ba Ba Cd K6 Q6 X6 B6 S6 cx cy fz
       go_wp2
       go_round
       case rel => exact ⟨l.set j (yv + m), rest ++ [j], k + 1, by go_num, by omega, Q7, K7, HT.out.1, X7, B7, S7, by have := HT.out.2; have := ML.out; simp only [List.length_append, List.length_cons, List.length_nil]; omega⟩
       case measure => simp [intOf]; omega
      ·have h2' : decide (xv < 0) = false := decide_eq_false h2
       by_cases h3 : yv + m < xv
       ·have HS := Wiy.out.set E0.out Hj.out hxv hyv (by rw [HD.out]; exact h1) (.inr (by rw [HD.out]; omega))
        rw [HD.out, Int.add_comm m yv] at HS
        have HT : Hid (Wy.Wiy nb st t n (l.set j (yv + m)) a (rest ++ [j]) (k + 1) ∧ left (2 * n + 1) (l.set j (yv + m)) < left (2 * n + 1) l) := HS
        clear HS HD
        go_wp2
        go_quiet (fail)
        have kq : Below w'.heap.size w' (w'.drewN nq) := _root_.Go.below_drewN (Below.refl _ _) _
        have K5 : Hid (Bk (w'.drewN nq) b l #[]) := Kb.out.below kq
        have Q5 : Hid (Qu (w'.drewN nq) B u8 (ints (a :: rest))) := Q.out.below kq
        have X5 : Hid (Bl (w'.drewN nq) w.heap.size (.slice (some x) n c) (.slice a2 n d)) := X.out.below kq X.out.lt
        have B5 : Hid (Below w.heap.size w (w'.drewN nq)) := Bw'.out.trans (kq.mono Bw'.out.size)
        have S5 : Hid (B ≤ (w'.drewN nq).heap.size) := Nat.le_trans Sz'.out kq.size
        generalize w'.drewN nq = w5 at *
        clear Kb Q X Bw' Sz' kq cx cy fz cj
        have cx := K5.out.cell hxv
        have cy := K5.out.cell hyv
        have fz := K5.out.thaw j
        have k6 := Kp.set (z := b) w5 j (.int .i64 (yv + m))
        have K6 : Hid (Bk (w5.setCell ⟨b, j, none⟩ (.int .i64 (yv + m))) b (l.set j (yv + m)) #[]) := K5.out.set j (yv + m) (List.getElem?_eq_some_iff.1 hxv).1
        have Q6 : Hid (Qu (w5.setCell ⟨b, j, none⟩ (.int .i64 (yv + m))) B u8 (ints (a :: rest))) := Q5.out.kp k6 bB.out
        have X6 : Hid (Bl (w5.setCell ⟨b, j, none⟩ (.int .i64 (yv + m))) w.heap.size (.slice (some x) n c) (.slice a2 n d)) := X5.out.kp k6 (by have := bz.out; omega)
        have B6 : Hid (Below w.heap.size w (w5.setCell ⟨b, j, none⟩ (.int .i64 (yv + m)))) := k6.below B5.out B5.out.size (by have := bz.out; omega)
        have S6 : Hid (B ≤ (w5.setCell ⟨b, j, none⟩ (.int .i64 (yv + m))).heap.size) := Nat.le_trans S5.out k6.size
        clear k6 K5 Q5 X5 B5 S5 hxv hyv
        have RL : Hid ((ints (a :: rest)).length ≤ 1000000) := by
         unfold Hid
         rw [ints_len]
         simp only [List.length_cons]
         have := ML.out
         omega
        have Sb : Hid (b < B ∧ w.heap.size < B) := by
         have := bz.out
         have := bB.out
         exact ⟨by omega, by omega⟩
        have Ba : Hid (Below (w5.setCell ⟨b, j, none⟩ (.int .i64 (yv + m))).heap.size (w5.setCell ⟨b, j, none⟩ (.int .i64 (yv + m))) ((w5.setCell ⟨b, j, none⟩ (.int .i64 (yv + m))).alloc (Obj.cells #[.int .i64 (j : Nat)] 3))) := (Below.refl _ _).alloc (Nat.le_refl _) _
        have Cd : Hid (((w5.setCell ⟨b, j, none⟩ (.int .i64 (yv + m))).alloc (Obj.cells #[.int .i64 (j : Nat)] 3)).cell? ⟨w5.heap.size, 0, none⟩ = some (.int .i64 (j : Nat))) := cell_new (w := w5.setCell ⟨b, j, none⟩ (.int .i64 (yv + m))) _ (World.size_setCell _ _ _)
        go_wp2_with (at_builtin; refine app_q _ rfl _ _ rfl B _ (ints (a :: rest)) rfl (Q6.out.below Ba.out) ⟨w5.heap.size, 0, none⟩ (j : Nat) rfl Cd.out RL.out (Nat.le_trans S6.out Ba.out.size) ?_)
        intro v7 w7 q7 b7
        have ba := Ba.out
        have Q7 : Hid (Qu w7 B v7 (ints (a :: (rest ++ [j])))) := by
         have e : ints (a :: (rest ++ [j])) = ints (a :: rest) ++ [(j : Int)] := by simp [ints]
         unfold Hid
         rw [e]
         exact q7
        have K7 : Hid (Bk w7 b (l.set j (yv + m)) #[]) := (K6.out.below ba).low b7 Sb.out.1
        have X7 : Hid (Bl w7 w.heap.size (.slice (some x) n c) (.slice a2 n d)) := (X6.out.below ba X6.out.lt).below b7 Sb.out.2
        have B7 : Hid (Below w.heap.size w w7) := (B6.out.trans (ba.mono B6.out.size)).trans (b7.mono (Nat.le_of_lt Sb.out.2))
        have S7 : Hid (B ≤ w7.heap.size) := Nat.le_trans (Nat.le_trans S6.out ba.size) b7.size
        clear q7 b7 ba Ba Cd K6 Q6 X6 B6 S6 cx cy fz
        go_wp2
        go_round
        case rel => exact ⟨l.set j (yv + m), rest ++ [j], k + 1, by go_num, by omega, Q7, K7, HT.out.1, X7, B7, S7, by have := HT.out.2; have := ML.out; simp only [List.length_append, List.length_cons, List.length_nil]; omega⟩
        case measure => simp [intOf]; omega
       ·have h3' : decide (yv + m < xv) = false := decide_eq_false h3
        have HS : Hid (Wy.Wiy nb st t n l a rest (k + 1)) := Wiy.out.skip Hj.out hxv hyv (fun h => by rw [HD.out]; omega)
        clear HD
        go_wp2
        go_quiet (fail)
        have kq : Below w'.heap.size w' (w'.drewN nq) := _root_.Go.below_drewN (Below.refl _ _) _
        have Q5 : Hid (Qu (w'.drewN nq) B u8 (ints (a :: rest))) := Q.out.below kq
        have K5 : Hid (Bk (w'.drewN nq) b l #[]) := Kb.out.below kq
        have X5 : Hid (Bl (w'.drewN nq) w.heap.size (.slice (some x) n c) (.slice a2 n d)) := X.out.below kq X.out.lt
        have B5 : Hid (Below w.heap.size w (w'.drewN nq)) := Bw'.out.trans (kq.mono Bw'.out.size)
        have S5 : Hid (B ≤ (w'.drewN nq).heap.size) := Nat.le_trans Sz'.out kq.size
        generalize w'.drewN nq = w5 at *
        clear Kb Q X Bw' Sz' kq cx cy fz cj
        go_wp2
        go_round
        case rel => exact ⟨l, rest, k + 1, by go_num, by omega, Q5, K5, HS, X5, B5, S5, ML⟩
        case measure => simp [intOf]; omega
     ·have h1' : decide (0 < m) = false := decide_eq_false h1
      have HS : Hid (Wy.Wiy nb st t n l a rest (k + 1)) := Wiy.out.skip Hj.out hxv hyv (fun h => absurd (by rw [HD.out] at h; exact h) h1)
      clear HD
      go_wp2
      go_quiet (fail)
      have kq : Below w'.heap.size w' (w'.drewN nq) := _root_.Go.below_drewN (Below.refl _ _) _
      have Q5 : Hid (Qu (w'.drewN nq) B u8 (ints (a :: rest))) := Q.out.below kq
      have K5 : Hid (Bk (w'.drewN nq) b l #[]) := Kb.out.below kq
      have X5 : Hid (Bl (w'.drewN nq) w.heap.size (.slice (some x) n c) (.slice a2 n d)) := X.out.below kq X.out.lt
      have B5 : Hid (Below w.heap.size w (w'.drewN nq)) := Bw'.out.trans (kq.mono Bw'.out.size)
      have S5 : Hid (B ≤ (w'.drewN nq).heap.size) := Nat.le_trans Sz'.out kq.size
      generalize w'.drewN nq = w5 at *
      clear Kb Q X Bw' Sz' kq cx cy fz cj
      go_wp2
      go_round
      case rel => exact ⟨l, rest, k + 1, by go_num, by omega, Q5, K5, HS, X5, B5, S5, ML⟩
      case measure => simp [intOf]; omega
end Go.Proofs.YteieikgkmfglaaaGreatDoor
namespace Go.Proofs.YteieikgkmfglaaaGreatDoor
open Go.RowKit Wy
set_option linter.unusedVariables false
theorem enter_from : ∀ args w, (callFunc 128 args).run Tryz.prog w = .ok (.enter 128 args) w := by
 intro args w
 go_simp
set_option maxHeartbeats 1000000 in
theorem on_from (z n : Nat) (u1 u2 : Value) (ss : List Int) (i j : Nat) (w : World) (X : Bl w z u1 u2) (hu : Ro w u2 ss) (hl : ss.length = n) (hi : j < n) :
  Calls Tryz.prog 128 #[.int .i64 (i : Nat), .int .i64 (j : Nat), .pointer (some ⟨z, 0, none⟩)] w fun e w' => e = .returned (.int .i64 (ss.getD j 0)) ∧ w' = w := by
 obtain ⟨a, c, rfl, c1, c2, ca⟩ := hu
 obtain ⟨x, rfl, -, hx⟩ := ca (by intro e; rw [e] at hl; simp at hl; omega)
 have e : ss[j]? = some (ss.getD j 0) := by rw [List.getD_eq_getElem?_getD, List.getElem?_eq_getElem (by omega)]; rfl
 have cx := hx j _ e
 have x1 := X.c1
 generalize ss.getD j 0 = s at *
 rw [hl] at *
 clear hx ca e X
 go_enter Tryz.func128, Tryz.ntmps128
 go_wp2
 go_ret
 exact ⟨rfl, rfl⟩
set_option maxHeartbeats 1000000 in
theorem farFrom_ok (v : Value) (n t : Nat) (nb : Nat → List Int) (ss : List Int) (w : World) (h : Ld w v n nb ss) (E : Even nb (fun i _ => ss.getD i 0) n) (ht : t < n) (hn : n ≤ 144) (h4 : ∀ i, (nb i).length ≤ 4) :
  Calls Tryz.prog 100 #[v, .int .i64 (t : Nat)] w fun e w' => ∃ b l, e = .returned (.slice (some ⟨b, 0, none⟩) n n) ∧ w.heap.size ≤ b ∧ Bk w' b l #[] ∧ (IsFar nb (fun i _ => ss.getD i 0) t n l ∧ Flat l) ∧ Below w.heap.size w w' := by
 have L0 : Hid (Ld w v n nb ss) := h
 have E0 : Hid (Even nb (fun i _ => ss.getD i 0) n) := E
 have T0 : Hid (t < n ∧ n ≤ 144 ∧ ∀ i, (nb i).length ≤ 4) := ⟨ht, hn, h4⟩
 obtain ⟨u1, u2, rfl, hb1, hr2, hl⟩ := h
 have R2 : Hid (Ro w u2 ss ∧ ss.length = n) := ⟨hr2, hl⟩
 obtain ⟨x1, c1, e1, -⟩ := hb1
 obtain ⟨x2, c2, e2, -⟩ := hr2
 clear ht hn h4 E hl
 have b0 : Below w.heap.size w (w.alloc (Obj.cells #[u1, u2] 147)) := (Below.refl _ _).alloc (Nat.le_refl _) _
 have X0 : Hid (Bl (w.alloc (Obj.cells #[u1, u2] 147)) w.heap.size u1 u2) := Bl.mk' u1 u2 rfl
 have B0 : Hid (Below w.heap.size w (w.alloc (Obj.cells #[u1, u2] 147))) := b0
 clear b0
 have hon : ∀ w' (i j : Nat), i < n → j < n → Below (w.alloc (Obj.cells #[u1, u2] 147)).heap.size (w.alloc (Obj.cells #[u1, u2] 147)) w' → Calls Tryz.prog 128 #[.int .i64 (i : Nat), .int .i64 (j : Nat), .pointer (some ⟨w.heap.size, 0, none⟩)] w' fun e w'' => e = .returned (.int .i64 ((fun i _ => ss.getD i 0) j i)) ∧ w'' = w' := fun w' i j hi hj hb =>
  on_from w.heap.size n u1 u2 ss i j w' (X0.out.below hb X0.out.lt) ((R2.out.1.below B0.out).below hb) R2.out.2 hj
 have Ho : Hid (∀ w' (i j : Nat), i < n → j < n → Below (w.alloc (Obj.cells #[u1, u2] 147)).heap.size (w.alloc (Obj.cells #[u1, u2] 147)) w' → Calls Tryz.prog 128 #[.int .i64 (i : Nat), .int .i64 (j : Nat), .pointer (some ⟨w.heap.size, 0, none⟩)] w' fun e w'' => e = .returned (.int .i64 ((fun i _ => ss.getD i 0) j i)) ∧ w'' = w') := hon
 clear hon
 subst e1
 subst e2
 go_enter Tryz.func100, Tryz.ntmps100
 go_wp2_with fail
 refine (spread_ok 128 enter_from _ _ n t nb ss _ _ (L0.out.below B0.out) E0.out T0.out.1 T0.out.2.1 T0.out.2.2 Ho.out).mono ?_
 rintro e w1 ⟨b, l, rfl, hbz, hbk, hf, hb⟩
 have P : Hid (w.heap.size ≤ b ∧ Bk w1 b l #[] ∧ (IsFar nb (fun i _ => ss.getD i 0) t n l ∧ Flat l) ∧ Below w.heap.size w w1) := ⟨Nat.le_trans B0.out.size hbz, hbk, hf, B0.out.trans (hb.mono B0.out.size)⟩
 clear hbz hbk hf hb Ho
 go_wp2
 go_ret
 exact ⟨b, l, rfl, P.out.1, P.out.2.1, P.out.2.2.1, P.out.2.2.2⟩
end Go.Proofs.YteieikgkmfglaaaGreatDoor
namespace Go.Proofs.YteieikgkmfglaaaGreatDoor.Wy
/-- x is on a shortest way from i. -/
def pn (ss l : List Int) (i : Nat) (x : Int) : Bool := decide (0 < ss.getD x.toNat 0) && (decide (0 ≤ l.getD x.toNat 0) && decide (ss.getD x.toNat 0 + l.getD x.toNat 0 = l.getD i 0))
theorem take_any {p : Int → Bool} {xs : List Int} {k m : Nat} {x : Int} (h : (xs.take k).any p = false) (hm : m < k) (hx : xs[m]? = some x) : p x = false := by
 rw [List.any_eq_false] at h
 have := h x (by
  rw [List.mem_iff_getElem?]
  exact ⟨m, by rw [List.getElem?_take, if_pos hm]; exact hx⟩)
 cases hp : p x with
 | false => rfl
 | true => exact absurd hp this
theorem getD_of {l : List Int} {i : Nat} {x : Int} (h : l[i]? = some x) : l.getD i 0 = x := by rw [List.getD_eq_getElem?_getD, h]; rfl
/-- of the first k cells those that are no further than most. -/
def rch (l : List Int) (most : Int) (k : Nat) : List Int := ((List.range k).filter fun i => decide (0 ≤ l.getD i 0 ∧ l.getD i 0 ≤ most)).map Int.ofNat
theorem rch_succ (l : List Int) (most : Int) (k : Nat) : rch l most (k + 1) = rch l most k ++ (if 0 ≤ l.getD k 0 ∧ l.getD k 0 ≤ most then [(k : Int)] else []) := by
 unfold rch
 rw [List.range_succ, List.filter_append, List.map_append]
 congr 1
 by_cases h : 0 ≤ l.getD k 0 ∧ l.getD k 0 ≤ most
 ·rw [if_pos h, List.filter_cons_of_pos (by simpa using h)]
  rfl
 ·rw [if_neg h, List.filter_cons_of_neg (by simpa using h)]
  rfl
theorem rch_len (l : List Int) (most : Int) (k : Nat) : (rch l most k).length ≤ k := by
 unfold rch
 rw [List.length_map]
 exact Nat.le_trans (List.length_filter_le _ _) (by simp)
theorem rch_mem {l : List Int} {most : Int} {k : Nat} {x : Int} : x ∈ rch l most k ↔ ∃ i : Nat, x = i ∧ i < k ∧ 0 ≤ l.getD i 0 ∧ l.getD i 0 ≤ most := by
 unfold rch
 simp only [List.mem_map, List.mem_filter, List.mem_range, decide_eq_true_eq]
 constructor
 ·rintro ⟨i, ⟨h1, h2⟩, rfl⟩
  exact ⟨i, rfl, h1, h2⟩
 ·rintro ⟨i, rfl, h1, h2⟩
  exact ⟨i, ⟨h1, h2⟩, rfl⟩
theorem get_some {l : List Int} {i n : Nat} (hl : l.length = n) (h : i < n) : l[i]? = some (l.getD i 0) := by rw [List.getD_eq_getElem?_getD, List.getElem?_eq_getElem (by omega)]; rfl
end Go.Proofs.YteieikgkmfglaaaGreatDoor.Wy
namespace Go.Proofs.YteieikgkmfglaaaGreatDoor
open Go.RowKit Wy
set_option linter.unusedVariables false
theorem onto_two (g : Int) (fl : Bool) : Fd.onto g fl ≤ 2 := by
 unfold Fd.onto
 repeat' split
 all_goals omega
theorem ss_two (gs : List Int) (fl : Bool) (j : Nat) : (gs.map fun g => Fd.onto g fl).getD j 0 ≤ 2 := by
 rw [List.getD_eq_getElem?_getD, List.getElem?_map]
 cases gs[j]? with
 | none => exact (by decide : (0 : Int) ≤ 2)
 | some g => exact onto_two g fl
theorem even_to {W H : Nat} (hW : 0 < W) (gs : List Int) (fl : Bool) : Even (Fd.near W H) (fun _ j => (gs.map fun g => Fd.onto g fl).getD j 0) (W * H) := even_near hW fun _ j => ss_two gs fl j
theorem even_from {W H : Nat} (hW : 0 < W) (gs : List Int) (fl : Bool) : Even (Fd.near W H) (fun i _ => (gs.map fun g => Fd.onto g fl).getD i 0) (W * H) := even_near hW fun i _ => ss_two gs fl i
end Go.Proofs.YteieikgkmfglaaaGreatDoor
namespace Go.Proofs.YteieikgkmfglaaaGreatDoor
open Go.RowKit Wy
set_option linter.unusedVariables false
set_option maxRecDepth 100000 in
set_option maxHeartbeats 4000000 in
theorem Reach_ok (v : Value) (W H : Nat) (gs os : List Int) (a : Nat) (m : Int) (fl : Bool) (w : World) (h : Fl w v W H gs os) (hs : Sd w) (G : Fd.Good W H gs os) (ha : a < W * H) (m0 : 0 ≤ m) (m1 : m ≤ 1000000) :
  Calls Tryz.prog 66 #[v, .int .i64 (a : Nat), .int .i64 m, .bool fl] w fun e w' => ∃ u l, e = .returned (.tuple #[u, .nilIface]) ∧ IsFar (Fd.near W H) (fun i _ => (gs.map fun g => Fd.onto g fl).getD i 0) a (W * H) l ∧ Ro w' u (rch l m (W * H)) ∧ Below w.heap.size w w' := by
 have F0 : Hid (Fl w v W H gs os) := h
 have S0 : Hid (Sd w) := hs
 have G0 : Hid (Fd.Good W H gs os) := G
 have A0 : Hid (a < W * H) := ha
 obtain ⟨u1, u2, rfl, ⟨a1, c, rfl, c1, c2, ca⟩, ⟨b1, d, rfl, d1, d2, cb⟩⟩ := h
 obtain ⟨ss, hss⟩ : ∃ ss, (gs.map fun g => Fd.onto g fl) = ss := ⟨_, rfl⟩
 have Hss : Hid ((gs.map fun g => Fd.onto g fl) = ss) := hss
 have E0 : Hid (Even (Fd.near W H) (fun i _ => ss.getD i 0) (W * H)) := by rw [← hss]; exact even_from G.w1 gs fl
 rw [hss]
 obtain ⟨n, hn⟩ : ∃ n, W * H = n := ⟨_, rfl⟩
 have Hn : Hid (W * H = n) := hn
 rw [hn] at E0 ⊢
 clear ca cb hs G ha hss hn
 go_enter Tryz.func66, Tryz.ntmps66
 go_wp2_with fail
 have b0 : Below w.heap.size w ((w.alloc (Obj.cells #[.int .i64 W, .int .i64 H, .slice a1 gs.length c, .slice b1 os.length d] 25)).alloc (Obj.cells #[.int .i64 (a : Nat)] 3)) := ((Below.refl _ _).alloc (Nat.le_refl _) _).alloc (by simp) _
 refine (look_ok _ _ W H gs os [(a : Int)] fl _ (F0.out.below b0) G0.out (S0.out.below b0) (Ro.lit1 (w := w.alloc _) (a : Int) (by simp)) (by have := A0.out; simp; omega)).mono ?_
 rintro e w1 ⟨⟨v1, rfl, hL⟩, hb⟩
 rw [Hss.out, Hn.out] at hL
 have B1 : Hid (Below w.heap.size w w1) := b0.trans (hb.mono (by simp; omega))
 have L1 : Hid (Ld w1 v1 (n) (Fd.near W H) ss) := hL
 obtain ⟨p1, p2, rfl, ⟨x1, k1, rfl, -⟩, ⟨x2, k2, rfl, -⟩, -⟩ := hL
 clear hb b0
 have n0 : ¬ m < 0 := by omega
 have n1 : ¬ 1000000 < m := by omega
 go_wp2_with fail
 have b2 : Below w1.heap.size w1 (w1.alloc (Obj.cells #[.slice (some x1) (n) k1, .slice x2 ss.length k2] 147)) := (Below.refl _ _).alloc (Nat.le_refl _) _
 refine (farFrom_ok _ (n) a (Fd.near W H) ss _ (L1.out.below b2) E0.out (by rw [← Hn.out]; exact A0.out) (by rw [← Hn.out]; exact G0.out.pos.2) (Fd.near_len W H)).mono ?_
 rintro e w2 ⟨g, l, rfl, hbz, hbk, ⟨hf, hfl⟩, hb⟩
 have K2 : Hid (Bk w2 g l #[]) := hbk
 have HF : Hid (IsFar (Fd.near W H) (fun i _ => ss.getD i 0) a (n) l) := hf
 have B2 : Hid (Below w.heap.size w w2) := (B1.out.trans (b2.mono B1.out.size)).trans (hb.mono (Nat.le_trans B1.out.size b2.size))
 have N0 : n ≤ 144 := by rw [← Hn.out]; exact G0.out.pos.2
 clear hbz hbk hb b2 L1 B1 hf hfl n0 n1
 go_wp2_with fail
 go_loopw [12, 37] (fun v i W' => ∃ k : Nat, k ≤ n ∧ i = .int .i64 (k : Nat) ∧ Ow W' w2.heap.size v (rch l m k) ∧ Below w2.heap.size w2 W') (fun _ i _ => n - (intOf i).toNat)
 case atStart => exact ⟨0, Nat.zero_le _, rfl, Ow.nil _ _, Below.refl _ _⟩
 case round =>
  obtain ⟨k, hk, rfl, ho, hb⟩ := hrel
  have O : Hid (Ow wr w2.heap.size u12 (rch l m k)) := ho
  have B : Hid (Below w2.heap.size w2 wr) := hb
  clear ho hb
  by_cases h0 : k = n
  ·subst h0
   go_wp2
   go_ret2
   exact ⟨_, l, rfl, HF, O.out.ro, B2.out.trans (B.out.mono B2.out.size)⟩
  ·have hkn : k < n := by omega
   have Er : Hid (rch l m (k + 1) = rch l m k ++ (if 0 ≤ l.getD k 0 ∧ l.getD k 0 ≤ m then [(k : Int)] else [])) := rch_succ l m k
   have ck := (K2.out.below B.out).cell (get_some HF.out.1 hkn)
   have Lr : Hid ((rch l m k).length ≤ 1000000000) := Nat.le_trans (rch_len l m k) (by omega)
   generalize l.getD k 0 = y at *
   generalize rch l m k = rs at *
   by_cases h1 : 0 ≤ y
   ·by_cases h2 : y ≤ m
    ·have Er' : Hid (rch l m (k + 1) = rs ++ [(k : Int)]) := by
      have := Er.out
      rw [if_pos ⟨h1, h2⟩] at this
      exact this
     have ba : Below wr.heap.size wr (wr.alloc (Obj.cells #[.int .i64 (k : Nat)] 3)) := (Below.refl _ _).alloc (Nat.le_refl _) _
     have O5 : Hid (Ow (wr.alloc (Obj.cells #[.int .i64 (k : Nat)] 3)) w2.heap.size u12 rs) := O.out.below ba
     have B5 : Hid (Below w2.heap.size w2 (wr.alloc (Obj.cells #[.int .i64 (k : Nat)] 3))) := B.out.trans (ba.mono B.out.size)
     have Cd : Hid ((wr.alloc (Obj.cells #[.int .i64 (k : Nat)] 3)).cell? ⟨wr.heap.size, 0, none⟩ = some (.int .i64 (k : Nat))) := by unfold Hid; simp
     clear ba Er O B
     go_wp2_with (at_builtin; refine app_int _ rfl _ _ rfl w2.heap.size _ rs rfl O5.out ⟨wr.heap.size, 0, none⟩ (k : Nat) rfl Cd.out Lr.out B5.out.size ?_)
     intro g6 cap6 w6 o6 gr6 at6 lt6
     have O6 : Hid (Ow w6 w2.heap.size (.slice (some ⟨g6, 0, none⟩) (rs.length + 1) cap6) (rs ++ [(k : Int)])) := o6
     have B6 : Hid (Below w2.heap.size w2 w6) := B5.out.trans ((Below.refl _ _).grown gr6 B5.out.size (fun k hk => (O5.out.block k hk).1))
     clear o6 gr6 at6 lt6 O5 B5 Cd
     go_wp2
     go_round
     case rel => exact ⟨k + 1, by omega, by go_num, by rw [Er'.out]; exact O6, B6⟩
     case measure => simp [intOf]; omega
    ·have Er' : Hid (rch l m (k + 1) = rs) := by
      have := Er.out
      rw [if_neg (fun h => h2 h.2), List.append_nil] at this
      exact this
     clear Er
     go_wp2
     go_round
     case rel => exact ⟨k + 1, by omega, by go_num, by rw [Er'.out]; exact O, B⟩
     case measure => simp [intOf]; omega
   ·have Er' : Hid (rch l m (k + 1) = rs) := by
     have := Er.out
     rw [if_neg (fun h => h1 h.1), List.append_nil] at this
     exact this
    clear Er
    go_wp2
    go_round
    case rel => exact ⟨k + 1, by omega, by go_num, by rw [Er'.out]; exact O, B⟩
    case measure => simp [intOf]; omega
end Go.Proofs.YteieikgkmfglaaaGreatDoor
namespace Go.Proofs.YteieikgkmfglaaaGreatDoor
open Go.RowKit Wy
set_option linter.unusedVariables false
set_option maxHeartbeats 2000000 in
/-- IndexFunc of numbers, with a function that may make memory. -/
theorem idxb_any (K : Nat) (eK : ∀ args w, (callFunc K args).run Tryz.prog w = .ok (.enter K args) w) (u : Value) (cs : Array Value) (xs : List Int) (p : Int → Bool) (w : World) (hu : Ro w u xs)
  (hp : ∀ W, Below w.heap.size w W → ∀ x : Int, Calls Tryz.prog K (#[.int .i64 x] ++ cs) W fun e w' => e = .returned (.bool (p x)) ∧ Below W.heap.size W w') :
  Calls Tryz.prog 67 #[u, .func (Fn.func K) #[] cs] w fun e w' => ∃ r : Int, e = .returned (.int .i64 r) ∧ Fst p xs r ∧ Below w.heap.size w w' := by
 have R0 : Hid (Ro w u xs) := hu
 obtain ⟨a, c, rfl, c1, c2, ca⟩ := hu
 have Hp : Hid (∀ W, Below w.heap.size w W → ∀ x : Int, Calls Tryz.prog K (#[.int .i64 x] ++ cs) W fun e w' => e = .returned (.bool (p x)) ∧ Below W.heap.size W w') := hp
 clear ca hp
 go_enter Tryz.func67, Tryz.ntmps67
 go_wp2
 go_loopw [8] (fun i W' => ∃ k : Nat, k ≤ xs.length ∧ i = .int .i64 (k : Nat) ∧ (xs.take k).any p = false ∧ Below w.heap.size w W') (fun i _ => xs.length - (intOf i).toNat)
 case atStart => exact ⟨0, Nat.zero_le _, rfl, by simp, Below.refl _ _⟩
 case round =>
  obtain ⟨k, hk, rfl, ht, hb⟩ := hrel
  have Ht : Hid ((xs.take k).any p = false) := ht
  have B : Hid (Below w.heap.size w wr) := hb
  clear ht hb
  by_cases h0 : k = xs.length
  ·subst h0
   go_wp2
   go_ret
   refine ⟨_, rfl, .inl ⟨rfl, ?_⟩, B⟩
   have := Ht.out
   rw [List.take_of_length_le (Nat.le_refl _)] at this
   exact this
  ·have hkx : k < xs.length := by omega
   obtain ⟨a', c', he, -, -, hca⟩ := R0.out.below B.out
   injection he with he1 he2 he3
   subst he1
   obtain ⟨x, rfl, -, hx⟩ := hca (by intro h; rw [h] at hkx; simp at hkx)
   obtain ⟨y, hy⟩ : ∃ y, xs[k]? = some y := ⟨_, List.getElem?_eq_getElem hkx⟩
   have cx : wr.cell? (x.add k) = some (.int .i64 y) := hx k y hy
   have hc := Hp.out wr B.out y
   have Hs : Hid ((xs.take (k + 1)).any p = ((xs.take k).any p || p y)) := by
    unfold Hid
    rw [any_next hkx]
    obtain ⟨hi, e⟩ := List.getElem?_eq_some_iff.1 hy
    rw [e]
   have Hm : Hid (xs[k]? = some y) := hy
   clear hx hca hy he2 he3
   cases hy : p y with
   | true =>
    rw [hy] at hc
    have Hc : Hid (Calls Tryz.prog K (#[.int .i64 y] ++ cs) wr fun e w' => e = .returned (.bool true) ∧ Below wr.heap.size wr w') := hc
    have Hy : Hid (p y = true) := hy
    clear hc hy
    go_wp2_with fail
    refine Calls.mono Hc.out ?_
    rintro e w1 ⟨rfl, b1⟩
    have B1 : Hid (Below w.heap.size w w1) := B.out.trans (b1.mono B.out.size)
    clear b1
    go_wp2
    go_ret
    exact ⟨_, rfl, .inr ⟨k, y, rfl, Hm, Hy, Ht⟩, B1⟩
   | false =>
    rw [hy] at hc
    have Hc : Hid (Calls Tryz.prog K (#[.int .i64 y] ++ cs) wr fun e w' => e = .returned (.bool false) ∧ Below wr.heap.size wr w') := hc
    have Hy : Hid (p y = false) := hy
    clear hc hy
    go_wp2_with fail
    refine Calls.mono Hc.out ?_
    rintro e w1 ⟨rfl, b1⟩
    have B1 : Hid (Below w.heap.size w w1) := B.out.trans (b1.mono B.out.size)
    clear b1
    go_wp2
    go_round
    case rel => exact ⟨k + 1, by omega, by go_num, by have := Hs.out; rw [Ht.out, Hy.out] at this; exact this, B1⟩
    case measure => simp [intOf]; omega
/-- what nearest tells, where l is how far each cell is: the first of the nearest that will do, within three. -/
def NearSays (l : List Int) (n : Nat) (p : Int → Bool) (c F : Int) : Prop :=
 (F = 6 ∧ c = 0 ∧ ∀ m : Nat, m ≤ 3 → (rch l m n).any p = false) ∨ (F = 0 ∧ ∃ m k : Nat, m ≤ 3 ∧ (rch l m n)[k]? = some c ∧ p c = true ∧ ((rch l m n).take k).any p = false ∧ ∀ j : Nat, j < m → (rch l j n).any p = false)
set_option maxRecDepth 100000 in
set_option maxHeartbeats 4000000 in
theorem nearest_ok (K : Nat) (eK : ∀ args w, (callFunc K args).run Tryz.prog w = .ok (.enter K args) w) (cs : Array Value) (p : Int → Bool) (v : Value) (W H : Nat) (gs os : List Int) (a : Nat) (fl : Bool) (w : World) (h : Fl w v W H gs os) (hs : Sd w) (G : Fd.Good W H gs os) (ha : a < W * H)
  (hp : ∀ V, Below w.heap.size w V → ∀ x : Int, Calls Tryz.prog K (#[.int .i64 x] ++ cs) V fun e w' => e = .returned (.bool (p x)) ∧ Below V.heap.size V w') :
  Calls Tryz.prog 44 #[v, .int .i64 (a : Nat), .bool fl, .func (Fn.func K) #[] cs] w fun e w' => ∃ l c r F, e = .returned (.tuple #[.int .i64 c, r]) ∧ IsFar (Fd.near W H) (fun i _ => (gs.map fun g => Fd.onto g fl).getD i 0) a (W * H) l ∧ Er r F ∧ NearSays l (W * H) p c F ∧ Below w.heap.size w w' := by
 have F0 : Hid (Fl w v W H gs os) := h
 have S0 : Hid (Sd w) := hs
 have G0 : Hid (Fd.Good W H gs os ∧ a < W * H) := ⟨G, ha⟩
 have Hp : Hid (∀ V, Below w.heap.size w V → ∀ x : Int, Calls Tryz.prog K (#[.int .i64 x] ++ cs) V fun e w' => e = .returned (.bool (p x)) ∧ Below V.heap.size V w') := hp
 obtain ⟨u1, u2, rfl, -, -⟩ := h
 clear hs G ha hp
 go_enter Tryz.func44, Tryz.ntmps44
 go_upto_region 1 with fail
 have B0 : Hid (Below w.heap.size w (w.alloc (.cells #[.int .i64 (W : Int), .int .i64 (H : Int), u1, u2] 25))) := (Below.refl _ _).alloc (Nat.le_refl _) _
 have X0 : Hid (Bf (w.alloc (.cells #[.int .i64 (W : Int), .int .i64 (H : Int), u1, u2] 25)) w.heap.size W H u1 u2) := Bf.mk' W H u1 u2 rfl
 generalize (w.alloc (.cells #[.int .i64 (W : Int), .int .i64 (H : Int), u1, u2] 25)) = w0 at *
 go_wp2
 go_loopw [14] (fun i V => ∃ k : Nat, k ≤ 4 ∧ i = .int .i64 (k : Nat) ∧ (∀ l, IsFar (Fd.near W H) (fun i _ => (gs.map fun g => Fd.onto g fl).getD i 0) a (W * H) l → ∀ j : Nat, j < k → (rch l j (W * H)).any p = false) ∧ (0 < k → ∃ l, IsFar (Fd.near W H) (fun i _ => (gs.map fun g => Fd.onto g fl).getD i 0) a (W * H) l) ∧ Bf V w.heap.size W H u1 u2 ∧ Below w.heap.size w V) (fun i _ => 4 - (intOf i).toNat)
 case atStart => exact ⟨0, by omega, rfl, fun l _ j hj => by omega, fun h => by omega, X0.out, B0.out⟩
 case round =>
  obtain ⟨k, hk, rfl, hN, hL, hX, hB⟩ := hrel
  have N : Hid (∀ l, IsFar (Fd.near W H) (fun i _ => (gs.map fun g => Fd.onto g fl).getD i 0) a (W * H) l → ∀ j : Nat, j < k → (rch l j (W * H)).any p = false) := hN
  have L : Hid (0 < k → ∃ l, IsFar (Fd.near W H) (fun i _ => (gs.map fun g => Fd.onto g fl).getD i 0) a (W * H) l) := hL
  have X : Hid (Bf wr w.heap.size W H u1 u2) := hX
  have B : Hid (Below w.heap.size w wr) := hB
  clear hN hL hX hB X0 B0
  by_cases h0 : k = 4
  ·subst h0
   go_wp2
   go_ret2
   obtain ⟨l, hl⟩ := L.out (by omega)
   exact ⟨l, 0, _, 6, rfl, hl, Er.no (by decide), .inl ⟨rfl, rfl, fun m hm => N.out l hl m (by omega)⟩, B.out⟩
  ·have hk4 : k < 4 := by omega
   have hki : ((k : Nat) : Int) < 4 := by omega
   obtain ⟨x0, x1, x2, x3⟩ := X.out
   go_wp2_with fail
   refine (Reach_ok _ W H gs os a (k : Nat) fl wr (F0.out.below B.out) (S0.out.below B.out) G0.out.1 G0.out.2 (by omega) (by omega)).mono ?_
   rintro e w1 ⟨u, l, rfl, hl, hr, hb⟩
   have B1 : Hid (Below w.heap.size w w1) := B.out.trans (hb.mono B.out.size)
   have X1 : Hid (Bf w1 w.heap.size W H u1 u2) := X.out.below hb X.out.lt
   have HL : Hid (IsFar (Fd.near W H) (fun i _ => (gs.map fun g => Fd.onto g fl).getD i 0) a (W * H) l) := hl
   have RO : Hid (Ro w1 u (rch l (k : Nat) (W * H))) := hr
   clear hb hl hr x0 x1 x2 x3 X B
   go_wp2_with fail
   refine (idxb_any K eK _ cs (rch l (k : Nat) (W * H)) p w1 RO.out (fun V hV x => Hp.out V (B1.out.trans (hV.mono B1.out.size)) x)).mono ?_
   rintro e w2 ⟨r, rfl, hf, hb⟩
   have B2 : Hid (Below w.heap.size w w2) := B1.out.trans (hb.mono B1.out.size)
   have X2 : Hid (Bf w2 w.heap.size W H u1 u2) := X1.out.below hb X1.out.lt
   have RO2 : Hid (Ro w2 u (rch l (k : Nat) (W * H))) := RO.out.below hb
   clear hb X1 B1 RO
   rcases hf with ⟨rfl, hno⟩ | ⟨j, c, rfl, hj, hpc, htk⟩
   ·have NO : Hid ((rch l (k : Nat) (W * H)).any p = false) := hno
    clear hno
    go_wp2
    go_round
    case rel => exact ⟨k + 1, by omega, by go_num, fun l' hl' j hj => by
     by_cases hjk : j < k
     ·exact N.out l' hl' j hjk
     ·have : j = k := by omega
      subst this
      rw [hl'.uniq HL.out]; exact NO.out, fun _ => ⟨l, HL.out⟩, X2.out, B2.out⟩
    case measure => simp [intOf]; omega
   ·have FJ : Hid ((rch l (k : Nat) (W * H))[j]? = some c ∧ p c = true ∧ ((rch l (k : Nat) (W * H)).take j).any p = false) := ⟨hj, hpc, htk⟩
    have hjl : j < (rch l (k : Nat) (W * H)).length := (List.getElem?_eq_some_iff.1 hj).1
    obtain ⟨ad, cp, rfl, -, -, hca⟩ := RO2.out
    obtain ⟨x, rfl, -, hx⟩ := hca (by intro h; rw [h] at hjl; simp at hjl)
    have cx : w2.cell? (x.add j) = some (.int .i64 c) := hx j c hj
    clear hj hpc htk hx hca
    go_wp2
    go_ret2
    exact ⟨l, c, _, 0, rfl, HL.out, Er.nil, .inr ⟨rfl, k, j, by omega, FJ.out.1, FJ.out.2.1, FJ.out.2.2, fun i hi => N.out l HL.out i hi⟩, B2.out⟩
set_option maxHeartbeats 1000000 in
theorem sat_any (u : UnV) (at_ : Int) (b : Nat) (w : World) (hc : w.cell? ⟨b, 0, none⟩ = some (.int .i64 at_)) :
  Calls Tryz.prog 43 #[u.val, .pointer (some ⟨b, 0, none⟩)] w fun e w' => e = .returned (.bool (u.at_ == at_)) ∧ Below w.heap.size w w' := by
 have hb : b < w.heap.size := cell_lt hc
 have hne : b ≠ w.heap.size := by omega
 unfold UnV.val
 go_enter Tryz.func43, Tryz.ntmps43
 go_wp2
 go_ret
 exact ⟨rfl, (Below.refl _ _).alloc (Nat.le_refl _) _⟩
set_option maxHeartbeats 2000000 in
/-- whether nobody is on a cell. -/
theorem free_any (us : List UnV) (at_ : Int) (b : Nat) (u : Value) (w : World) (hc : w.cell? ⟨b, 7, none⟩ = some u) (hu : Unl w u us) :
  Calls Tryz.prog 41 #[.int .i64 at_, .pointer (some ⟨b, 0, none⟩)] w fun e w' => e = .returned (.bool (!us.any (fun u => u.at_ == at_))) ∧ Below w.heap.size w w' := by
 have U : Hid (Unl w u us) := hu
 have hb : b < w.heap.size := cell_lt hc
 have hne : b ≠ w.heap.size := by omega
 clear hu
 go_enter Tryz.func41, Tryz.ntmps41
 go_upto_region 1 with fail
 have B0 : Hid (Below w.heap.size w (w.alloc (Obj.cells #[.int .i64 at_] 3))) := (Below.refl _ _).alloc (Nat.le_refl _) _
 have C0 : Hid ((w.alloc (Obj.cells #[.int .i64 at_] 3)).cell? ⟨w.heap.size, 0, none⟩ = some (.int .i64 at_)) := cell_of_new (by simp) rfl
 have c7 : (w.alloc (Obj.cells #[.int .i64 at_] 3)).cell? ⟨b, 7, none⟩ = some u := by rw [B0.out.cell (p := ⟨b, 7, none⟩) hb]; exact hc
 generalize (w.alloc (Obj.cells #[.int .i64 at_] 3)) = w0 at *
 go_wp2_with fail
 refine (hasu_any 43 (by intro args w; go_simp) u #[.pointer (some ⟨w.heap.size, 0, none⟩)] us (fun u => u.at_ == at_) w0 (U.out.below B0.out) (fun V hV k => sat_any k at_ w.heap.size V (by rw [hV.cell (p := ⟨w.heap.size, 0, none⟩) (cell_lt C0.out)]; exact C0.out))).mono ?_
 rintro e w1 ⟨rfl, hb1⟩
 have B1 : Hid (Below w.heap.size w w1) := B0.out.trans (hb1.mono B0.out.size)
 obtain ⟨m, hm⟩ : ∃ m, us.any (fun u => u.at_ == at_) = m := ⟨_, rfl⟩
 have HM : Hid (us.any (fun u => u.at_ == at_) = m) := hm
 rw [hm]
 clear hb1 hm c7 hc
 go_wp2
 go_ret
 exact ⟨by rw [HM.out]; rfl, B1.out⟩
end Go.Proofs.YteieikgkmfglaaaGreatDoor
namespace Go.Proofs.YteieikgkmfglaaaGreatDoor
open Go.RowKit Wy
set_option linter.unusedVariables false
/-- nobody is on a cell. -/
def freeAt (us : List UnV) (x : Int) : Bool := !us.any (fun u => u.at_ == x)
/-- what Spot tells. -/
def SpotSays (ks : List KV) (X : WV) (unit kind c F : Int) : Prop :=
 (Wd.wfault ks X ≠ 0 ∧ F = Wd.wfault ks X ∧ c = 0) ∨ (Wd.wfault ks X = 0 ∧ X.us.any (fun u => u.id == unit) = false ∧ F = 6 ∧ c = 0)
 ∨ (Wd.wfault ks X = 0 ∧ X.us.any (fun u => u.id == unit) = true ∧ ¬ (0 ≤ kind ∧ kind < (ks.length : Int)) ∧ F = 1 ∧ c = 0)
 ∨ (Wd.wfault ks X = 0 ∧ ∃ (i kn Wn Hn an : Nat) (u : UnV) (k : KV) (l : List Int), FstU (fun u => u.id == unit) X.us (i : Nat) ∧ X.us[i]? = some u ∧ kind = (kn : Nat) ∧ ks[kn]? = some k ∧ X.wide = (Wn : Nat) ∧ X.high = (Hn : Nat) ∧ Fd.Good Wn Hn X.gs X.os ∧ u.at_ = (an : Nat) ∧ an < Wn * Hn
   ∧ IsFar (Fd.near Wn Hn) (fun i _ => (X.gs.map fun g => Fd.onto g k.f).getD i 0) an (Wn * Hn) l ∧ NearSays l (Wn * Hn) (freeAt X.us) c F)
set_option maxRecDepth 100000 in
set_option maxHeartbeats 16000000 in
theorem spot_any (vk vw : Value) (ks : List KV) (X : WV) (unit kind : Int) (w : World) (hk : Kl w vk ks) (hb : ∀ k ∈ ks, k.b.size ≤ 9223372036854775807) (hw : Wl w vw X) (hs : Sd w) :
  Calls Tryz.prog 16 #[vk, vw, .int .i64 unit, .int .i64 kind] w fun e w' => ∃ c r F, e = .returned (.tuple #[.int .i64 c, r]) ∧ Er r F ∧ SpotSays ks X unit kind c F ∧ Below w.heap.size w w' := by
 have K : Hid (Kl w vk ks ∧ ∀ k ∈ ks, k.b.size ≤ 9223372036854775807) := ⟨hk, hb⟩
 have H : Hid (Wl w vw X) := hw
 have S : Hid (Sd w) := hs
 obtain ⟨p1, q1, p2, q2, p3, q3, p4, q4, p5, q5, rfl⟩ := wl_shape9 hw
 obtain ⟨pk, qk, rfl, ck1, ck2, kc⟩ := hk
 have KC : Hid (ks ≠ [] → ∃ x, pk = some x ∧ x.block < w.heap.size ∧ ∀ (i : Nat) k, ks[i]? = some k → Kc w (x.add (i * 11)) k) := kc
 clear hb hw hs kc
 go_enter Tryz.func16, Tryz.ntmps16
 go_upto_region 1 with fail
 have B0 : Hid (Below w.heap.size w (w.alloc (Obj.cells #[.int .i64 X.turn, .int .i64 X.next, .int .i64 X.wide, .int .i64 X.high, .slice p1 X.gs.length q1, .slice p2 X.os.length q2, .slice p3 X.gold.length q3, .slice p4 X.us.length q4, .slice p5 X.qs.length q5] 29))) := (Below.refl _ _).alloc (Nat.le_refl _) _
 have X0 : Hid (Bw (w.alloc (Obj.cells #[.int .i64 X.turn, .int .i64 X.next, .int .i64 X.wide, .int .i64 X.high, .slice p1 X.gs.length q1, .slice p2 X.os.length q2, .slice p3 X.gold.length q3, .slice p4 X.us.length q4, .slice p5 X.qs.length q5] 29)) w.heap.size X (.slice p1 X.gs.length q1) (.slice p2 X.os.length q2) (.slice p3 X.gold.length q3) (.slice p4 X.us.length q4) (.slice p5 X.qs.length q5)) := Bw.mk' X _ _ _ _ _ rfl
 generalize (w.alloc (Obj.cells #[.int .i64 X.turn, .int .i64 X.next, .int .i64 X.wide, .int .i64 X.high, .slice p1 X.gs.length q1, .slice p2 X.os.length q2, .slice p3 X.gold.length q3, .slice p4 X.us.length q4, .slice p5 X.qs.length q5] 29)) = w0 at *
 obtain ⟨x0, x1, x2, x3, x4, x5, x6, x7, x8⟩ := X0.out
 go_wp2_with fail
 refine (wcheck_any _ _ ks X w0 (K.out.1.below B0.out) K.out.2 (H.out.below B0.out)).mono ?_
 rintro e w1 ⟨r, rfl, hr, hb⟩
 obtain ⟨fw, hfw⟩ : ∃ f, Wd.wfault ks X = f := ⟨_, rfl⟩
 have FW : Hid (Wd.wfault ks X = fw) := hfw
 rw [hfw] at hr
 have B1 : Hid (Below w.heap.size w w1) := B0.out.trans (hb.mono B0.out.size)
 have X1 : Hid (Bw w1 w.heap.size X (.slice p1 X.gs.length q1) (.slice p2 X.os.length q2) (.slice p3 X.gold.length q3) (.slice p4 X.us.length q4) (.slice p5 X.qs.length q5)) := X0.out.below hb X0.out.lt
 clear hb hfw x0 x1 x2 x3 x4 x5 x6 x7 x8 X0 B0
 rcases hr with ⟨rfl, rfl⟩ | ⟨hf, rfl⟩
 case inr =>
  have HF : Hid (fw ≠ 0) := hf
  clear hf
  go_wp2
  go_ret2
  exact ⟨0, _, fw, rfl, Er.no HF.out, .inl (by rw [FW.out]; exact ⟨HF.out, rfl, rfl⟩), B1.out⟩
 obtain ⟨x0, x1, x2, x3, x4, x5, x6, x7, x8⟩ := X1.out
 go_wp2_with fail
 refine (wfind_any _ X unit w1 (H.out.below B1.out)).mono ?_
 rintro e w2 ⟨r, rfl, hf, hb⟩
 have B2 : Hid (Below w.heap.size w w2) := B1.out.trans (hb.mono B1.out.size)
 have X2 : Hid (Bw w2 w.heap.size X (.slice p1 X.gs.length q1) (.slice p2 X.os.length q2) (.slice p3 X.gold.length q3) (.slice p4 X.us.length q4) (.slice p5 X.qs.length q5)) := X1.out.below hb X1.out.lt
 have FI : Hid (FstU (fun u => u.id == unit) X.us r) := hf
 clear hb x0 x1 x2 x3 x4 x5 x6 x7 x8 X1 B1
 rcases hf with ⟨rfl, hno⟩ | ⟨i, u, rfl, hi, hid, -⟩
 ·have NO : Hid (X.us.any (fun u => u.id == unit) = false) := hno
  clear hno
  go_wp2
  go_ret2
  exact ⟨0, _, 6, rfl, Er.no (by decide), .inr (.inl ⟨FW.out, NO.out, rfl, rfl⟩), B2.out⟩
 have AN : Hid (X.us.any (fun u => u.id == unit) = true) := List.any_eq_true.2 ⟨u, List.mem_of_getElem? hi, hid⟩
 have UI : Hid (X.us[i]? = some u) := hi
 have hil : i < X.us.length := (List.getElem?_eq_some_iff.1 hi).1
 clear hi hid
 by_cases hk0 : kind < 0
 ·go_wp2
  go_ret2
  exact ⟨0, _, 1, rfl, Er.no (by decide), .inr (.inr (.inl ⟨FW.out, AN.out, by omega, rfl, rfl⟩)), B2.out⟩
 by_cases hk1 : (ks.length : Int) ≤ kind
 ·go_wp2
  go_ret2
  exact ⟨0, _, 1, rfl, Er.no (by decide), .inr (.inr (.inl ⟨FW.out, AN.out, by omega, rfl, rfl⟩)), B2.out⟩
 obtain ⟨kn, rfl⟩ : ∃ n : Nat, kind = n := ⟨kind.toNat, by omega⟩
 have hkl : kn < ks.length := by omega
 obtain ⟨k, hkk⟩ : ∃ k, ks[kn]? = some k := ⟨_, List.getElem?_eq_getElem hkl⟩
 have WR : Hid (WRight ks X) := wright_of FW.out
 obtain ⟨Wn, Hn, e1, e2, G⟩ := WR.out.good
 obtain ⟨k0, fu⟩ := WR.out.fine UI.out
 have hat := fu.at_
 obtain ⟨an, han⟩ : ∃ n : Nat, u.at_ = n := ⟨u.at_.toNat, by omega⟩
 have GD : Hid (X.wide = (Wn : Nat) ∧ X.high = (Hn : Nat) ∧ Fd.Good Wn Hn X.gs X.os ∧ u.at_ = (an : Nat) ∧ an < Wn * Hn ∧ ks[kn]? = some k) := ⟨e1, e2, G, han, by have := G.gl; omega, hkk⟩
 obtain ⟨pa, pc, he, -, -, hu⟩ := H.out.slices.2.2.2.1
 obtain ⟨xu, hxu, hxul, hxuc⟩ := hu (by intro h; rw [h] at hil; simp at hil)
 injection he with he1 he2 he3
 subst he1
 subst hxu
 obtain ⟨xk, hxk, hxl, hxc⟩ := KC.out (by intro h; subst h; simp at hkl)
 subst hxk
 have UK : Hid (Unc w (xu.add (i * 8)) u ∧ (xu.add (i * 8)).block < w.heap.size ∧ Kc w (xk.add (kn * 11)) k ∧ (xk.add (kn * 11)).block < w.heap.size) := ⟨hxuc i u UI.out, by rw [add_block]; exact hxul, hxc kn k hkk, by rw [add_block]; exact hxl⟩
 clear hu he2 he3 hxul hxuc hxl hxc e1 e2 G fu hat hkk KC han
 go_upto_region 10 with fail
 refine wp_region_two [(true, 0), (true, 1), (true, 2), (true, 3), (true, 4), (true, 5), (true, 6), (true, 7), (true, 8), (true, 9), (true, 10), (true, 11), (true, 12), (true, 13), (false, 14)] [(true, 15), (true, 16), (true, 17), (false, 18)] (fun V => Bw V w.heap.size X (.slice p1 X.gs.length q1) (.slice p2 X.os.length q2) (.slice p3 X.gold.length q3) (.slice (some xu) X.us.length q4) (.slice p5 X.qs.length q5) ∧ V.cell? ⟨(xu.add (i * 8)).block, (xu.add (i * 8)).off + 3, none⟩ = some (.int .i64 u.at_) ∧ V.cell? ⟨(xk.add (kn * 11)).block, (xk.add (kn * 11)).off + 9, none⟩ = some (.bool k.f)) (by kernel_rfl) (by kernel_rfl) (by kernel_rfl) (by decide +kernel) (by decide +kernel) ?_ ?_
 ·exact ⟨X2.out.below ((Below.refl _ _).drew) X2.out.lt, (UK.out.1.below B2.out UK.out.2.1).c3, (UK.out.2.2.1.below B2.out UK.out.2.2.2).c9⟩
 have X3 : Hid (Bw { w2 with drawn := w2.drawn + 1 } w.heap.size X (.slice p1 X.gs.length q1) (.slice p2 X.os.length q2) (.slice p3 X.gold.length q3) (.slice (some xu) X.us.length q4) (.slice p5 X.qs.length q5)) := X2.out.below ((Below.refl _ _).drew) X2.out.lt
 have B3 : Hid (Below w.heap.size w { w2 with drawn := w2.drawn + 1 }) := B2.out.drew
 generalize ({ w2 with drawn := w2.drawn + 1 } : World) = w3 at *
 clear X2 B2
 refine headT_read rfl (.pointer (some ⟨w.heap.size, 2, none⟩)) (by go_simp) (fun V hV => by go_simp) ?_
 go_simp
 refine headT_read rfl (.agg #[.int .i64 X.wide, .int .i64 X.high, .slice p1 X.gs.length q1, .slice p2 X.os.length q2]) (by go_simp) (fun V hV => by obtain ⟨⟨x0, x1, x2, x3, x4, x5, x6, x7, x8⟩, cu, ck⟩ := hV; go_simp) ?_
 go_simp
 refine headT_read rfl (.pointer (some ⟨w.heap.size, 7, none⟩)) (by go_simp) (fun V hV => by go_simp) ?_
 go_simp
 refine headT_read rfl (.slice (some xu) X.us.length q4) (by go_simp) (fun V hV => by obtain ⟨⟨x0, x1, x2, x3, x4, x5, x6, x7, x8⟩, cu, ck⟩ := hV; go_simp) ?_
 go_simp
 refine headT_read rfl (.int .i64 (i : Nat)) (by go_simp) (fun V hV => by go_simp) ?_
 go_simp
 refine headT_read rfl (.pointer (some (xu.add (i * 8)))) (by go_simp) (fun V hV => by go_simp) ?_
 go_simp
 refine headT_read rfl (.pointer (some ⟨(xu.add (i * 8)).block, (xu.add (i * 8)).off + 3, none⟩)) (by go_simp) (fun V hV => by go_simp) ?_
 go_simp
 refine headT_read rfl (.int .i64 u.at_) (by go_simp) (fun V hV => by obtain ⟨⟨x0, x1, x2, x3, x4, x5, x6, x7, x8⟩, cu, ck⟩ := hV; go_simp) ?_
 go_simp
 refine headT_read rfl (.slice (some xk) ks.length qk) (by go_simp) (fun V hV => by go_simp) ?_
 go_simp
 refine headT_read rfl (.int .i64 (kn : Nat)) (by go_simp) (fun V hV => by go_simp) ?_
 go_simp
 refine headT_read rfl (.pointer (some (xk.add (kn * 11)))) (by go_simp) (fun V hV => by go_simp) ?_
 go_simp
 refine headT_read rfl (.pointer (some ⟨(xk.add (kn * 11)).block, (xk.add (kn * 11)).off + 9, none⟩)) (by go_simp) (fun V hV => by go_simp) ?_
 go_simp
 refine headT_read rfl (.bool k.f) (by go_simp) (fun V hV => by obtain ⟨⟨x0, x1, x2, x3, x4, x5, x6, x7, x8⟩, cu, ck⟩ := hV; go_simp) ?_
 go_simp
 refine headT_read rfl (.func (Fn.func 41) #[] #[.pointer (some ⟨w.heap.size, 0, none⟩)]) (by go_simp) (fun V hV => by go_simp) ?_
 go_simp
 refine headT_call rfl 44 #[.agg #[.int .i64 X.wide, .int .i64 X.high, .slice p1 X.gs.length q1, .slice p2 X.os.length q2], .int .i64 u.at_, .bool k.f, .func (Fn.func 41) #[] #[.pointer (some ⟨w.heap.size, 0, none⟩)]] (by go_simp) (by go_simp) ?_
 have FL : Hid (Fl w3 (.agg #[.int .i64 X.wide, .int .i64 X.high, .slice p1 X.gs.length q1, .slice p2 X.os.length q2]) (Wn : Nat) (Hn : Nat) X.gs X.os) := by
  have := fl_of (H.out.below B3.out)
  rw [GD.out.1, GD.out.2.1] at this
  rw [GD.out.1, GD.out.2.1]
  exact this
 have UL : Hid (Unl w (.slice (some xu) X.us.length q4) X.us) := H.out.slices.2.2.2.1
 rw [GD.out.2.2.2.1]
 refine (nearest_ok 41 (by intro args w; go_simp) #[.pointer (some ⟨w.heap.size, 0, none⟩)] (freeAt X.us) _ Wn Hn X.gs X.os an k.f w3 FL.out (S.out.below B3.out) GD.out.2.2.1 GD.out.2.2.2.2.1
  (fun V hV x => free_any X.us x w.heap.size _ V (X3.out.below hV X3.out.lt).c7 ((UL.out.below B3.out).below hV))).mono ?_
 rintro e w4 ⟨l, c, r, F, rfl, hl, hr, hn, hb⟩
 have B4 : Hid (Below w.heap.size w w4) := B3.out.trans (hb.mono B3.out.size)
 have X4 : Hid (Bw w4 w.heap.size X (.slice p1 X.gs.length q1) (.slice p2 X.os.length q2) (.slice p3 X.gold.length q3) (.slice (some xu) X.us.length q4) (.slice p5 X.qs.length q5)) := X3.out.below hb X3.out.lt
 have NS : Hid (IsFar (Fd.near Wn Hn) (fun i _ => (X.gs.map fun g => Fd.onto g k.f).getD i 0) an (Wn * Hn) l ∧ Er r F ∧ NearSays l (Wn * Hn) (freeAt X.us) c F) := ⟨hl, hr, hn⟩
 refine ⟨_, rfl, ⟨X4.out, (by have := (UK.out.1.below B4.out UK.out.2.1).c3; rw [GD.out.2.2.2.1] at this; exact this), (UK.out.2.2.1.below B4.out UK.out.2.2.2).c9⟩, ?_⟩
 clear hb hl hr hn X3 B3 FL
 go_simp
 refine sched_read rfl (.int .i64 c) (by go_simp) (fun V hV => by go_simp) ?_
 go_simp
 refine sched_read rfl r (by go_simp) (fun V hV => by go_simp) ?_
 go_simp
 refine sched_read rfl (.int .i64 c) (by go_simp) (fun V hV => by go_simp) ?_
 go_simp
 refine sched_value rfl r w4 (by go_simp) (by go_simp) trivial ?_
 go_simp
 unfold wpSched
 go_wp2
 go_ret2
 exact ⟨c, r, F, rfl, NS.out.2.1, .inr (.inr (.inr ⟨FW.out, i, kn, Wn, Hn, an, u, k, l, FI.out, UI.out, rfl, GD.out.2.2.2.2.2, GD.out.1, GD.out.2.1, GD.out.2.2.1, GD.out.2.2.2.1, GD.out.2.2.2.2.1, NS.out.1, NS.out.2.2⟩)), B4.out⟩
end Go.Proofs.YteieikgkmfglaaaGreatDoor
namespace Go.Proofs.YteieikgkmfglaaaGreatDoor
set_option linter.unusedVariables false
theorem kind_nums {ks : List KV} (h : Kd.kindsFault (ks.map KV.k) = 0) {k : KV} (hk : k ∈ ks) : 1 ≤ k.n0 ∧ 0 ≤ k.n7 ∧ 0 ≤ k.n4 ∧ k.n4 ≤ 4 ∧ 0 ≤ k.n1 ∧ k.n1 ≤ 1000 ∧ 0 ≤ k.n2 ∧ k.n2 ≤ 12 ∧ 0 ≤ k.n3 ∧ k.n3 ≤ 12 ∧ k.n0 ≤ 1000 ∧ k.n7 ≤ 1000 := by
 unfold Kd.kindsFault at h
 split at h
 ·omega
 ·have := kgo_nums h k.k (List.mem_map.2 ⟨k, hk, rfl⟩)
  unfold Kd.numsFault at this
  split at this
  ·omega
  ·rename_i h1
   rw [Bool.not_eq_true, List.any_eq_false] at h1
   have a := h1 k.n0 (by simp [KV.k])
   have b := h1 k.n7 (by simp [KV.k])
   have c := h1 k.n4 (by simp [KV.k])
   have d := h1 k.n1 (by simp [KV.k])
   have e := h1 k.n2 (by simp [KV.k])
   have f := h1 k.n3 (by simp [KV.k])
   simp only [decide_eq_true_eq] at a b c d e f
   split at this
   ·omega
   ·rename_i h2
    have e0 : (k.k.nums).getD 0 0 = k.n0 := rfl
    have e4 : (k.k.nums).getD 4 0 = k.n4 := rfl
    have e2 : (k.k.nums).getD 2 0 = k.n2 := rfl
    have e3 : (k.k.nums).getD 3 0 = k.n3 := rfl
    omega
theorem find_more {us : List UnV} {n : UnV} {p : UnV → Bool} {u : UnV} (h : us.find? p = some u) : (us ++ [n]).find? p = some u := by
 rw [List.find?_append, h]; rfl
theorem put_right {ks : List KV} {W : WV} {pl kd at_ : Int} (h : WRight ks W) (hp : Wd.placeFault ks W pl kd at_ = 0) : Wd.wfault ks (Wd.put ks W pl kd at_) = 0 := by
 obtain ⟨h40, hpl, hat, kn, k, rfl, hkl, hkk, hop⟩ := pf_zero hp
 have hnu : Wd.newUnit ks W pl (kn : Nat) at_ = ⟨W.next, pl, (kn : Nat), at_, k.n0, 0, 0, 0⟩ := by unfold Wd.newUnit; rw [Int.toNat_natCast, hkk]
 have hn1 : 1 ≤ W.next := by
  have := (nums_ok h.nums).1
  unfold Wd.off at this
  simp at this
  omega
 have hk := kind_nums h.kinds (List.mem_of_getElem? hkk)
 obtain ⟨Wn, Hn, e1, e2, G⟩ := h.good
 unfold Wd.put
 rw [hnu]
 refine Wd.wfault_zero h.kinds (by show Fd.fault W.wide W.high W.gs W.os = 0; rw [e1, e2]; exact Fd.fault_good G) ?_ ?_ ?_ h.ql ?_
 ·have hn := h.nums
  unfold Wd.numsBad at hn ⊢
  simp only [Bool.or_eq_false_iff] at hn ⊢
  refine ⟨hn.1, ?_, hn.2.2⟩
  unfold Wd.off
  simp
  omega
 ·show (W.us ++ [_]).length ≤ 40
  rw [List.length_append]
  have := h40
  simp only [List.length_cons, List.length_nil]
  omega
 ·intro i u hu
  have hu' : (W.us ++ [(⟨W.next, pl, (kn : Nat), at_, k.n0, 0, 0, 0⟩ : UnV)])[i]? = some u := hu
  rcases Nat.lt_or_ge i W.us.length with hi | hi
  ·rw [List.getElem?_append_left hi] at hu'
   obtain ⟨k0, f⟩ := h.fine hu'
   refine ⟨k0, ⟨f.id1, ?_, ?_, f.p, f.k0, f.kk, f.life, f.load, f.task, f.at_, f.goal, ?_, f.rest⟩⟩
   ·have := f.id2
    show u.id ≤ W.next + 1 - 1
    omega
   ·have := f.up
    show Wd.notAbove (W.us ++ [_]) i u = false
    unfold Wd.notAbove at this ⊢
    cases i with
    | zero => rfl
    | succ j =>
     simp only at this ⊢
     rw [List.getElem?_append_left (by omega)]
     exact this
   ·show Wd.open_ W.gs ((W.us ++ [_]).take i) u.at_ k0.f = true
    rw [List.take_append_of_le_length (by omega)]
    exact f.opn
  ·rw [List.getElem?_append_right hi] at hu'
   have hil : i = W.us.length := by
    rcases Nat.eq_zero_or_pos (i - W.us.length) with h0 | h0
    ·omega
    ·rw [List.getElem?_eq_none (by simp; omega)] at hu'; cases hu'
   subst hil
   rw [Nat.sub_self] at hu'
   injection hu' with hu'
   subst hu'
   refine ⟨k, ⟨hn1, ?_, ?_, hpl, ⟨by simp, by simp; omega⟩, by simpa using hkk, ⟨hk.1, Int.le_refl _⟩, ⟨Int.le_refl _, hk.2.1⟩, ⟨by simp, by simp⟩, hat, ⟨by simp, Int.lt_of_le_of_lt hat.1 hat.2⟩, ?_, .inl rfl⟩⟩
   ·show W.next ≤ W.next + 1 - 1
    omega
   ·show Wd.notAbove (W.us ++ [_]) W.us.length _ = false
    unfold Wd.notAbove
    cases hl : W.us.length with
    | zero => rfl
    | succ j =>
     simp only
     rw [List.getElem?_append_left (by omega)]
     cases hx : W.us[j]? with
     | none => rfl
     | some x =>
      obtain ⟨k0, f⟩ := h.fine hx
      have := f.id2
      simp
      omega
   ·show Wd.open_ W.gs ((W.us ++ [_]).take W.us.length) at_ k.f = true
    rw [List.take_left]
    exact hop
 ·intro j hj
  have := h.job hj
  unfold Wd.jobFault at this ⊢
  cases hx : W.us.find? (fun u => u.id == j.unit) with
  | none => rw [hx] at this; cases this
  | some u =>
   rw [hx] at this
   have hm := find_more (n := (⟨W.next, pl, (kn : Nat), at_, k.n0, 0, 0, 0⟩ : UnV)) hx
   simp only [hm]
   exact this
end Go.Proofs.YteieikgkmfglaaaGreatDoor
namespace Go.Proofs.YteieikgkmfglaaaGreatDoor
set_option linter.unusedVariables false
def cntU (l : List JbV) (u : Int) : Nat := l.countP (fun j => decide (j.unit = u))
theorem cntU_next {l : List JbV} {q : Nat} {j : JbV} (h : l[q]? = some j) (u : Int) : cntU (l.take (q + 1)) u = cntU (l.take q) u + if j.unit = u then 1 else 0 := by
 unfold cntU
 rw [List.take_add_one, h, List.countP_append]
 simp [List.countP_cons]
/-- a job, one turn later, if none ahead is of its unit. -/
def dec1 (l : List JbV) (j : JbV) : JbV := if cntU l j.unit = 0 then { j with left := j.left - 1 } else j
def one1 (j : JbV) : JbV := { j with left := 1 }
def Comes (ks : List KV) (Y : WV) (j : JbV) (c : Int) : Prop := SpotSays ks Y j.unit j.kind c 0 ∧ Wd.placeFault ks Y j.player j.kind c = 0
def NoCome (ks : List KV) (Y : WV) (j : JbV) : Prop := ∃ c F, SpotSays ks Y j.unit j.kind c F ∧ (F ≠ 0 ∨ Wd.placeFault ks Y j.player j.kind c ≠ 0)
/-- the first q jobs are looked at: the world by then, what happened, which jobs are left. -/
inductive Tr (ks : List KV) (X : WV) : Nat → WV → List EvV → List JbV → Prop
 | zero : Tr ks X 0 X [] []
 | wait {q : Nat} {Y : WV} {es : List EvV} {qs : List JbV} {j : JbV} : Tr ks X q Y es qs → X.qs[q]? = some j → (dec1 (X.qs.take q) j).left ≠ 0 → Tr ks X (q + 1) Y es (qs ++ [dec1 (X.qs.take q) j])
 | come {q : Nat} {Y : WV} {es : List EvV} {qs : List JbV} {j : JbV} {c : Int} : Tr ks X q Y es qs → X.qs[q]? = some j → (dec1 (X.qs.take q) j).left = 0 → Comes ks Y j c → Tr ks X (q + 1) (Wd.put ks Y j.player j.kind c) (es ++ [⟨6, Y.next, c⟩]) qs
 | stay {q : Nat} {Y : WV} {es : List EvV} {qs : List JbV} {j : JbV} : Tr ks X q Y es qs → X.qs[q]? = some j → (dec1 (X.qs.take q) j).left = 0 → NoCome ks Y j → Tr ks X (q + 1) Y es (qs ++ [one1 j])
theorem Tr.keep {ks : List KV} {X : WV} (h : WRight ks X) {q : Nat} {Y : WV} {es : List EvV} {qs : List JbV} (t : Tr ks X q Y es qs) : WRight ks Y ∧ Y.qs = X.qs ∧ es.length ≤ q ∧ qs.length ≤ q ∧ Y.turn = X.turn ∧ Y.wide = X.wide ∧ Y.high = X.high ∧ Y.gs = X.gs ∧ Y.os = X.os ∧ Y.gold = X.gold := by
 induction t with
 | zero => exact ⟨h, rfl, by simp, by simp, rfl, rfl, rfl, rfl, rfl, rfl⟩
 | wait _ _ _ ih =>
  obtain ⟨i1, i2, i3, i4, i5⟩ := ih
  exact ⟨i1, i2, by omega, by simp; omega, i5⟩
 | come _ _ _ hc ih =>
  obtain ⟨i1, i2, i3, i4, i5⟩ := ih
  exact ⟨wright_of (put_right i1 hc.2), i2, by simp; omega, by omega, i5⟩
 | stay _ _ _ _ ih =>
  obtain ⟨i1, i2, i3, i4, i5⟩ := ih
  exact ⟨i1, i2, by omega, by simp; omega, i5⟩
end Go.Proofs.YteieikgkmfglaaaGreatDoor
namespace Go.Proofs.YteieikgkmfglaaaGreatDoor
open Wy
set_option linter.unusedVariables false
theorem near_uniq {l : List Int} {n : Nat} {p : Int → Bool} {c F c' F' : Int} (h : NearSays l n p c F) (h' : NearSays l n p c' F') : c = c' ∧ F = F' := by
 have no : ∀ {m k : Nat} {c : Int}, (rch l m n)[k]? = some c → p c = true → (rch l m n).any p = false → False := fun hk hp ha => by
  rw [List.any_eq_false] at ha
  exact ha _ (List.mem_of_getElem? hk) hp
 rcases h with ⟨e1, e2, h⟩ | ⟨e1, m, k, hm, hk, hp, ht, hj⟩
 ·rcases h' with ⟨f1, f2, h'⟩ | ⟨f1, m', k', hm', hk', hp', ht', hj'⟩
  ·exact ⟨by rw [e2, f2], by rw [e1, f1]⟩
  ·exact (no hk' hp' (h m' hm')).elim
 ·rcases h' with ⟨f1, f2, h'⟩ | ⟨f1, m', k', hm', hk', hp', ht', hj'⟩
  ·exact (no hk hp (h' m hm)).elim
  ·have em : m = m' := by
    rcases Nat.lt_trichotomy m m' with hl | hl | hl
    ·exact (no hk hp (hj' m hl)).elim
    ·exact hl
    ·exact (no hk' hp' (hj m' hl)).elim
   subst em
   have ek : k = k' := by
    rcases Nat.lt_trichotomy k k' with hl | hl | hl
    ·rw [List.any_eq_false] at ht'
     exact (ht' c (List.mem_of_getElem? (i := k) (by rw [List.getElem?_take, if_pos hl]; exact hk)) hp).elim
    ·exact hl
    ·rw [List.any_eq_false] at ht
     exact (ht c' (List.mem_of_getElem? (i := k') (by rw [List.getElem?_take, if_pos hl]; exact hk')) hp').elim
   subst ek
   rw [hk] at hk'
   injection hk' with e
   exact ⟨e, by rw [e1, f1]⟩
theorem fstu_nat {p : UnV → Bool} {us : List UnV} {i : Nat} (h : FstU p us (i : Nat)) : ∃ x, us[i]? = some x ∧ p x = true ∧ (us.take i).any p = false := by
 rcases h with ⟨e, -⟩ | ⟨k, x, e, h1, h2, h3⟩
 ·omega
 ·obtain rfl : i = k := by omega
  exact ⟨x, h1, h2, h3⟩
theorem fstu_uniq {p : UnV → Bool} {us : List UnV} {i j : Nat} (h : FstU p us (i : Nat)) (k : FstU p us (j : Nat)) : i = j := by
 obtain ⟨x, x1, x2, x3⟩ := fstu_nat h
 obtain ⟨y, y1, y2, y3⟩ := fstu_nat k
 rcases Nat.lt_trichotomy i j with hl | hl | hl
 ·rw [List.any_eq_false] at y3
  exact (y3 x (List.mem_of_getElem? (i := i) (by rw [List.getElem?_take, if_pos hl]; exact x1)) x2).elim
 ·exact hl
 ·rw [List.any_eq_false] at x3
  exact (x3 y (List.mem_of_getElem? (i := j) (by rw [List.getElem?_take, if_pos hl]; exact y1)) y2).elim
theorem spot_uniq {ks : List KV} {X : WV} {unit kind c F c' F' : Int} (h : SpotSays ks X unit kind c F) (h' : SpotSays ks X unit kind c' F') : c = c' ∧ F = F' := by
 have last : ∀ {c F : Int}, (∃ (i kn Wn Hn an : Nat) (u : UnV) (k : KV) (l : List Int), FstU (fun u => u.id == unit) X.us (i : Nat) ∧ X.us[i]? = some u ∧ kind = (kn : Nat) ∧ ks[kn]? = some k ∧ X.wide = (Wn : Nat) ∧ X.high = (Hn : Nat) ∧ Fd.Good Wn Hn X.gs X.os ∧ u.at_ = (an : Nat) ∧ an < Wn * Hn
   ∧ Wy.IsFar (Fd.near Wn Hn) (fun i _ => (X.gs.map fun g => Fd.onto g k.f).getD i 0) an (Wn * Hn) l ∧ NearSays l (Wn * Hn) (freeAt X.us) c F) → X.us.any (fun u => u.id == unit) = true ∧ (0 ≤ kind ∧ kind < (ks.length : Int)) := by
  rintro c F ⟨i, kn, Wn, Hn, an, u, k, l, h1, h2, h3, h4, -⟩
  obtain ⟨x, x1, x2, -⟩ := fstu_nat h1
  refine ⟨List.any_eq_true.2 ⟨x, List.mem_of_getElem? x1, x2⟩, by omega, ?_⟩
  have := (List.getElem?_eq_some_iff.1 h4).1
  omega
 rcases h with ⟨a1, a2, a3⟩ | ⟨a1, a2, a3, a4⟩ | ⟨a1, a2, a3, a4, a5⟩ | ⟨a1, a⟩
 ·rcases h' with ⟨b1, b2, b3⟩ | ⟨b1, -⟩ | ⟨b1, -⟩ | ⟨b1, -⟩
  ·exact ⟨by rw [a3, b3], by rw [a2, b2]⟩
  all_goals exact absurd b1 a1
 ·rcases h' with ⟨b1, b2, b3⟩ | ⟨b1, b2, b3, b4⟩ | ⟨b1, b2, b3, b4, b5⟩ | ⟨b1, b⟩
  ·exact absurd a1 b1
  ·exact ⟨by rw [a4, b4], by rw [a3, b3]⟩
  ·rw [a2] at b2; cases b2
  ·have := (last b).1; rw [a2] at this; cases this
 ·rcases h' with ⟨b1, b2, b3⟩ | ⟨b1, b2, b3, b4⟩ | ⟨b1, b2, b3, b4, b5⟩ | ⟨b1, b⟩
  ·exact absurd a1 b1
  ·rw [a2] at b2; cases b2
  ·exact ⟨by rw [a5, b5], by rw [a4, b4]⟩
  ·exact absurd (last b).2 a3
 ·rcases h' with ⟨b1, b2, b3⟩ | ⟨b1, b2, b3, b4⟩ | ⟨b1, b2, b3, b4, b5⟩ | ⟨b1, b⟩
  ·exact absurd a1 b1
  ·have := (last a).1; rw [b2] at this; cases this
  ·exact absurd (last a).2 b3
  ·obtain ⟨i, kn, Wn, Hn, an, u, k, l, h1, h2, h3, h4, h5, h6, -, h8, -, h10, h11⟩ := a
   obtain ⟨i', kn', Wn', Hn', an', u', k', l', g1, g2, g3, g4, g5, g6, -, g8, -, g10, g11⟩ := b
   obtain rfl := fstu_uniq h1 g1
   rw [h2] at g2
   injection g2 with e
   subst e
   obtain rfl : kn = kn' := by omega
   rw [h4] at g4
   injection g4 with e
   subst e
   obtain rfl : Wn = Wn' := by omega
   obtain rfl : Hn = Hn' := by omega
   obtain rfl : an = an' := by omega
   obtain rfl := Wy.IsFar.uniq h10 g10
   exact near_uniq h11 g11
theorem comes_one {ks : List KV} {Y : WV} {j : JbV} {c c' : Int} (h : Comes ks Y j c) (h' : Comes ks Y j c') : c = c' := (spot_uniq h.1 h'.1).1
theorem comes_not {ks : List KV} {Y : WV} {j : JbV} {c : Int} (h : Comes ks Y j c) (h' : NoCome ks Y j) : False := by
 obtain ⟨c', F, h1, h2⟩ := h'
 obtain ⟨rfl, rfl⟩ := spot_uniq h.1 h1
 rcases h2 with h2 | h2
 ·exact h2 rfl
 ·exact h2 h.2
theorem tr_uniq {ks : List KV} {X : WV} {q : Nat} {Y : WV} {es : List EvV} {qs : List JbV} (t : Tr ks X q Y es qs) : ∀ {Y' : WV} {es' : List EvV} {qs' : List JbV}, Tr ks X q Y' es' qs' → Y = Y' ∧ es = es' ∧ qs = qs' := by
 induction t with
 | zero => intro Y' es' qs' t'; cases t'; exact ⟨rfl, rfl, rfl⟩
 | @wait q Y es qs j t0 ho hl ih =>
  intro Y' es' qs' t'
  cases t' with
  | wait t1 ho1 hl1 =>
   rw [ho] at ho1; injection ho1 with e; subst e
   obtain ⟨rfl, rfl, rfl⟩ := ih t1
   exact ⟨rfl, rfl, rfl⟩
  | come t1 ho1 hl1 _ => rw [ho] at ho1; injection ho1 with e; subst e; exact absurd hl1 hl
  | stay t1 ho1 hl1 _ => rw [ho] at ho1; injection ho1 with e; subst e; exact absurd hl1 hl
 | @come q Y es qs j c t0 ho hl hc ih =>
  intro Y' es' qs' t'
  cases t' with
  | wait t1 ho1 hl1 => rw [ho] at ho1; injection ho1 with e; subst e; exact absurd hl hl1
  | come t1 ho1 hl1 hc1 =>
   rw [ho] at ho1; injection ho1 with e; subst e
   obtain ⟨rfl, rfl, rfl⟩ := ih t1
   obtain rfl := comes_one hc hc1
   exact ⟨rfl, rfl, rfl⟩
  | stay t1 ho1 hl1 hn =>
   rw [ho] at ho1; injection ho1 with e; subst e
   obtain ⟨rfl, rfl, rfl⟩ := ih t1
   exact (comes_not hc hn).elim
 | @stay q Y es qs j t0 ho hl hn ih =>
  intro Y' es' qs' t'
  cases t' with
  | wait t1 ho1 hl1 => rw [ho] at ho1; injection ho1 with e; subst e; exact absurd hl hl1
  | come t1 ho1 hl1 hc1 =>
   rw [ho] at ho1; injection ho1 with e; subst e
   obtain ⟨rfl, rfl, rfl⟩ := ih t1
   exact (comes_not hc1 hn).elim
  | stay t1 ho1 hl1 _ =>
   rw [ho] at ho1; injection ho1 with e; subst e
   obtain ⟨rfl, rfl, rfl⟩ := ih t1
   exact ⟨rfl, rfl, rfl⟩
end Go.Proofs.YteieikgkmfglaaaGreatDoor
namespace Go.Proofs.YteieikgkmfglaaaGreatDoor.Wy
theorem least_get {nb : Nat → List Int} {st : Nat → Nat → Int} {t n i : Nat} {l : List Int} (h : IsFar nb st t n l) (hi : i < n) : Least nb st t i (l.getD i 0) := by
 have e : l[i]? = some (l.getD i 0) := by rw [List.getD_eq_getElem?_getD, List.getElem?_eq_getElem (by rw [h.1]; exact hi)]; rfl
 exact h.2 i _ e
/-! two small fields. -/
/-- Shut, asked of a list. -/
def pchk (nb : Nat → List Int) (st : Nat → Nat → Int) (l : List Int) (n : Nat) : Bool := (List.range n).all fun i => (nb i).all fun x => decide (¬ (0 < st i x.toNat ∧ 0 ≤ l.getD x.toNat 0) ∨ (0 ≤ l.getD i 0 ∧ l.getD i 0 ≤ st i x.toNat + l.getD x.toNat 0))
theorem chk_shut {nb : Nat → List Int} {st : Nat → Nat → Int} {l : List Int} {n : Nat} (h : pchk nb st l n = true) : ∀ i, i < n → Shut nb st l i := by
 intro i hi j x y hx hy hj h0 y0
 unfold pchk at h
 rw [List.all_eq_true] at h
 have h1 := h i (List.mem_range.2 hi)
 rw [List.all_eq_true] at h1
 have h2 := of_decide_eq_true (h1 j hj)
 rw [Int.toNat_natCast, getD_of hx, getD_of hy] at h2
 rcases h2 with h2 | h2
 ·exact absurd ⟨h0, y0⟩ h2
 ·exact h2
def s6 : Nat → Nat → Int := fun _ j => (([0, 1, 0, 0, 3, 0] : List Int).map fun g => Fd.onto g false).getD j 0
def s3 : Nat → Nat → Int := fun i _ => (([0, 3, 0] : List Int).map fun g => Fd.onto g false).getD i 0
theorem three : IsFar (Fd.near 3 1) s3 0 3 [0, 2, 3] := by
 have w0 : Way (Fd.near 3 1) s3 0 0 0 := .here
 have w1 : Way (Fd.near 3 1) s3 0 1 2 := Way.step (nb := Fd.near 3 1) (st := s3) (i := 1) (j := 0) (by decide) (by decide) w0
 have w2 : Way (Fd.near 3 1) s3 0 2 3 := Way.step (nb := Fd.near 3 1) (st := s3) (i := 2) (j := 1) (by decide) (by decide) w1
 refine far_of rfl ?_ rfl ?_ (chk_shut (by decide))
 ·intro i j hi hj
  obtain ⟨t, h1, h2, -⟩ := Fd.near_cell (W := 3) (H := 1) (by decide) hi hj
  omega
 ·intro i x hx
  match i, hx with
  | 0, hx => simp at hx; subst hx; exact .inr w0
  | 1, hx => simp at hx; subst hx; exact .inr w1
  | 2, hx => simp at hx; subst hx; exact .inr w2
  | i + 3, hx => simp at hx
end Go.Proofs.YteieikgkmfglaaaGreatDoor.Wy
namespace Go.Proofs.YteieikgkmfglaaaGreatDoor.Wy
/-- there and back: how far it is to a cell is how far from there. -/
theorem far_back {nb : Nat → List Int} {ss : List Int} {a c n : Nat} {l l' : List Int} (E : Even nb (fun _ j => ss.getD j 0) n) (h : IsFar nb (fun i _ => ss.getD i 0) a n l) (h' : IsFar nb (fun _ j => ss.getD j 0) c n l') (ha : a < n) (hc : c < n) : l'.getD a 0 = l.getD c 0 :=
 (least_get h' ha).uniq ((least_get (st := fun i _ => ss.getD i 0) h hc).turn (s := fun j => ss.getD j 0) E hc ha)
end Go.Proofs.YteieikgkmfglaaaGreatDoor.Wy
