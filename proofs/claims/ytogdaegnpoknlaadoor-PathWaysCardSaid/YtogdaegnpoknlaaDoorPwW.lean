/- Fields: of all cells at once, those beside, and how far it is onto each. -/
import Derived.Test.YtogdaegnpoknlaaDoorFdN
import Derived.Test.YtogdaegnpoknlaaDoorPwL
namespace Go.Proofs.YtogdaegnpoknlaaDoor
open Go.RowKit
set_option linter.unusedVariables false

theorem info_ints : (Tryd.prog.info? 22).map (fun i => (i.zero, i.size, i.bytes)) = some (some (.slice none 0 0), 1, 24) := by kernel_rfl

/-- one more list. -/
theorem app_list {ops : Array Oper} {rest : List Oper} {o : Oper} {a : Act} {Q : Exit → Act → World → Prop} (w : World) (hgd : o.guard = none) (s x : Operand)
    (ho : o.op = .call { callee := .builtin .append, args := #[s, x], argTypes := #[44, 44] }) (base : Nat) (v : Value) (us : List Value) (hs : a.eval s = v) (hown : w.ownsRow base 22 1 v us.length us)
    (ad : Addr) (u : Value) (hx : a.eval x = .slice (some ad) 1 1) (hd : w.cell? ad = some u) (hu : u.oneCell' = true) (hl : us.length ≤ 1000000) (hbase : base ≤ w.heap.size)
    (h : ∀ g cap w', w'.ownsRow base 22 1 (.slice (some ⟨g, 0, none⟩) (us.length + 1) cap) (us.length + 1) (us ++ [u]) → w.grownBy w' v.ownBlock → (v.ownBlock = some g ∨ g = w.heap.size) → g < w'.heap.size → wpList Tryd.prog ops Q rest (a.put o.dst (.slice (some ⟨g, 0, none⟩) (us.length + 1) cap)) w') :
    wpList Tryd.prog ops Q (o :: rest) a w := by
  obtain ⟨i0, hi, hz0, hz1, hz2⟩ := info_parts info_ints
  refine wpList_append_lies w hgd s x 44 ho base 22 i0 (.slice none 0 0) 1 24 Tryd.underlying44 hi hz0 hz1 hz2 rfl (by decide) v us.length _ hs hown ad 1 1 [u] hx rfl ?_ ?_ (by decide) (by unfold maxLen; omega) (by omega) hbase _ rfl ?_
  · intro j e hj
    match j, hj with
    | 0, hj => simp at hj; subst hj; exact hd
  · intro e he
    simp at he
    subst he
    exact hu
  · intro g cap w' h1 h2 h3 h4
    exact h g cap w' h1 h2 h3 h4

/-- u lies elsewhere than v. -/
def Apart (u v : Value) : Prop := u.ownBlock = none ∨ u.ownBlock ≠ v.ownBlock
theorem Apart.app {u v : Value} {z g n cap : Nat} (h : Apart u v) (hu : ∀ k, u.ownBlock = some k → k < z) (hg : v.ownBlock = some g ∨ g = z) : Apart u (.slice (some ⟨g, 0, none⟩) n cap) := by
  rcases h with h | h
  · exact .inl h
  · cases hb : u.ownBlock with
    | none => exact .inl hb
    | some k =>
      refine .inr ?_
      intro e
      rw [hb] at e
      simp only [Value.ownBlock, Option.some.injEq] at e
      rcases hg with hg | hg
      · exact h (by rw [hg, hb, e])
      · have := hu k hb
        omega
/-- what is new lies elsewhere. -/
theorem Apart.fresh {w' : World} {u v : Value} {xs : List Int} {z : Nat} (hu : Ow w' z u xs) (hv : ∀ k, v.ownBlock = some k → k < z) : Apart u v := by
  cases hb : u.ownBlock with
  | none => exact .inl hb
  | some k =>
    refine .inr fun e => ?_
    have h1 := (hu.block k hb).1
    rw [hb] at e
    have h2 := hv k e.symm
    omega

/-- of the first k cells. -/
structure Wd (w : World) (base : Nat) (v4 v5 : Value) (us : List Value) (nb : Nat → List Int) (ss : List Int) : Prop where
  o4 : w.ownsRow base 22 1 v4 us.length us
  o5 : Ow w base v5 ss
  e45 : Apart v5 v4
  e54 : Apart v4 v5
  each : ∀ i u, us[i]? = some u → Ow w base u (nb i) ∧ Apart u v4 ∧ Apart u v5

theorem Wd.below {w w' : World} {base : Nat} {v4 v5 : Value} {us : List Value} {nb : Nat → List Int} {ss : List Int} (h : Wd w base v4 v5 us nb ss) (hb : Below w.heap.size w w') : Wd w' base v4 v5 us nb ss :=
  ⟨World.ownsRow.kept h.o4 (row := none) ⟨hb.os, hb.tape, hb.output, hb.size, fun k hk _ => hb.block k hk⟩ (by cases v4.ownBlock <;> simp), h.o5.below hb, h.e45, h.e54, fun i u hu => ⟨(h.each i u hu).1.below hb, (h.each i u hu).2⟩⟩
theorem Wd.kp {w w' : World} {base z : Nat} {v4 v5 : Value} {us : List Value} {nb : Nat → List Int} {ss : List Int} (h : Wd w base v4 v5 us nb ss) (hk : Kp z w w') (hz : z < base) : Wd w' base v4 v5 us nb ss := by
  have hg : w.grownBy w' (some z) := ⟨hk.os, hk.tape, hk.output, hk.size, fun k h1 h2 => hk.block k h1 (fun e => h2 (by rw [e]))⟩
  have ne : ∀ {u : Value} {xs : List Int}, Ow w base u xs → u.ownBlock = none ∨ u.ownBlock ≠ some z := fun {u} {xs} ho => by
    cases hb : u.ownBlock with
    | none => exact .inl rfl
    | some k =>
      have := (ho.block k hb).1
      exact .inr (by simp; omega)
  have ne4 : v4.ownBlock = none ∨ v4.ownBlock ≠ some z := by
    cases hb : v4.ownBlock with
    | none => exact .inl rfl
    | some k =>
      have := (World.ownsRow.lt h.o4 k hb).1
      exact .inr (by simp; omega)
  exact ⟨World.ownsRow.kept h.o4 hg ne4, h.o5.kept hg (ne h.o5), h.e45, h.e54, fun i u hu => ⟨(h.each i u hu).1.kept hg (ne (h.each i u hu).1), (h.each i u hu).2⟩⟩
theorem Wd.start (w : World) (base : Nat) (nb : Nat → List Int) : Wd w base (.slice none 0 0) (.slice none 0 0) [] nb [] :=
  ⟨World.ownsRow_nil _ _ _ _, Ow.nil _ _, .inl rfl, .inl rfl, fun i u hu => by simp at hu⟩
theorem Wd.bs {w : World} {base n : Nat} {v4 v5 : Value} {us : List Value} {nb : Nat → List Int} {ss : List Int} (h : Wd w base v4 v5 us nb ss) (hl : us.length = n) (h0 : 0 < n) : Bs w v4 n nb := by
  rcases h.o4.2 with ⟨_, e⟩ | ⟨g, cap, cur, hv, hb, hg, h1, h2, h3, h4⟩
  · omega
  · refine ⟨⟨g, 0, none⟩, cap, by rw [hv, hl], by omega, by unfold maxLen at h2; omega, fun i hi => ?_⟩
    obtain ⟨u, hu⟩ : ∃ u, us[i]? = some u := ⟨us[i]'(by omega), List.getElem?_eq_getElem _⟩
    refine ⟨u, ?_, (h.each i u hu).1.ro⟩
    rw [Addr.add_lit, Nat.zero_add]
    simp only [World.cell?, hg]
    rw [← h4, List.getElem?_take, if_pos (by omega)] at hu
    rw [← Array.getElem?_toList]
    simpa using hu
/-- one list more. -/
theorem Wd.list {w w' : World} {base g cap : Nat} {v4 v5 u : Value} {us : List Value} {nb : Nat → List Int} {ss : List Int} (h : Wd w base v4 v5 us nb ss) (hu : Ow w base u (nb us.length)) (a4 : Apart u v4) (a5 : Apart u v5)
    (ho : w'.ownsRow base 22 1 (.slice (some ⟨g, 0, none⟩) (us.length + 1) cap) (us.length + 1) (us ++ [u])) (hg : w.grownBy w' v4.ownBlock) (hat : v4.ownBlock = some g ∨ g = w.heap.size) :
    Wd w' base (.slice (some ⟨g, 0, none⟩) (us.length + 1) cap) v5 (us ++ [u]) nb ss := by
  have lt : ∀ {u : Value} {xs : List Int}, Ow w base u xs → ∀ k, u.ownBlock = some k → k < w.heap.size := fun h k hk => (h.block k hk).2
  refine ⟨by rw [List.length_append]; exact ho, h.o5.kept hg h.e45, h.e45.app (lt h.o5) hat, ?_, fun i e he => ?_⟩
  · rcases hat with hat | hat
    · rcases h.e54 with h1 | h1
      · rw [hat] at h1; cases h1
      · exact .inr (by rw [hat] at h1; exact h1)
    · refine .inr fun e => ?_
      have := (h.o5.block g (by rw [← e]; rfl)).2
      omega
  · rw [List.getElem?_append] at he
    split at he
    · have k := h.each i e he
      exact ⟨k.1.kept hg k.2.1, k.2.1.app (lt k.1) hat, k.2.2⟩
    · rename_i hi
      have hi0 : i = us.length := by
        have := (List.getElem?_eq_some_iff.1 he).1
        simp at this
        omega
      subst hi0
      simp at he
      subst he
      exact ⟨hu.kept hg a4, a4.app (lt hu) hat, a5⟩
/-- one number more. -/
theorem Wd.num {w w' : World} {base g cap : Nat} {v4 v5 : Value} {us : List Value} {nb : Nat → List Int} {ss : List Int} {d : Int} (h : Wd w base v4 v5 us nb ss)
    (ho : Ow w' base (.slice (some ⟨g, 0, none⟩) (ss.length + 1) cap) (ss ++ [d])) (hg : w.grownBy w' v5.ownBlock) (hat : v5.ownBlock = some g ∨ g = w.heap.size) :
    Wd w' base v4 (.slice (some ⟨g, 0, none⟩) (ss.length + 1) cap) us nb (ss ++ [d]) := by
  have lt : ∀ {u : Value} {xs : List Int}, Ow w base u xs → ∀ k, u.ownBlock = some k → k < w.heap.size := fun h k hk => (h.block k hk).2
  have lt4 : ∀ k, v4.ownBlock = some k → k < w.heap.size := fun k hk => (World.ownsRow.lt h.o4 k hk).2
  refine ⟨World.ownsRow.kept h.o4 hg h.e54, ho, ?_, h.e54.app lt4 hat, fun i e he => ?_⟩
  · rcases hat with hat | hat
    · rcases h.e45 with h1 | h1
      · rw [hat] at h1; cases h1
      · exact .inr (by rw [hat] at h1; exact h1)
    · refine .inr fun e => ?_
      have := lt4 g (by rw [← e]; rfl)
      omega
  · have k := h.each i e he
    exact ⟨k.1.kept hg k.2.2, k.2.1, k.2.2.app (lt k.1) hat⟩

set_option maxHeartbeats 1000000 in
theorem Ways_bad (v : Value) (W H : Int) (gs os : List Int) (F : Int) (fl : Bool) (w : World) (h : Fl w v W H gs os) (hF : Fd.fault W H gs os = F) (h0 : F ≠ 0) :
    Calls Tryd.prog 28 #[v, .bool fl] w fun e w' => e = .returned (.tuple #[.slice none 0 0, .slice none 0 0, .iface 50 (.int .i64 F)]) ∧ Below w.heap.size w w' := by
  have F0 : Hid (Fl w v W H gs os) := h
  have HF : Hid (Fd.fault W H gs os = F) := hF
  have H0 : Hid (F ≠ 0) := h0
  obtain ⟨u1, u2, rfl, ⟨a1, c, rfl, c1, c2, ca⟩, ⟨b1, d, rfl, d1, d2, cb⟩⟩ := h
  clear hF h0 ca cb
  go_enter Tryd.func28, Tryd.ntmps28
  go_wp2_with fail
  refine (check_any _ W H gs os _ (F0.out.below ((Below.refl _ _).alloc (Nat.le_refl _) _))).mono ?_
  rintro e w1 ⟨v1, rfl, hv, hb⟩
  have B1 : Hid (Below w.heap.size w w1) := ((Below.refl _ _).alloc (Nat.le_refl _) _).trans (hb.mono (by simp))
  rw [HF.out] at hv
  clear hb
  rcases hv with ⟨hz, rfl⟩ | ⟨hz, rfl⟩
  · exact absurd hz H0.out
  · clear hz
    go_wp2
    go_ret3
    exact ⟨rfl, B1⟩

set_option maxHeartbeats 2000000 in
theorem Ways_ok (v : Value) (W H : Nat) (gs os : List Int) (fl : Bool) (w : World) (h : Fl w v W H gs os) (G : Fd.Good W H gs os) (hs : Sd w) :
    Calls Tryd.prog 28 #[v, .bool fl] w fun e w' => ∃ u1 u2 us, e = .returned (.tuple #[u1, u2, .nilIface]) ∧ us.length = W * H ∧ Wd w' (w.heap.size + 1) u1 u2 us (Fd.near W H) (gs.map fun g => Fd.onto g fl) ∧ Below w.heap.size w w' := by
  have F0 : Hid (Fl w v W H gs os) := h
  have S0 : Hid (Sd w) := hs
  have G0 : Hid (Fd.Good W H gs os) := G
  obtain ⟨u1, u2, rfl, ⟨a1, c, rfl, c1, c2, ca⟩, ⟨b1, d, rfl, d1, d2, cb⟩⟩ := h
  have gl := G.gl
  have gp := G.pos
  obtain ⟨x, rfl, xl, hx⟩ := ca (by intro e; rw [e] at gl; simp at gl; omega)
  have Hx : Hid ((∀ (i : Nat) d, gs[i]? = some d → w.cell? (x.add i) = some (.int .i64 d)) ∧ x.block < w.heap.size) := ⟨hx, xl⟩
  have gl2 : gs.length ≤ 144 := by omega
  have Gl : Hid (gs.length = W * H) := gl
  clear cb ca hs hx xl G gl gp
  go_enter Tryd.func28, Tryd.ntmps28
  go_wp2_with fail
  refine (check_any _ W H gs os _ (F0.out.below ((Below.refl _ _).alloc (Nat.le_refl _) _))).mono ?_
  rintro e w1 ⟨v1, rfl, hv, hb⟩
  have B1 : Hid (Below w.heap.size w w1) := ((Below.refl _ _).alloc (Nat.le_refl _) _).trans (hb.mono (by simp))
  have X1 : Hid (Bf w1 w.heap.size W H (Value.slice (some x) gs.length c) (Value.slice b1 os.length d)) := (Bf.mk' (w := w) W H (Value.slice (some x) gs.length c) (Value.slice b1 os.length d) rfl).below hb (by simp)
  rw [Fd.fault_good G0.out] at hv
  clear hb
  rcases hv with ⟨hz, rfl⟩ | ⟨hz, rfl⟩
  · clear hz
    obtain ⟨x0, x1, x2, x3⟩ := X1.out
    go_wp2_with fail
    clear x0 x1 x2 x3
    go_loopw [4, 5, 18] (fun v4 v5 i W' => ∃ (k : Nat) (us : List Value), k ≤ gs.length ∧ i = .int .i64 (k : Nat) ∧ us.length = k ∧ Wd W' (w.heap.size + 1) v4 v5 us (Fd.near W H) ((gs.take k).map fun g => Fd.onto g fl) ∧ Bf W' w.heap.size W H (Value.slice (some x) gs.length c) (Value.slice b1 os.length d) ∧ Below w.heap.size w W') (fun _ _ i _ => gs.length - (intOf i).toNat)
    case atStart => exact ⟨0, [], Nat.zero_le _, rfl, rfl, Wd.start _ _ _, X1, B1⟩
    case round =>
      obtain ⟨k, us, hk, rfl, hl, hw, hX, hB⟩ := hrel
      clear X1 B1
      have D : Hid (Wd wr (w.heap.size + 1) u4 u5 us (Fd.near W H) ((gs.take k).map fun g => Fd.onto g fl)) := hw
      have X : Hid (Bf wr w.heap.size W H (Value.slice (some x) gs.length c) (Value.slice b1 os.length d)) := hX
      have B : Hid (Below w.heap.size w wr) := hB
      have Hl : Hid (us.length = k) := hl
      clear hw hX hB hl
      by_cases h0 : k = gs.length
      · subst h0
        go_wp2
        go_ret3
        refine ⟨_, _, us, rfl, by rw [Hl.out, Gl.out], ?_, B⟩
        have := D.out
        rw [List.take_of_length_le (Nat.le_refl _)] at this
        exact this
      · have hkl : k < gs.length := by omega
        obtain ⟨g, hg⟩ : ∃ g, gs[k]? = some g := ⟨_, List.getElem?_eq_getElem hkl⟩
        have cg : wr.cell? (x.add k) = some (.int .i64 g) := by rw [B.out.cell (p := x.add k) (by rw [add_block]; exact Hx.out.2)]; exact Hx.out.1 k g hg
        have Hg : Hid ((gs.take (k + 1)).map (fun g => Fd.onto g fl) = (gs.take k).map (fun g => Fd.onto g fl) ++ [Fd.onto g fl]) := by
          unfold Hid
          rw [List.take_succ_eq_append_getElem hkl, List.map_append]
          rw [List.getElem?_eq_getElem hkl] at hg
          injection hg with hg
          rw [hg]
          rfl
        have Lk : Hid (((gs.take k).map fun g => Fd.onto g fl).length ≤ 144) := by unfold Hid; simp; omega
        have zs : Hid (w.heap.size < wr.heap.size) := X.out.lt
        obtain ⟨x0, x1, x2, x3⟩ := X.out
        clear hg
        go_wp2_with fail
        refine (near_own _ W H gs os k _ (F0.out.below B.out) G0.out (by rw [← Gl.out]; exact hkl) (S0.out.below B.out)).mono ?_
        rintro e w2 ⟨u, rfl, hu, hb2⟩
        obtain ⟨ua, uc, hue⟩ := hu.len
        have a4 : Apart u u4 := Apart.fresh hu (fun k hk => (World.ownsRow.lt D.out.o4 k hk).2)
        have a5 : Apart u u5 := Apart.fresh hu (fun k hk => (D.out.o5.block k hk).2)
        have A45 : Hid (Apart u u4 ∧ Apart u u5) := ⟨a4, a5⟩
        have ba : Below w2.heap.size w2 (w2.alloc (Obj.cells #[u] 22)) := (Below.refl _ _).alloc (Nat.le_refl _) _
        have U3 : Hid (Ow (w2.alloc (Obj.cells #[u] 22)) (w.heap.size + 1) u (Fd.near W H k)) := (hu.mono zs.out).below ba
        have D3 : Hid (Wd (w2.alloc (Obj.cells #[u] 22)) (w.heap.size + 1) u4 u5 us (Fd.near W H) ((gs.take k).map fun g => Fd.onto g fl)) := (D.out.below hb2).below ba
        have X3 : Hid (Bf (w2.alloc (Obj.cells #[u] 22)) w.heap.size W H (Value.slice (some x) gs.length c) (Value.slice b1 os.length d)) := (X.out.below hb2 X.out.lt).below ba (Nat.lt_of_lt_of_le X.out.lt hb2.size)
        have B3 : Hid (Below w.heap.size w (w2.alloc (Obj.cells #[u] 22))) := (B.out.trans (hb2.mono B.out.size)).trans (ba.mono (Nat.le_trans B.out.size hb2.size))
        have Cd : Hid ((w2.alloc (Obj.cells #[u] 22)).cell? ⟨w2.heap.size, 0, none⟩ = some u) := by unfold Hid; simp
        have S3 : Hid (w.heap.size + 1 ≤ (w2.alloc (Obj.cells #[u] 22)).heap.size) := X3.out.lt
        clear a4 a5 ba hu hb2 D X B zs x0 x1 x2 x3 cg
        subst hue
        go_wp2_with (at_builtin; refine app_list _ rfl _ _ rfl (w.heap.size + 1) _ us rfl D3.out.o4 ⟨w2.heap.size, 0, none⟩ _ rfl Cd.out rfl (by rw [Hl.out]; omega) S3.out ?_)
        intro g4 cap4 w4 o4 gr4 at4 lt4
        have D4 : Hid (Wd w4 (w.heap.size + 1) (.slice (some ⟨g4, 0, none⟩) (us.length + 1) cap4) u5 (us ++ [.slice ua (Fd.near W H k).length uc]) (Fd.near W H) ((gs.take k).map fun g => Fd.onto g fl)) := D3.out.list (by rw [Hl.out]; exact U3.out) A45.out.1 A45.out.2 o4 gr4 (by simpa using at4)
        have b4 : Below (w.heap.size + 1) (w2.alloc (Obj.cells #[.slice ua (Fd.near W H k).length uc] 22)) w4 := (Below.refl _ _).grown gr4 S3.out (fun k hk => (World.ownsRow.lt D3.out.o4 k hk).1)
        have X4 : Hid (Bf w4 w.heap.size W H (Value.slice (some x) gs.length c) (Value.slice b1 os.length d)) := X3.out.below b4 (Nat.lt_succ_self _)
        have B4 : Hid (Below w.heap.size w w4) := B3.out.trans (b4.mono (Nat.le_succ _))
        clear o4 gr4 at4 lt4 b4 D3 X3 B3 S3 Cd U3 A45
        go_wp2_with fail
        refine (step_any g fl _).mono ?_
        rintro e w5 ⟨rfl, rfl⟩
        obtain ⟨s, hs⟩ : ∃ s, Fd.onto g fl = s := ⟨_, rfl⟩
        rw [hs] at Hg ⊢
        have ba : Below w5.heap.size w5 (w5.alloc (Obj.cells #[.int .i64 s] 3)) := (Below.refl _ _).alloc (Nat.le_refl _) _
        have D5 : Hid (Wd (w5.alloc (Obj.cells #[.int .i64 s] 3)) (w.heap.size + 1) (.slice (some ⟨g4, 0, none⟩) (us.length + 1) cap4) u5 (us ++ [.slice ua (Fd.near W H k).length uc]) (Fd.near W H) ((gs.take k).map fun g => Fd.onto g fl)) := D4.out.below ba
        have X5 : Hid (Bf (w5.alloc (Obj.cells #[.int .i64 s] 3)) w.heap.size W H (Value.slice (some x) gs.length c) (Value.slice b1 os.length d)) := X4.out.below ba X4.out.lt
        have B5 : Hid (Below w.heap.size w (w5.alloc (Obj.cells #[.int .i64 s] 3))) := B4.out.trans (ba.mono B4.out.size)
        have Cd : Hid ((w5.alloc (Obj.cells #[.int .i64 s] 3)).cell? ⟨w5.heap.size, 0, none⟩ = some (.int .i64 s)) := by unfold Hid; simp
        have S5 : Hid (w.heap.size + 1 ≤ (w5.alloc (Obj.cells #[.int .i64 s] 3)).heap.size) := X5.out.lt
        clear ba D4 X4 B4 hs
        generalize (gs.take k).map (fun g => Fd.onto g fl) = ss at *
        go_wp2_with (at_builtin; refine app_int _ rfl _ _ rfl (w.heap.size + 1) _ ss rfl D5.out.o5 ⟨w5.heap.size, 0, none⟩ s rfl Cd.out (Nat.le_trans Lk.out (by omega)) S5.out ?_)
        intro g6 cap6 w6 o6 gr6 at6 lt6
        have D6 : Hid (Wd w6 (w.heap.size + 1) (.slice (some ⟨g4, 0, none⟩) (us.length + 1) cap4) (.slice (some ⟨g6, 0, none⟩) (ss.length + 1) cap6) (us ++ [.slice ua (Fd.near W H k).length uc]) (Fd.near W H) (ss ++ [s])) := D5.out.num o6 gr6 (by simpa using at6)
        have b6 : Below (w.heap.size + 1) (w5.alloc (Obj.cells #[.int .i64 s] 3)) w6 := (Below.refl _ _).grown gr6 S5.out (fun k hk => (D5.out.o5.block k hk).1)
        have X6 : Hid (Bf w6 w.heap.size W H (Value.slice (some x) gs.length c) (Value.slice b1 os.length d)) := X5.out.below b6 (Nat.lt_succ_self _)
        have B6 : Hid (Below w.heap.size w w6) := B5.out.trans (b6.mono (Nat.le_succ _))
        clear o6 gr6 at6 lt6 b6 D5 X5 B5 S5 Cd
        go_wp2
        go_round
        case rel => exact ⟨k + 1, us ++ [.slice ua (Fd.near W H k).length uc], by omega, by go_num, by simp [Hl.out], by rw [Hg.out]; exact D6, X6, B6⟩
        case measure => simp [intOf]; omega
  · exact absurd rfl hz
end Go.Proofs.YtogdaegnpoknlaaDoor
