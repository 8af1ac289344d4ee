/- Whole numbers of any size: what twin does. -/
import Derived.Test.YtdmpeagnbpdidaaDoorBig2
namespace Go.Proofs.YtdmpeagnbpdidaaDoor
open Go.RowKit

theorem inf_u32 : (Tryd.prog.info? 132).map (fun i => (i.zero, i.size, i.bytes)) = some (some (.int .u32 0), 1, 4) := by kernel_rfl
theorem inf_u32' : ∃ i, Tryd.prog.info? 132 = some i ∧ i.zero = some (.int .u32 0) ∧ i.size = 1 ∧ i.bytes = 4 := by
  have h := inf_u32
  cases hi : Tryd.prog.info? 132 with
  | none => rw [hi] at h; cases h
  | some i =>
    rw [hi] at h
    simp only [Option.map_some, Option.some.injEq, Prod.mk.injEq] at h
    exact ⟨i, rfl, h.1, h.2.1, h.2.2⟩

/-- an append whose run is known. -/
theorem wpList_append_run {P : Program} (w : World) {ops : Array Oper} {rest : List Oper} {o : Oper} {a : Act} {Q : Exit → Act → World → Prop} (hgd : o.guard = none) (s x : Operand) (t tx : TypeId)
    (ho : o.op = .call { callee := .builtin .append, args := #[s, x], argTypes := #[t, tx] }) (v xv v' : Value) (w' : World) (hv : a.eval s = v) (hx : a.eval x = xv)
    (hrun : (Builtin.append_ #[t, tx] o.type #[v, xv]).run P w = .ok v' w') (h : wpList P ops Q rest (a.put o.dst v') w') : wpList P ops Q (o :: rest) a w :=
  wpList_plain hgd fun K hK => by
    unfold Oper.wp
    simp [execOp, ho, resolve, invoke, builtin, hv, hx, hrun, Result.andThen]
    exact hK _ _ h

def cellsOf (ds : List Int) : List Value := ds.map fun d => .int .u32 d

theorem append_empty (a : Option Addr) (c : Nat) (w : World) (ha : a = none ∨ ∃ b, a = some ⟨b, 0, none⟩) :
    (Builtin.append_ #[128, 128] 128 #[.slice none 0 0, .slice a 0 c]).run Tryd.prog w = .ok (.slice none 0 0) w := by
  rcases ha with rfl | ⟨b, rfl⟩
  · kernel_rfl
  · kernel_rfl

theorem append_words (b c : Nat) (ds : List Int) (w : World) (hn : ds ≠ []) (hl : ds.length ≤ 1000) (hc : ∀ i d, ds[i]? = some d → w.cell? ⟨b, i, none⟩ = some (.int .u32 d)) :
    (Builtin.append_ #[128, 128] 128 #[.slice none 0 0, .slice (some ⟨b, 0, none⟩) ds.length c]).run Tryd.prog w =
      .ok (.slice (some ⟨w.heap.size, 0, none⟩) ds.length (grownCap w ds.length 0 132)) (w.drew.alloc (.cells ((cellsOf ds).toArray ++ Builtin.zeroCells #[.int .u32 0] (grownCap w ds.length 0 132 - ds.length)) 132)) := by
  obtain ⟨i, hi, hz, hs, hb⟩ := inf_u32'
  have h0 : 0 < ds.length := List.length_pos_iff.2 hn
  exact run_append_nil (P := Tryd.prog) w 128 128 132 i (.int .u32 0) Tryd.underlying128 hi hz ⟨b, 0, none⟩ ds.length c (cellsOf ds) (by simp [cellsOf, hs])
    (fun j v hv => by
      simp only [cellsOf, List.getElem?_map] at hv
      cases hd : ds[j]? with
      | none => rw [hd] at hv; cases hv
      | some d =>
        rw [hd] at hv
        cases hv
        rw [Addr.add_lit, Nat.zero_add]
        exact hc j d hd) h0 (by omega) (by rw [hb]; omega)

theorem sl_new (w W : World) (ds : List Int) (g : Nat) (r : Array Value) (hg : ds.length ≤ g) (hg2 : g ≤ 9223372036854775807) (hW : W.heap[w.heap.size]? = some (.cells ((cellsOf ds).toArray ++ r) 132 (0, 0))) :
    Sl W (.slice (some ⟨w.heap.size, 0, none⟩) ds.length g) ds := by
  refine .inr ⟨w.heap.size, g, rfl, hg, hg2, lt_of_block hW, fun i d hd => ?_⟩
  have hi : i < ds.length := (List.getElem?_eq_some_iff.1 hd).1
  simp only [World.cell?, hW]
  simp [cellsOf, Array.getElem?_append, hi]
  exact (List.getElem?_eq_some_iff.1 hd).2


set_option maxRecDepth 100000 in
theorem twin_any (v : Value) (ds : List Int) (w : World) (hs : Sl w v ds) (hl : ds.length ≤ 1000) :
    Calls Tryd.prog 68 #[v] w fun e w' => ∃ v', e = .returned v' ∧ Sl w' v' ds ∧ Below w.heap.size w w' := by
  by_cases hd : ds = []
  · subst hd
    have key : ∃ a c, v = .slice a 0 c ∧ (a = none ∨ ∃ b, a = some ⟨b, 0, none⟩) := by
      rcases hs with ⟨-, rfl⟩ | ⟨b, cap, rfl, -⟩
      · exact ⟨_, _, rfl, .inl rfl⟩
      · exact ⟨_, _, rfl, .inr ⟨b, rfl⟩⟩
    obtain ⟨a, c, rfl, ha⟩ := key
    have hap := append_empty a c w ha
    clear ha hs
    go_enter Tryd.func68, Tryd.ntmps68
    have Hap : Hid _ := hap
    clear hap
    go_wp2_with (at_builtin; refine wpList_append_run _ rfl _ _ 128 128 rfl _ _ _ _ rfl rfl Hap.out ?_)
    go_ret
    exact ⟨_, rfl, .inl ⟨rfl, rfl⟩, Below.refl _ _⟩
  · rcases hs with ⟨h, -⟩ | ⟨b, cap, rfl, h1, h2, h3, h4⟩
    · exact absurd h hd
    · have hap := append_words b cap ds w hd hl h4
      have hg := grownCap_ge w ds.length 0 132
      have hg2 := grownCap_le_maxLen w ds.length 0 132 (by unfold maxLen; omega)
      unfold maxLen at hg2
      clear h1 h2 h3 h4
      generalize grownCap w ds.length 0 132 = g at *
      have Hg : Hid (ds.length ≤ g) := hg
      have Hg2 : Hid (g ≤ 9223372036854775807) := by unfold Hid; omega
      clear hg hg2
      go_enter Tryd.func68, Tryd.ntmps68
      have Hap : Hid _ := hap
      clear hap
      go_wp2_with (at_builtin; refine wpList_append_run _ rfl _ _ 128 128 rfl _ _ _ _ rfl rfl Hap.out ?_)
      go_ret
      refine ⟨_, rfl, sl_new w _ ds g (Builtin.zeroCells #[.int .u32 0] (g - ds.length)) Hg Hg2 ?_, ?_⟩
      · show (w.heap.push _)[w.heap.size]? = _
        rw [Array.getElem?_push, if_pos rfl]
      · exact ((Below.refl _ _).alloc (Nat.le_refl _) _).drew
end Go.Proofs.YtdmpeagnbpdidaaDoor
