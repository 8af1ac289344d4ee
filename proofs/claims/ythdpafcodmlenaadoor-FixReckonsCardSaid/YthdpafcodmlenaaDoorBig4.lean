/- Whole numbers of any size: what twin and cmp do. -/
import Derived.Test.YthdpafcodmlenaaDoorBig2
namespace Go.Proofs.YthdpafcodmlenaaDoor
open Go.RowKit

theorem inf_u32 : (Tryd.prog.info? 56).map (fun i => (i.zero, i.size, i.bytes)) = some (some (.int .u32 0), 1, 4) := by kernel_rfl
theorem inf_u32' : ∃ i, Tryd.prog.info? 56 = some i ∧ i.zero = some (.int .u32 0) ∧ i.size = 1 ∧ i.bytes = 4 := by
  have h := inf_u32
  cases hi : Tryd.prog.info? 56 with
  | none => rw [hi] at h; cases h
  | some i =>
    rw [hi] at h
    simp only [Option.map_some, Option.some.injEq, Prod.mk.injEq] at h
    exact ⟨i, rfl, h.1, h.2.1, h.2.2⟩

/-- an append whose run is known. -/
theorem wpList_append_run {P : Program} (w : World) {ops : Array Oper} {rest : List Oper} {o : Oper} {a : Act} {Q : Exit → Act → World → Prop} (hgd : o.guard = none) (s x : Operand) (t tx : TypeId)
    (ho : o.op = .call { callee := .builtin .append, args := #[s, x], argTypes := #[t, tx] }) (v xv v' : Value) (w' : World) (hv : a.eval s = v) (hx : a.eval x = xv)
    (hrun : (Builtin.append_ #[t, tx] o.type #[v, xv]).run P w = .ok v' w') (h : wpList P ops Q rest (a.put o.dst v') w') : wpList P ops Q (o :: rest) a w :=
  wpList_plain hgd fun K hK => by
    unfold Oper.wp
    simp [execOp, ho, resolve, invoke, builtin, hv, hx, hrun, Result.andThen]
    exact hK _ _ h

def cellsOf (ds : List Int) : List Value := ds.map fun d => .int .u32 d

theorem append_empty (a : Option Addr) (c : Nat) (w : World) (ha : a = none ∨ ∃ b, a = some ⟨b, 0, none⟩) :
    (Builtin.append_ #[43, 43] 43 #[.slice none 0 0, .slice a 0 c]).run Tryd.prog w = .ok (.slice none 0 0) w := by
  rcases ha with rfl | ⟨b, rfl⟩
  · kernel_rfl
  · kernel_rfl

theorem append_words (b c : Nat) (ds : List Int) (w : World) (hn : ds ≠ []) (hl : ds.length ≤ 1000) (hc : ∀ i d, ds[i]? = some d → w.cell? ⟨b, i, none⟩ = some (.int .u32 d)) :
    (Builtin.append_ #[43, 43] 43 #[.slice none 0 0, .slice (some ⟨b, 0, none⟩) ds.length c]).run Tryd.prog w =
      .ok (.slice (some ⟨w.heap.size, 0, none⟩) ds.length (grownCap w ds.length 0 56)) (w.drew.alloc (.cells ((cellsOf ds).toArray ++ Builtin.zeroCells #[.int .u32 0] (grownCap w ds.length 0 56 - ds.length)) 56)) := by
  obtain ⟨i, hi, hz, hs, hb⟩ := inf_u32'
  have h0 : 0 < ds.length := List.length_pos_iff.2 hn
  exact run_append_nil (P := Tryd.prog) w 43 43 56 i (.int .u32 0) Tryd.underlying43 hi hz ⟨b, 0, none⟩ ds.length c (cellsOf ds) (by simp [cellsOf, hs])
    (fun j v hv => by
      simp only [cellsOf, List.getElem?_map] at hv
      cases hd : ds[j]? with
      | none => rw [hd] at hv; cases hv
      | some d =>
        rw [hd] at hv
        cases hv
        rw [Addr.add_lit, Nat.zero_add]
        exact hc j d hd) h0 (by omega) (by rw [hb]; omega)

theorem sl_new (w W : World) (ds : List Int) (g : Nat) (r : Array Value) (hg : ds.length ≤ g) (hg2 : g ≤ 9223372036854775807) (hW : W.heap[w.heap.size]? = some (.cells ((cellsOf ds).toArray ++ r) 56 (0, 0))) :
    Sl W (.slice (some ⟨w.heap.size, 0, none⟩) ds.length g) ds := by
  refine .inr ⟨w.heap.size, g, rfl, hg, hg2, lt_of_block hW, fun i d hd => ?_⟩
  have hi : i < ds.length := (List.getElem?_eq_some_iff.1 hd).1
  simp only [World.cell?, hW]
  simp [cellsOf, Array.getElem?_append, hi]
  exact (List.getElem?_eq_some_iff.1 hd).2


set_option maxRecDepth 100000 in
theorem twin_any (v : Value) (ds : List Int) (w : World) (hs : Sl w v ds) (hl : ds.length ≤ 1000) :
    Calls Tryd.prog 32 #[v] w fun e w' => ∃ v', e = .returned v' ∧ Sl w' v' ds ∧ Below w.heap.size w w' := by
  by_cases hd : ds = []
  · subst hd
    have key : ∃ a c, v = .slice a 0 c ∧ (a = none ∨ ∃ b, a = some ⟨b, 0, none⟩) := by
      rcases hs with ⟨-, rfl⟩ | ⟨b, cap, rfl, -⟩
      · exact ⟨_, _, rfl, .inl rfl⟩
      · exact ⟨_, _, rfl, .inr ⟨b, rfl⟩⟩
    obtain ⟨a, c, rfl, ha⟩ := key
    have hap := append_empty a c w ha
    clear ha hs
    go_enter Tryd.func32, Tryd.ntmps32
    have Hap : Hid _ := hap
    clear hap
    go_wp2_with (at_builtin; refine wpList_append_run _ rfl _ _ 43 43 rfl _ _ _ _ rfl rfl Hap.out ?_)
    go_ret
    exact ⟨_, rfl, .inl ⟨rfl, rfl⟩, Below.refl _ _⟩
  · rcases hs with ⟨h, -⟩ | ⟨b, cap, rfl, h1, h2, h3, h4⟩
    · exact absurd h hd
    · have hap := append_words b cap ds w hd hl h4
      have hg := grownCap_ge w ds.length 0 56
      have hg2 := grownCap_le_maxLen w ds.length 0 56 (by unfold maxLen; omega)
      unfold maxLen at hg2
      clear h1 h2 h3 h4
      generalize grownCap w ds.length 0 56 = g at *
      have Hg : Hid (ds.length ≤ g) := hg
      have Hg2 : Hid (g ≤ 9223372036854775807) := by unfold Hid; omega
      clear hg hg2
      go_enter Tryd.func32, Tryd.ntmps32
      have Hap : Hid _ := hap
      clear hap
      go_wp2_with (at_builtin; refine wpList_append_run _ rfl _ _ 43 43 rfl _ _ _ _ rfl rfl Hap.out ?_)
      go_ret
      refine ⟨_, rfl, sl_new w _ ds g (Builtin.zeroCells #[.int .u32 0] (g - ds.length)) Hg Hg2 ?_, ?_⟩
      · show (w.heap.push _)[w.heap.size]? = _
        rw [Array.getElem?_push, if_pos rfl]
      · exact ((Below.refl _ _).alloc (Nat.le_refl _) _).drew

theorem Sl.form {w : World} {v : Value} {ds : List Int} (h : Sl w v ds) : ∃ (a : Option Addr) (c : Nat), v = .slice a ds.length c ∧ (ds ≠ [] → ∃ b, a = some ⟨b, 0, none⟩ ∧ ∀ i d, ds[i]? = some d → w.cell? ⟨b, i, none⟩ = some (.int .u32 d)) := by
  rcases h with ⟨rfl, rfl⟩ | ⟨b, cap, rfl, h1, h2, h3, h4⟩
  · exact ⟨_, _, rfl, fun h => absurd rfl h⟩
  · exact ⟨_, _, rfl, fun _ => ⟨b, rfl, h4⟩⟩

/-- how two compare. -/
def ord (x y : Int) : Int := if x < y then -1 else if y < x then 1 else 0

theorem getLt {ds : List Int} {j : Nat} (h : j < ds.length) : ∃ d, ds[j]? = some d ∧ ds = ds.take j ++ d :: ds.drop (j + 1) :=
  ⟨ds[j], List.getElem?_eq_getElem h, by rw [← List.drop_eq_getElem_cons h, List.take_append_drop]⟩

theorem drop_same (ds es : List Int) (j : Nat) (d e : Int) (hl : ds.length = es.length) (hj : j < ds.length) (hd : ds[j]? = some d) (he : es[j]? = some e) (hz : ds.drop (j + 1) = es.drop (j + 1)) (h : d = e) : ds.drop j = es.drop j := by
  have hj2 : j < es.length := by omega
  rw [List.getElem?_eq_getElem hj] at hd
  rw [List.getElem?_eq_getElem hj2] at he
  rw [List.drop_eq_getElem_cons hj, List.drop_eq_getElem_cons hj2, hz, Option.some.inj hd, Option.some.inj he, h]

set_option maxHeartbeats 400000 in
theorem cmp_same (a b : Option Addr) (ca cb : Nat) (ds es : List Int) (w : World) (hl : ds.length = es.length) (hlen : ds.length ≤ 1000) (hd : Bg.Nrm ds) (he : Bg.Nrm es)
    (ha : ds ≠ [] → ∃ x, a = some ⟨x, 0, none⟩ ∧ ∀ i d, ds[i]? = some d → w.cell? ⟨x, i, none⟩ = some (.int .u32 d))
    (hb : es ≠ [] → ∃ x, b = some ⟨x, 0, none⟩ ∧ ∀ i d, es[i]? = some d → w.cell? ⟨x, i, none⟩ = some (.int .u32 d)) :
    Calls Tryd.prog 37 #[.slice a ds.length ca, .slice b ds.length cb] w fun e w' => e = .returned (.int .i64 (ord (Bg.val ds) (Bg.val es))) ∧ Below w.heap.size w w' := by
  have Ha : Hid (ds ≠ [] → ∃ x, a = some ⟨x, 0, none⟩ ∧ ∀ i d, ds[i]? = some d → w.cell? ⟨x, i, none⟩ = some (.int .u32 d)) := ha
  have Hb : Hid (es ≠ [] → ∃ x, b = some ⟨x, 0, none⟩ ∧ ∀ i d, es[i]? = some d → w.cell? ⟨x, i, none⟩ = some (.int .u32 d)) := hb
  have Hl : Hid (ds.length = es.length) := hl
  clear ha hb hl
  go_enter Tryd.func37, Tryd.ntmps37
  go_wp2
  go_loopw [5] (fun n W => ∃ (k : Nat) (x : Int) (nq : Nat), k ≤ ds.length ∧ n = .int .i64 x ∧ x = (k : Int) - 1 ∧ ds.drop k = es.drop k ∧ W = w.drewN nq) (fun n _ => (intOf n + 1).toNat)
  case atStart => exact ⟨ds.length, _, 0, Nat.le_refl _, rfl, rfl, by rw [List.drop_of_length_le (Nat.le_refl _), List.drop_of_length_le (by rw [Hl.out]; exact Nat.le_refl _)], rfl⟩
  case round =>
    obtain ⟨k, x, nq, hk, rfl, hx, hz, rfl⟩ := hrel
    have Hz : Hid (ds.drop k = es.drop k) := hz
    clear hz
    by_cases h0 : k = 0
    · subst h0
      obtain rfl : x = -1 := by omega
      clear hx
      go_wp2
      go_ret
      refine ⟨?_, below_drewN (Below.refl _ _) _⟩
      have e0 : ds = es := by simpa using Hz.out
      rw [e0]
      simp [ord]
    · obtain ⟨j, rfl⟩ : ∃ j, k = j + 1 := ⟨k - 1, by omega⟩
      obtain rfl : x = (j : Int) := by omega
      clear hx
      obtain ⟨d, hd1, hd2⟩ := getLt (ds := ds) (j := j) (by omega)
      obtain ⟨e, he1, he2⟩ := getLt (ds := es) (j := j) (by rw [← Hl.out]; omega)
      obtain ⟨xa, rfl, hca⟩ := Ha.out (by intro h; rw [h] at hk; simp at hk)
      obtain ⟨xb, rfl, hcb⟩ := Hb.out (by intro h; have := Hl.out; rw [h] at this; simp at this; rw [this] at hk; simp at hk)
      have c1 := hca j d hd1
      have c2 := hcb j e he1
      have hdw := hd.1 d (List.mem_of_getElem? hd1)
      have hew := he.1 e (List.mem_of_getElem? he1)
      have hjl : (j : Int) < (ds.length : Int) := by omega
      have wd : Bg.Wds (ds.take j) := fun y hy => hd.1 y (List.mem_of_mem_take hy)
      have we : Bg.Wds (es.take j) := fun y hy => he.1 y (List.mem_of_mem_take hy)
      have hlt : (ds.take j).length = (es.take j).length := by rw [List.length_take, List.length_take, Hl.out]
      have K1 : Hid (d < e → Bg.val ds < Bg.val es) := fun h => by
        rw [hd2, he2, Hz.out]
        exact Bg.val_lt_of _ _ _ d e wd we hlt h
      have K2 : Hid (e < d → Bg.val es < Bg.val ds) := fun h => by
        rw [hd2, he2, Hz.out]
        exact Bg.val_lt_of _ _ _ e d we wd hlt.symm h
      have K3 : Hid (d = e → ds.drop j = es.drop j) := fun h => drop_same ds es j d e Hl.out (by omega) hd1 he1 Hz.out h
      clear hca hcb hd1 hd2 he1 he2 wd we hlt
      obtain ⟨hdw1, hdw2⟩ := hdw
      obtain ⟨hew1, hew2⟩ := hew
      by_cases hde : d = e
      · have K4 : Hid (ds.drop j = es.drop j) := K3.out hde
        clear K1 K2 K3
        subst hde
        go_wp2
        go_quiet (fail)
        go_wp2
        go_roundw
        case rel => exact ⟨j, _, _, by omega, rfl, rfl, K4, rfl⟩
        case measure => simp [intOf]
      · have hne : (d != e) = true := by simp [hde]
        by_cases hlt : d < e
        · go_wp2
          go_quiet (fail)
          go_wp2
          go_quiet (fail)
          go_wp2
          go_ret
          exact ⟨by simp [ord, K1.out hlt], by repeat (first | exact Below.refl _ _ | refine below_drewN ?_ _)⟩
        · have h2 := K2.out (by omega)
          have H2 : Hid (ord (Bg.val ds) (Bg.val es) = 1) := by
            unfold ord Hid
            rw [if_neg (by omega), if_pos h2]
          clear h2
          go_wp2
          go_quiet (fail)
          go_wp2
          go_quiet (fail)
          go_wp2
          go_ret
          exact ⟨by rw [H2.out]; rfl, by repeat (first | exact Below.refl _ _ | refine below_drewN ?_ _)⟩

set_option maxHeartbeats 400000 in
theorem cmp_diff (a b : Option Addr) (n m ca cb : Nat) (w : World) (_ : n ≤ 1000) (_ : m ≤ 1000) (h : n ≠ m) :
    Calls Tryd.prog 37 #[.slice a n ca, .slice b m cb] w fun e w' => e = .returned (.int .i64 (if n < m then -1 else 1)) ∧ w' = w := by
  by_cases hlt : n < m
  · rw [if_pos hlt]
    go_enter Tryd.func37, Tryd.ntmps37
    go_wp2
    go_ret
    exact ⟨rfl, rfl⟩
  · rw [if_neg hlt]
    go_enter Tryd.func37, Tryd.ntmps37
    go_wp2
    go_ret
    exact ⟨rfl, rfl⟩

theorem cmp_any (u v : Value) (ds es : List Int) (w : World) (hu : Sl w u ds) (hv : Sl w v es) (hd : Bg.Nrm ds) (he : Bg.Nrm es) (ld : ds.length ≤ 1000) (le : es.length ≤ 1000) :
    Calls Tryd.prog 37 #[u, v] w fun e w' => e = .returned (.int .i64 (ord (Bg.val ds) (Bg.val es))) ∧ Below w.heap.size w w' := by
  obtain ⟨a, ca, rfl, ha⟩ := hu.form
  obtain ⟨b, cb, rfl, hb⟩ := hv.form
  by_cases hl : ds.length = es.length
  · rw [← hl]
    exact cmp_same a b ca cb ds es w hl ld hd he ha hb
  · refine (cmp_diff a b _ _ ca cb w ld le hl).mono ?_
    rintro e w1 ⟨rfl, rfl⟩
    refine ⟨?_, Below.refl _ _⟩
    by_cases hlt : ds.length < es.length
    · have := Bg.lt_of_len ds es hd he hlt
      simp [ord, hlt, this]
    · have := Bg.lt_of_len es ds he hd (by omega)
      have h2 : ¬ Bg.val ds < Bg.val es := by omega
      simp [ord, hlt, this, h2]
end Go.Proofs.YthdpafcodmlenaaDoor
