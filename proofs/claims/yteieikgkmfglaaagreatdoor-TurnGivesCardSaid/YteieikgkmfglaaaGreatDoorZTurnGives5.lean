/- orders.unit as a map's key; a map of such keys that a call makes. · orders.Last as mathematics: each unit's last order, and those to train. · The reference's Give as mathematics: an order by its unit's id. · What stays where some blocks turn; two blocks of two types. · What stays where one block turns, or a list of one's own grows. · What stays where some blocks turn: a world in a block. · Slices of api.Unit: a whole list behind another one. · Units in a block that may be written. · A block of integers that may be written. · A list of integers of its own, as a block. · turn.give: what stays between two orders. · Slices of api.Job: a whole list behind another one. · world.fresh, world.Copy. · The reference's Copy. · Worlds: the reference's Find. · What the reference says of a step (cut out of RfN). -/
import Derived.Test.YteieikgkmfglaaaGreatDoorZTurnGives1
import Derived.Maps.Own
import Derived.Maps.OwnOps
import Derived.Maps.Views
import Derived.Carry
import Derived.DeepKeys4
import Derived.Test.YteieikgkmfglaaaGreatDoorZTurnGives4
import Derived.OwnWalk
import Derived.Deep.DeepCutAuto
import Derived.Test.YteieikgkmfglaaaGreatDoorZTurnGives2
namespace Go.Proofs.YteieikgkmfglaaaGreatDoor
open Go.RowKit
set_option linter.unusedVariables false
set_option maxRecDepth 100000

theorem um_laid : laidOutB Tryz.prog = true := by kernel_rfl
theorem um_row : (155 : TypeId) < Tryz.prog.types.size := of_decide_eq_true (by kernel_rfl)
theorem um_wide : (match Tryz.prog.underlying 155 with | some (.array _ _) | some (.struct _) => true | _ => false) = true := by kernel_rfl
theorem um_deep : Tryz.prog.keyTypeAt 3 155 = true := by kernel_rfl
theorem um_law : Maps.Keyed Tryz.prog 155 := Maps.Keyed.of_law (deep_law_laid um_laid (m := 3) (by omega) um_row um_deep um_wide)
theorem um_cells : Tryz.prog.cellsOf 155 = 2 := by kernel_rfl
theorem um_int : Tryz.prog.cellsOf 3 = 1 := by kernel_rfl
theorem um_type : Tryz.prog.keyType 155 = true := by kernel_rfl
theorem um_size : ∃ m, Tryz.prog.types.size = m + 1 := ⟨Tryz.prog.types.size - 1, by have h : 0 < Tryz.prog.types.size := Nat.lt_of_le_of_lt (Nat.zero_le _) um_row; omega⟩
theorem um_key {p u : Int} (hp : (Lit.int .i64 p).wf = true) (hu : (Lit.int .i64 u).wf = true) : ∃ kl, keyOf Tryz.prog 155 (.agg #[.int .i64 p, .int .i64 u]) = some kl := by
  obtain ⟨m, hm⟩ := um_size
  have ht := um_type
  have hc := um_cells
  have hi := um_int
  unfold keyOf
  simp only [Tryz.underlying155]
  rw [if_pos (by simp [ht, Value.formed, Tryz.underlying155, hc]), hm]
  unfold Program.keyLits
  simp only [Tryz.underlying155, Value.cells]
  rw [if_pos ⟨by rw [hc]; rfl, by kernel_rfl⟩]
  simp [Program.keyLits, Tryz.underlying3, hp, hu, hi]
theorem um_zero (w : World) : (zeroValue 3).run Tryz.prog w = .ok (.int .i64 0) w := by kernel_rfl
theorem wf64 {n : Int} (h0 : -9223372036854775808 ≤ n) (h1 : n ≤ 9223372036854775807) : (Lit.int .i64 n).wf = true := WalkArith.wf_i64 (by omega)
/-- block b is a map: f tells what stands at each player and unit. -/
def Um (w : World) (b n : Nat) (f : Int → Int → Int) : Prop := ∃ D : DataW Unit, w.ownsMap Tryz.prog 155 (plainElem Tryz.prog 3) b n D ∧ Maps.IsMap D ∧ ∀ p u kl, keyOf Tryz.prog 155 (.agg #[.int .i64 p, .int .i64 u]) = some kl → D.atKey kl (.lit (.int .i64 0)) = .lit (.int .i64 (f p u))
def updAt (f : Int → Int → Int) (p u v : Int) : Int → Int → Int := fun p' u' => if p' = p ∧ u' = u then v else f p' u'
theorem um_made (w : World) : Um (w.alloc (.map #[] 0)) w.heap.size 0 (fun _ _ => 0) :=
  ⟨.map [], World.ownsMap_made _ _ _ _, Maps.isMap_empty, fun p u kl _ => Maps.atKey_of_not_has rfl _⟩
theorem Um.lt {w : World} {b n : Nat} {f : Int → Int → Int} (h : Um w b n f) : b < w.heap.size := by
  obtain ⟨D, h1, -⟩ := h
  exact h1.lt
theorem Um.gb {w w' : World} {b n : Nat} {f : Int → Int → Int} {r : Option Nat} (h : Um w b n f) (g : w.grownBy w' r) (hr : some b ≠ r) : Um w' b n f := by
  obtain ⟨D, h1, h2⟩ := h
  exact ⟨D, h1.kept g hr, h2⟩
theorem Um.below {w w' : World} {b n : Nat} {f : Int → Int → Int} (h : Um w b n f) (g : Below w.heap.size w w') : Um w' b n f :=
  h.gb (r := none) ⟨g.os, g.tape, g.output, g.size, fun k hk _ => g.block k hk⟩ (by simp)
theorem Um.put {w : World} {b n : Nat} {f : Int → Int → Int} (h : Um w b n f) (hn : n < maxLen) {p u v : Int} (hp : (Lit.int .i64 p).wf = true) (hu : (Lit.int .i64 u).wf = true) (hv : (Lit.int .i64 v).wf = true) :
    ∃ w', (Instr.mapUpdate 152 (.map (some b)) (.agg #[.int .i64 p, .int .i64 u]) (.int .i64 v)).run Tryz.prog w = .ok () w' ∧ Um w' b (n + 1) (updAt f p u v) ∧ w.grownBy w' (some b) := by
  obtain ⟨D, h1, hD, h2⟩ := h
  obtain ⟨kl, hk⟩ := um_key hp hu
  obtain ⟨w', r, o, g⟩ := World.ownsMap.update h1 um_law Tryz.underlying152 hn hk (plainElem_int Tryz.underlying3 hv)
  refine ⟨w', r, ⟨_, o, hD.put _ _, fun p' u' kl' hk' => ?_⟩, g⟩
  unfold updAt
  by_cases e : kl' = kl
  · subst e
    have ei := um_law.inj hk hk'
    simp only [Value.agg.injEq, Array.mk.injEq, List.cons.injEq, Value.int.injEq, true_and, and_true] at ei
    rw [if_pos ⟨ei.1.symm, ei.2.symm⟩]
    exact Maps.atKey_put_same hD (um_law.key hk) _ _
  · rw [Maps.atKey_put_other e, if_neg, h2 p' u' kl' hk']
    rintro ⟨rfl, rfl⟩
    exact e (Option.some.inj (hk'.symm.trans hk))
theorem Um.look {w : World} {b n : Nat} {f : Int → Int → Int} (h : Um w b n f) {p u : Int} (hp : (Lit.int .i64 p).wf = true) (hu : (Lit.int .i64 u).wf = true) :
    (Instr.lookup 152 (.map (some b)) (.agg #[.int .i64 p, .int .i64 u]) false).run Tryz.prog w = .ok (.int .i64 (f p u)) w := by
  obtain ⟨D, h1, hD, h2⟩ := h
  obtain ⟨kl, hk⟩ := um_key hp hu
  obtain ⟨c, hr, hat, -⟩ := h1.lookup_int um_law Tryz.underlying152 Tryz.underlying3 (um_zero w) hk
  rw [h2 p u kl hk] at hat
  injection hat with e
  injection e with _ e
  rw [e]
  exact hr
end Go.Proofs.YteieikgkmfglaaaGreatDoor

namespace Go.Proofs.YteieikgkmfglaaaGreatDoor
namespace So
set_option linter.unusedVariables false
/-- where each unit's last order stands, among the first q. -/
def lf (l : List OrV) : Nat → Int → Int → Int
  | 0 => fun _ _ => 0
  | q + 1 => match l[q]? with
    | some o => if o.what = 3 then lf l q else updAt (lf l q) o.player o.unit (q : Nat)
    | none => lf l q
/-- those that count, of the first q, with their places. -/
def kp (l : List OrV) : Nat → List T
  | 0 => []
  | q + 1 => match l[q]? with
    | some o => if o.what = 3 ∨ lf l l.length o.player o.unit = (q : Nat) then kp l q ++ [(o, q)] else kp l q
    | none => kp l q
theorem lf_train {l : List OrV} {q : Nat} {o : OrV} (h : l[q]? = some o) (h3 : o.what = 3) : lf l (q + 1) = lf l q := by rw [lf]; simp only [h]; rw [if_pos h3]
theorem lf_other {l : List OrV} {q : Nat} {o : OrV} (h : l[q]? = some o) (h3 : ¬ o.what = 3) : lf l (q + 1) = updAt (lf l q) o.player o.unit (q : Nat) := by rw [lf]; simp only [h]; rw [if_neg h3]
theorem kp_yes {l : List OrV} {q : Nat} {o : OrV} (h : l[q]? = some o) (h3 : o.what = 3 ∨ lf l l.length o.player o.unit = (q : Nat)) : kp l (q + 1) = kp l q ++ [(o, q)] := by rw [kp]; simp only [h]; rw [if_pos h3]
theorem kp_no {l : List OrV} {q : Nat} {o : OrV} (h : l[q]? = some o) (h3 : ¬ (o.what = 3 ∨ lf l l.length o.player o.unit = (q : Nat))) : kp l (q + 1) = kp l q := by rw [kp]; simp only [h]; rw [if_neg h3]
theorem kp_mem {l : List OrV} : ∀ {q : Nat} {x : T}, x ∈ kp l q → x.2 < q ∧ l[x.2]? = some x.1 ∧ (x.1.what = 3 ∨ lf l l.length x.1.player x.1.unit = (x.2 : Nat))
  | 0, x, h => by simp [kp] at h
  | q + 1, x, h => by
    rw [kp] at h
    cases ho : l[q]? with
    | none =>
      simp only [ho] at h
      obtain ⟨h1, h2⟩ := kp_mem h
      exact ⟨by omega, h2⟩
    | some o =>
      simp only [ho] at h
      split at h
      · rename_i hc
        rcases List.mem_append.1 h with h | h
        · obtain ⟨h1, h2⟩ := kp_mem h
          exact ⟨by omega, h2⟩
        · simp at h
          subst h
          exact ⟨by simp, ho, hc⟩
      · obtain ⟨h1, h2⟩ := kp_mem h
        exact ⟨by omega, h2⟩
theorem kp_in {l : List OrV} {i : Nat} {o : OrV} (ho : l[i]? = some o) (hc : o.what = 3 ∨ lf l l.length o.player o.unit = (i : Nat)) : ∀ {q : Nat}, i < q → (o, i) ∈ kp l q
  | 0, h => by omega
  | q + 1, h => by
    by_cases e : i = q
    · subst e
      rw [kp_yes ho hc]
      simp
    · have ih := kp_in ho hc (q := q) (by omega)
      rw [kp]
      cases hq : l[q]? with
      | none => exact ih
      | some o' =>
        simp only
        split
        · exact List.mem_append_left _ ih
        · exact ih
theorem kp_tags {l : List OrV} : ∀ (q : Nat), (kp l q).Pairwise (fun x y => x.2 < y.2)
  | 0 => List.Pairwise.nil
  | q + 1 => by
    rw [kp]
    cases hq : l[q]? with
    | none => exact kp_tags q
    | some o =>
      simp only
      split
      · refine List.pairwise_append.2 ⟨kp_tags q, by simp, fun x hx y hy => ?_⟩
        simp at hy
        subst hy
        exact (kp_mem hx).1
      · exact kp_tags q
theorem kp_len {l : List OrV} : ∀ (q : Nat), (kp l q).length ≤ q
  | 0 => Nat.le_refl _
  | q + 1 => by
    rw [kp]
    have := kp_len (l := l) q
    cases hq : l[q]? with
    | none => simp only; omega
    | some o =>
      simp only
      split
      · simp; omega
      · omega
/-- the last order of a unit is told. -/
theorem lf_last {l : List OrV} {i : Nat} {o : OrV} (ho : l[i]? = some o) (h3 : ¬ o.what = 3) : ∀ {q : Nat}, i < q → (∀ k x, i < k → k < q → l[k]? = some x → x.what = 3 ∨ x.player ≠ o.player ∨ x.unit ≠ o.unit) → lf l q o.player o.unit = (i : Nat)
  | 0, h, _ => by omega
  | q + 1, h, hn => by
    by_cases e : i = q
    · subst e
      rw [lf_other ho h3]
      unfold updAt
      rw [if_pos ⟨rfl, rfl⟩]
    · have ih := lf_last ho h3 (q := q) (by omega) (fun k x h1 h2 hx => hn k x h1 (by omega) hx)
      rw [lf]
      cases hq : l[q]? with
      | none => exact ih
      | some x =>
        simp only
        split
        · exact ih
        · rename_i hx3
          unfold updAt
          rw [if_neg]
          · exact ih
          · rintro ⟨h1, h2⟩
            rcases hn q x (by omega) (by omega) hq with h | h | h
            · exact hx3 h
            · exact h h1.symm
            · exact h h2.symm
/-- of orders l, those that count. -/
def LastSays (l out : List OrV) : Prop := ∃ S : List T, S.Perm (kp l l.length) ∧ S.Pairwise lt ∧ out = S.map Prod.fst
theorem LastSays.one {l out out' : List OrV} (h : LastSays l out) (h' : LastSays l out') : out = out' := by
  obtain ⟨S, p, r, rfl⟩ := h
  obtain ⟨S', p', r', rfl⟩ := h'
  rw [rise_unique (p.trans p'.symm) r r']
theorem LastSays.len {l out : List OrV} (h : LastSays l out) : out.length ≤ l.length := by
  obtain ⟨S, p, r, rfl⟩ := h
  have := kp_len (l := l) l.length
  rw [List.length_map, p.length_eq]
  exact this
theorem LastSays.mem {l out : List OrV} (h : LastSays l out) {o : OrV} (ho : o ∈ out) : o ∈ l := by
  obtain ⟨S, p, r, rfl⟩ := h
  obtain ⟨x, hx, rfl⟩ := List.mem_map.1 ho
  exact List.mem_of_getElem? (kp_mem (p.mem_iff.1 hx)).2.1
end So
end Go.Proofs.YteieikgkmfglaaaGreatDoor

namespace Go.Proofs.YteieikgkmfglaaaGreatDoor
open Go.Proofs.YteieikgkmfglaaaGreatDoor.So
set_option linter.unusedVariables false

theorem g1_no {ks : List KV} {Y : WV} {o : OrV} (h : Y.us.any (fun u => u.id == o.unit) = false) : given1 ks Y o = none := by
  unfold given1
  rw [ask_none]
  rw [List.any_eq_false] at h ⊢
  intro x hx
  have := h x hx
  unfold askU
  simp at this ⊢
  intro e
  exact absurd e this
theorem g1_other {ks : List KV} {Y : WV} {o : OrV} (hr : WRight ks Y) {i : Nat} {u : UnV} (hu : Y.us[i]? = some u) (hid : u.id = o.unit) (hp : ¬ u.player = o.player) : given1 ks Y o = none := by
  unfold given1
  rw [ask_none]
  rw [List.any_eq_false]
  intro x hx
  obtain ⟨j, hj⟩ := List.mem_iff_getElem?.1 hx
  unfold askU
  simp only [decide_eq_true_eq]
  rintro ⟨h1, h2⟩
  obtain rfl := id_one hr hj hu (by rw [h1, hid])
  obtain rfl := Option.some.inj (hj.symm.trans hu)
  exact hp h2
theorem g1_is {ks : List KV} {Y : WV} {o : OrV} (hr : WRight ks Y) {i : Nat} {u : UnV} {k : KV} (hu : Y.us[i]? = some u) (hid : u.id = o.unit) (hp : u.player = o.player) (hk : ks[u.kind.toNat]? = some k) : given1 ks Y o = if mayB ks Y k o = true then some (if o.what = 3 then hired ks Y o else sentW Y i u o) else none := by
  unfold given1
  rw [ask_some hu (by unfold askU; exact decide_eq_true ⟨hid, hp⟩)]
  · simp only [hu, hk]
  · rw [List.any_eq_false]
    intro x hx
    obtain ⟨j, hj⟩ := List.mem_iff_getElem?.1 hx
    rw [List.getElem?_take] at hj
    split at hj
    · rename_i hji
      unfold askU
      simp only [decide_eq_true_eq]
      rintro ⟨h1, -⟩
      have := id_one hr hj hu (by rw [h1, hid])
      omega
    · cases hj
theorem faults_mem {l out : List OrV} (h : LastSays l out) (hf : Od.faults l = 0) {o : OrV} (ho : o ∈ out) : ¬ Od.bad o := by
  have hm := h.mem ho
  unfold Od.faults at hf
  split at hf
  · cases hf
  · split at hf
    · cases hf
    · rename_i h2
      rw [Bool.not_eq_true, List.any_eq_false] at h2
      have := h2 o hm
      simpa using this
theorem GFit.hire2 {ks : List KV} {Y : WV} {o : OrV} {pn : Nat} {x p : Int} (h : GFit ks Y) (hp : priceOf ks o.arg = p) (hx : Y.gold.getD o.player.toNat 0 = x) (hpn : o.player = (pn : Nat)) (hg : Y.gold[pn]? = some x) (hle : p ≤ x) (hq : Y.qs.length < 12) : GFit ks (hired ks Y o) :=
  h.hire (by rw [hp, hx]; exact hle) (by rw [hpn, Int.toNat_natCast]; exact (List.getElem?_eq_some_iff.1 hg).1) hq
theorem hired_parts {ks : List KV} {Y : WV} {o : OrV} {pn : Nat} {an x p lf tn : Int} (hp : priceOf ks o.arg = p) (hx : Y.gold.getD o.player.toNat 0 = x) (hpn : o.player = (pn : Nat)) (ha : o.arg = an) (ht : turnsOf ks o.arg = tn) (hl : max tn 1 = lf) :
    (hired ks Y o).gold = Y.gold.set pn (x - p) ∧ (hired ks Y o).qs = Y.qs ++ [⟨(pn : Nat), o.unit, an, lf⟩] := by
  unfold hired
  refine ⟨?_, ?_⟩
  · show Y.gold.set o.player.toNat (Y.gold.getD o.player.toNat 0 - priceOf ks o.arg) = _
    rw [hx, hp, hpn, Int.toNat_natCast]
  · show Y.qs ++ [⟨o.player, o.unit, o.arg, max (turnsOf ks o.arg) 1⟩] = _
    rw [ht, hl, hpn, ha]
end Go.Proofs.YteieikgkmfglaaaGreatDoor

namespace Go.Proofs.YteieikgkmfglaaaGreatDoor
open Go.RowKit
set_option linter.unusedVariables false

/-- nothing below has turned but the blocks of S. -/
structure Fr (S : Nat → Prop) (w w' : World) : Prop where
  os : w'.os = w.os
  tape : w'.tape = w.tape
  output : w'.output = w.output
  size : w.heap.size ≤ w'.heap.size
  block : ∀ k, k < w.heap.size → ¬ S k → w'.heap[k]? = w.heap[k]?
theorem Fr.below {S : Nat → Prop} {w w' : World} (h : Below w.heap.size w w') : Fr S w w' := ⟨h.os, h.tape, h.output, h.size, fun k hk _ => h.block k hk⟩
theorem Fr.kp {S : Nat → Prop} {w w' : World} {z : Nat} (h : Kp z w w') (hz : S z) : Fr S w w' := ⟨h.os, h.tape, h.output, h.size, fun k hk hn => h.block k hk (fun e => hn (e ▸ hz))⟩
theorem Fr.gb {S : Nat → Prop} {w w' : World} {r : Option Nat} (h : w.grownBy w' r) (hr : ∀ k, r = some k → S k) : Fr S w w' := ⟨h.os, h.tape, h.output, h.size, fun k hk hn => h.block k hk (fun e => hn (hr k e.symm))⟩
theorem Fr.trans {S : Nat → Prop} {a b c : World} (h : Fr S a b) (k : Fr S b c) : Fr S a c :=
  ⟨k.os.trans h.os, k.tape.trans h.tape, k.output.trans h.output, Nat.le_trans h.size k.size, fun i hi hn => (k.block i (Nat.lt_of_lt_of_le hi h.size) hn).trans (h.block i hi hn)⟩
theorem Fr.mono {S T : Nat → Prop} {a b : World} (h : Fr S a b) (hs : ∀ k, S k → T k) : Fr T a b := ⟨h.os, h.tape, h.output, h.size, fun k hk hn => h.block k hk (fun e => hn (hs k e))⟩
theorem Fr.low {S : Nat → Prop} {w w' : World} {n : Nat} (h : Fr S w w') (hn : n ≤ w.heap.size) (hs : ∀ k, S k → n ≤ k) : Below n w w' := ⟨h.os, h.tape, h.output, h.size, fun k hk => h.block k (by omega) (fun e => by have := hs k e; omega)⟩
theorem Fr.own {S : Nat → Prop} {w w' : World} {base : Nat} {T : TypeId} {size : Nat} {u : Value} {n : Nat} {cs : List Value} (f : Fr S w w') (h : w.ownsRow base T size u n cs) (hn : ∀ b, u.ownBlock = some b → ¬ S b) : w'.ownsRow base T size u n cs := by
  refine ⟨h.1, ?_⟩
  rcases h.2 with h1 | ⟨g, cap, cur, h1, h2, h3, h4⟩
  · exact .inl h1
  · exact .inr ⟨g, cap, cur, h1, h2, (f.block g (lt_of_block h3) (hn g (by rw [h1]; rfl))).trans h3, h4⟩
theorem Fr.cell {S : Nat → Prop} {w w' : World} {p : Addr} {u : Value} (f : Fr S w w') (h : w.cell? p = some u) (hn : ¬ S p.block) : w'.cell? p = some u := by
  have hl := cell_lt h
  have e := f.block p.block hl hn
  unfold World.cell? at h ⊢
  rw [e]
  exact h
theorem own_two {w : World} {b1 b2 : Nat} {T S : TypeId} {s1 s2 : Nat} {u v : Value} {n m : Nat} {cs ds : List Value} (h : w.ownsRow b1 T s1 u n cs) (k : w.ownsRow b2 S s2 v m ds) (hT : T ≠ S) : ∀ b, u.ownBlock = some b → ¬ v.ownBlock = some b := by
  intro b hb hv
  rcases h.2 with ⟨h1, -⟩ | ⟨g, cap, cur, h1, -, h3, -⟩
  · rw [h1] at hb; cases hb
  · rcases k.2 with ⟨k1, -⟩ | ⟨g', cap', cur', k1, -, k3, -⟩
    · rw [k1] at hv; cases hv
    · rw [h1] at hb
      rw [k1] at hv
      simp [Value.ownBlock] at hb hv
      subst hb
      subst hv
      rw [h3] at k3
      injection k3 with k3
      injection k3 with _ k4
      exact hT k4
end Go.Proofs.YteieikgkmfglaaaGreatDoor

namespace Go.Proofs.YteieikgkmfglaaaGreatDoor
open Go.RowKit
set_option linter.unusedVariables false

theorem gb_trans {a b c : World} {r : Option Nat} (h : a.grownBy b r) (k : b.grownBy c r) : a.grownBy c r :=
  ⟨k.os.trans h.os, k.tape.trans h.tape, k.output.trans h.output, Nat.le_trans h.size k.size, fun i hi hr => (k.block i (Nat.lt_of_lt_of_le hi h.size) hr).trans (h.block i hi hr)⟩
theorem gb_below {a b : World} {r : Option Nat} (h : Below a.heap.size a b) : a.grownBy b r := ⟨h.os, h.tape, h.output, h.size, fun k hk _ => h.block k hk⟩
theorem gb_kp {a b : World} {z : Nat} (h : Kp z a b) : a.grownBy b (some z) := ⟨h.os, h.tape, h.output, h.size, fun k hk hn => h.block k hk (fun e => hn (by rw [e]))⟩
theorem kp_gb {z : Nat} {a b c : World} {r : Option Nat} (h : Kp z a b) (g : b.grownBy c r) (hr : ∀ k, r = some k → a.heap.size ≤ k) : Kp z a c :=
  ⟨g.os.trans h.os, g.tape.trans h.tape, g.output.trans h.output, Nat.le_trans h.size g.size, fun i hi hz => (g.block i (Nat.lt_of_lt_of_le hi h.size) (fun e => by have := hr i e.symm; omega)).trans (h.block i hi hz)⟩
theorem cell_kp9 {w w' : World} {z : Nat} {p : Addr} {u : Value} (h : w.cell? p = some u) (k : Kp z w w') (hz : p.block ≠ z) : w'.cell? p = some u := by
  rw [World.cell?_of_block (k.block p.block (cell_lt h) hz)]; exact h
theorem Bw.kp9 {w w' : World} {z y : Nat} {W : WV} {u1 u2 u3 u4 u5 : Value} (h : Bw w z W u1 u2 u3 u4 u5) (k : Kp y w w') (hn : z ≠ y) : Bw w' z W u1 u2 u3 u4 u5 :=
  ⟨cell_kp9 h.c0 k hn, cell_kp9 h.c1 k hn, cell_kp9 h.c2 k hn, cell_kp9 h.c3 k hn, cell_kp9 h.c4 k hn, cell_kp9 h.c5 k hn, cell_kp9 h.c6 k hn, cell_kp9 h.c7 k hn, cell_kp9 h.c8 k hn⟩
theorem Unc.kp9 {w w' : World} {z : Nat} {y : Addr} {u : UnV} (h : Unc w y u) (k : Kp z w w') (hn : y.block ≠ z) : Unc w' y u :=
  ⟨cell_kp9 h.c0 k hn, cell_kp9 h.c1 k hn, cell_kp9 h.c2 k hn, cell_kp9 h.c3 k hn, cell_kp9 h.c4 k hn, cell_kp9 h.c5 k hn, cell_kp9 h.c6 k hn, cell_kp9 h.c7 k hn⟩
theorem cell_gb {w w' : World} {r : Option Nat} {p : Addr} {u : Value} (h : w.cell? p = some u) (k : w.grownBy w' r) (hz : r ≠ some p.block) : w'.cell? p = some u := by
  rw [World.cell?_of_block (k.block p.block (cell_lt h) (fun e => hz e.symm))]; exact h
theorem Unc.gb {w w' : World} {r : Option Nat} {y : Addr} {u : UnV} (h : Unc w y u) (k : w.grownBy w' r) (hn : r ≠ some y.block) : Unc w' y u :=
  ⟨cell_gb h.c0 k hn, cell_gb h.c1 k hn, cell_gb h.c2 k hn, cell_gb h.c3 k hn, cell_gb h.c4 k hn, cell_gb h.c5 k hn, cell_gb h.c6 k hn, cell_gb h.c7 k hn⟩
theorem wx_bw {w : World} {z : Nat} {X : WV} {u1 u2 u3 u4 u5 : Value} (h : Wx w z (.int .i64 X.turn) (.int .i64 X.next) (.int .i64 X.wide) (.int .i64 X.high) u1 u2 u3 u4 u5) : Bw w z X u1 u2 u3 u4 u5 := by
  obtain ⟨h0, h1, h2, h3, h4, h5, h6, h7, h8⟩ := h.cells
  exact ⟨h0, h1, h2, h3, h4, h5, h6, h7, h8⟩
theorem own_low {w w' : World} {B base : Nat} {T : TypeId} {size : Nat} {u : Value} {n : Nat} {cs : List Value} (h : w.ownsRow base T size u n cs) (k : Below B w w') (hz : ∀ b, u.ownBlock = some b → b < B) : w'.ownsRow base T size u n cs := by
  refine ⟨h.1, ?_⟩
  rcases h.2 with h1 | ⟨g, cap, cur, h1, h2, h3, h4⟩
  · exact .inl h1
  · exact .inr ⟨g, cap, cur, h1, h2, (k.block g (hz g (by rw [h1]; rfl))).trans h3, h4⟩
theorem own_gb {w w' : World} {base : Nat} {T : TypeId} {size : Nat} {u : Value} {n : Nat} {cs : List Value} {r : Option Nat} (h : w.ownsRow base T size u n cs) (k : w.grownBy w' r) (hz : ∀ b, u.ownBlock = some b → r ≠ some b) : w'.ownsRow base T size u n cs := by
  refine ⟨h.1, ?_⟩
  rcases h.2 with h1 | ⟨g, cap, cur, h1, h2, h3, h4⟩
  · exact .inl h1
  · exact .inr ⟨g, cap, cur, h1, h2, (k.block g (lt_of_block h3) (fun e => hz g (by rw [h1]; rfl) e.symm)).trans h3, h4⟩
theorem kind_new {w : World} {z : Nat} (k : KV) (hz : w.heap.size = z) : Kc (w.alloc (Obj.cells #[.string k.b, .int .i64 k.n0, .int .i64 k.n1, .int .i64 k.n2, .int .i64 k.n3, .int .i64 k.n4, .int .i64 k.n5, .int .i64 k.n6, .int .i64 k.n7, .bool k.f, .bool k.t] 68)) ⟨z, 0, none⟩ k := by
  subst hz
  exact ⟨by simp, by simp, by simp, by simp, by simp, by simp, by simp, by simp, by simp, by simp, by simp⟩
theorem Kc.kp9 {w w' : World} {z : Nat} {y : Addr} {k : KV} (h : Kc w y k) (q : Kp z w w') (hn : y.block ≠ z) : Kc w' y k :=
  ⟨cell_kp9 h.c0 q hn, cell_kp9 h.c1 q hn, cell_kp9 h.c2 q hn, cell_kp9 h.c3 q hn, cell_kp9 h.c4 q hn, cell_kp9 h.c5 q hn, cell_kp9 h.c6 q hn, cell_kp9 h.c7 q hn, cell_kp9 h.c8 q hn, cell_kp9 h.c9 q hn, cell_kp9 h.c10 q hn⟩
theorem kc_of {w : World} {xk : Addr} {n q kn : Nat} {ks : List KV} {k : KV} (h : Kl w (.slice (some xk) n q) ks) (hk : ks[kn]? = some k) : Kc w (xk.add (kn * 11)) k := by
  obtain ⟨a, c, he, -, -, hc⟩ := h
  obtain ⟨x, hx, -, hxc⟩ := hc (by intro h; rw [h] at hk; simp at hk)
  injection he with he
  rw [← he] at hx
  injection hx with hx
  rw [hx]
  exact hxc kn k hk
end Go.Proofs.YteieikgkmfglaaaGreatDoor

namespace Go.Proofs.YteieikgkmfglaaaGreatDoor
open Go.RowKit
set_option linter.unusedVariables false

theorem Fr.wx {S : Nat → Prop} {w w' : World} {z : Nat} {c0 c1 c2 c3 c4 c5 c6 c7 c8 : Value} (f : Fr S w w') (h : Wx w z c0 c1 c2 c3 c4 c5 c6 c7 c8) (hn : ¬ S z) : Wx w' z c0 c1 c2 c3 c4 c5 c6 c7 c8 := (f.block z h.lt hn).trans h
end Go.Proofs.YteieikgkmfglaaaGreatDoor

namespace Go.Proofs.YteieikgkmfglaaaGreatDoor
open Go.RowKit
set_option linter.unusedVariables false

theorem len_un (ks : List UnV) : (ks.flatMap UnV.cs).length = ks.length * 8 := by
  induction ks with
  | nil => rfl
  | cons x l ih => rw [List.flatMap_cons, List.length_append, ih, List.length_cons, Nat.succ_mul, Nat.add_comm]; rfl
theorem cell_un {w : World} {y : Addr} {ks : List UnV} (hc : ∀ (i : Nat) k, ks[i]? = some k → Unc w (y.add (i * 8)) k) (j : Nat) (u : Value) (hj : (ks.flatMap UnV.cs)[j]? = some u) : w.cell? (y.add j) = some u := by
  have hjl : j < ks.length * 8 := by rw [← len_un]; exact (List.getElem?_eq_some_iff.1 hj).1
  obtain ⟨i, r, hr, rfl⟩ : ∃ i r, r < 8 ∧ j = i * 8 + r := ⟨j / 8, j % 8, Nat.mod_lt _ (by decide), by omega⟩
  have hi : i < ks.length := by omega
  obtain ⟨k, hk⟩ : ∃ k, ks[i]? = some k := ⟨_, List.getElem?_eq_getElem hi⟩
  rw [flat_un ks i r k hk hr] at hj
  have h := hc i k hk
  rcases Nat.eq_zero_or_pos r with rfl | hr0
  · simp [UnV.cs] at hj
    subst hj
    exact h.c0
  · have ea : y.add (i * 8 + r) = ⟨(y.add (i * 8)).block, (y.add (i * 8)).off + r, none⟩ := by
      unfold Addr.add
      rw [if_neg (by omega)]
      split <;> simp <;> omega
    rw [ea]
    match r, hr, hr0, hj with
    | 1, _, _, hj => simp [UnV.cs] at hj; subst hj; exact h.c1
    | 2, _, _, hj => simp [UnV.cs] at hj; subst hj; exact h.c2
    | 3, _, _, hj => simp [UnV.cs] at hj; subst hj; exact h.c3
    | 4, _, _, hj => simp [UnV.cs] at hj; subst hj; exact h.c4
    | 5, _, _, hj => simp [UnV.cs] at hj; subst hj; exact h.c5
    | 6, _, _, hj => simp [UnV.cs] at hj; subst hj; exact h.c6
    | 7, _, _, hj => simp [UnV.cs] at hj; subst hj; exact h.c7

theorem app_uns {ops : Array Oper} {rest : List Oper} {o : Oper} {a : Act} {Q : Exit → Act → World → Prop} (w : World) (hgd : o.guard = none) (s x : Operand)
    (ho : o.op = .call { callee := .builtin .append, args := #[s, x], argTypes := #[26, 26] }) (base : Nat) (v : Value) (ks : List UnV) (hs : a.eval s = v) (hown : Uno w base v ks)
    (u : Value) (ys : List UnV) (hx : a.eval x = u) (hu : Unl w u ys) (hl : ks.length + ys.length ≤ 100000000) (hbase : base ≤ w.heap.size)
    (h : ∀ v' w', Uno w' base v' (ks ++ ys) → w.grownBy w' v.ownBlock → (v'.ownBlock = v.ownBlock ∨ v'.ownBlock = some w.heap.size) → wpList Tryz.prog ops Q rest (a.put o.dst v') w') :
    wpList Tryz.prog ops Q (o :: rest) a w := by
  obtain ⟨i0, hi, hz0, hz1, hz2⟩ := info_parts info_un
  obtain ⟨ad, c, rfl, h1, h2, h3⟩ := hu
  by_cases hn : ys = []
  · subst hn
    refine wpList_plain hgd fun K hK => ?_
    have hrun := run_append_no (P := Tryz.prog) (w := w) base 26 o.type 44 i0 8 Tryz.underlying26 hi v ks.length _ hown ad c
    have hx' : a.eval x = .slice ad 0 c := hx
    unfold Oper.wp
    simp [execOp, ho, resolve, invoke, builtin, hs, hx', hrun, Result.andThen]
    exact hK _ _ (h v w (by simpa using hown) (World.grownBy.refl _ _) (.inl rfl))
  · obtain ⟨y, rfl, hy, hc⟩ := h3 hn
    refine wpList_append_lies w hgd s x 26 ho base 44 i0 _ 8 64 Tryz.underlying26 hi hz0 hz1 hz2 rfl (by decide) v ks.length _ hs hown y ys.length c (ys.flatMap UnV.cs) hx (len_un ys) (cell_un hc) ?_ (List.length_pos_iff.2 hn) (by unfold maxLen; omega) (by omega) hbase _ rfl ?_
    · intro u hu
      obtain ⟨k, -, hk⟩ := List.mem_flatMap.1 hu
      simp [UnV.cs] at hk
      rcases hk with rfl | rfl | rfl | rfl | rfl | rfl | rfl | rfl <;> rfl
    · intro g cap w' k1 k2 k3 _
      refine h _ w' ?_ k2 ?_
      · unfold Uno
        rw [List.length_append, List.flatMap_append]
        exact k1
      · rcases k3 with k3 | k3
        · exact .inl k3.symm
        · exact .inr (by rw [k3]; rfl)
end Go.Proofs.YteieikgkmfglaaaGreatDoor

namespace Go.Proofs.YteieikgkmfglaaaGreatDoor
open Go.RowKit
set_option linter.unusedVariables false

/-- block g has these units, and more behind them. -/
def Ub (w : World) (g : Nat) (ks : List UnV) (rest : List Value) : Prop := w.heap[g]? = some (.cells (ks.flatMap UnV.cs ++ rest).toArray 44 (0, 0))
theorem Ub.lt {w : World} {g : Nat} {ks : List UnV} {rest : List Value} (h : Ub w g ks rest) : g < w.heap.size := lt_of_block h
theorem Ub.thaw {w : World} {g : Nat} {ks : List UnV} {rest : List Value} (h : Ub w g ks rest) (i : Nat) : w.frozen? ⟨g, i, none⟩ = false := by
  unfold Ub at h
  simp [World.frozen?, h]
theorem Ub.below {w w' : World} {g B : Nat} {ks : List UnV} {rest : List Value} (h : Ub w g ks rest) (hb : Below B w w') (hB : g < B) : Ub w' g ks rest := by
  unfold Ub at *
  rw [hb.block g hB]; exact h
theorem Ub.at_ {w : World} {g : Nat} {ks : List UnV} {rest : List Value} (h : Ub w g ks rest) {i : Nat} {o : UnV} (ho : ks[i]? = some o) {j : Nat} (hj : j < 8) : w.cell? ⟨g, i * 8 + j, none⟩ = o.cs[j]? := by
  unfold Ub at h
  have hi : i < ks.length := (List.getElem?_eq_some_iff.1 ho).1
  simp only [World.cell?, h]
  have e : (ks.flatMap UnV.cs ++ rest).toArray[i * 8 + j]? = o.cs[j]? := by
    rw [List.getElem?_toArray, List.getElem?_append_left (by rw [len_un]; omega), flat_un ks i j o ho hj]
  simp only [e]
  simp
theorem Ub.unc {w : World} {g : Nat} {ks : List UnV} {rest : List Value} (h : Ub w g ks rest) {i : Nat} {o : UnV} (ho : ks[i]? = some o) : Unc w ⟨g, i * 8, none⟩ o :=
  ⟨h.at_ ho (j := 0) (by decide), h.at_ ho (j := 1) (by decide), h.at_ ho (j := 2) (by decide), h.at_ ho (j := 3) (by decide), h.at_ ho (j := 4) (by decide), h.at_ ho (j := 5) (by decide), h.at_ ho (j := 6) (by decide), h.at_ ho (j := 7) (by decide)⟩
theorem uflat_set : ∀ (ks : List UnV) (i : Nat) (o : UnV) (rest : List Value), i < ks.length →
    (ks.set i o).flatMap UnV.cs ++ rest = ((((((((ks.flatMap UnV.cs ++ rest).set (i * 8) (.int .i64 o.id)).set (i * 8 + 1) (.int .i64 o.player)).set (i * 8 + 2) (.int .i64 o.kind)).set (i * 8 + 3) (.int .i64 o.at_)).set (i * 8 + 4) (.int .i64 o.life)).set (i * 8 + 5) (.int .i64 o.load)).set (i * 8 + 6) (.int .i64 o.task)).set (i * 8 + 7) (.int .i64 o.goal)
  | [], i, o, rest, h => by simp at h
  | k :: ks, 0, o, rest, _ => by
    simp [UnV.cs]
  | k :: ks, i + 1, o, rest, h => by
    have ih := uflat_set ks i o rest (by simpa using h)
    rw [show (i + 1) * 8 = i * 8 + 8 by omega, show i * 8 + 8 + 1 = i * 8 + 1 + 8 by omega, show i * 8 + 8 + 2 = i * 8 + 2 + 8 by omega, show i * 8 + 8 + 3 = i * 8 + 3 + 8 by omega, show i * 8 + 8 + 4 = i * 8 + 4 + 8 by omega, show i * 8 + 8 + 5 = i * 8 + 5 + 8 by omega, show i * 8 + 8 + 6 = i * 8 + 6 + 8 by omega, show i * 8 + 8 + 7 = i * 8 + 7 + 8 by omega, List.set_cons_succ, List.flatMap_cons, List.append_assoc, ih, List.flatMap_cons]
    simp [UnV.cs]
theorem Ub.put {w : World} {g : Nat} {ks : List UnV} {rest : List Value} (h : Ub w g ks rest) {i : Nat} (hi : i < ks.length) (o : UnV) :
    Ub ((((((((w.setCell ⟨g, i * 8, none⟩ (.int .i64 o.id)).setCell ⟨g, i * 8 + 1, none⟩ (.int .i64 o.player)).setCell ⟨g, i * 8 + 2, none⟩ (.int .i64 o.kind)).setCell ⟨g, i * 8 + 3, none⟩ (.int .i64 o.at_)).setCell ⟨g, i * 8 + 4, none⟩ (.int .i64 o.life)).setCell ⟨g, i * 8 + 5, none⟩ (.int .i64 o.load)).setCell ⟨g, i * 8 + 6, none⟩ (.int .i64 o.task)).setCell ⟨g, i * 8 + 7, none⟩ (.int .i64 o.goal)) g (ks.set i o) rest := by
  unfold Ub at *
  have h0 := heap_setCell_same w g (i * 8) _ _ (.int .i64 o.id) h
  have h1 := heap_setCell_same _ g (i * 8 + 1) _ _ (.int .i64 o.player) h0
  have h2 := heap_setCell_same _ g (i * 8 + 2) _ _ (.int .i64 o.kind) h1
  have h3 := heap_setCell_same _ g (i * 8 + 3) _ _ (.int .i64 o.at_) h2
  have h4 := heap_setCell_same _ g (i * 8 + 4) _ _ (.int .i64 o.life) h3
  have h5 := heap_setCell_same _ g (i * 8 + 5) _ _ (.int .i64 o.load) h4
  have h6 := heap_setCell_same _ g (i * 8 + 6) _ _ (.int .i64 o.task) h5
  have h7 := heap_setCell_same _ g (i * 8 + 7) _ _ (.int .i64 o.goal) h6
  rw [h7, uflat_set ks i o rest hi]
  simp
theorem ub_below {B g : Nat} {w W : World} {i : Nat} (o : UnV) (h : Below B w W) (hb : B ≤ g) : Below B w ((((((((W.setCell ⟨g, i * 8, none⟩ (.int .i64 o.id)).setCell ⟨g, i * 8 + 1, none⟩ (.int .i64 o.player)).setCell ⟨g, i * 8 + 2, none⟩ (.int .i64 o.kind)).setCell ⟨g, i * 8 + 3, none⟩ (.int .i64 o.at_)).setCell ⟨g, i * 8 + 4, none⟩ (.int .i64 o.life)).setCell ⟨g, i * 8 + 5, none⟩ (.int .i64 o.load)).setCell ⟨g, i * 8 + 6, none⟩ (.int .i64 o.task)).setCell ⟨g, i * 8 + 7, none⟩ (.int .i64 o.goal)) :=
  (((((((h.setCell (p := ⟨g, i * 8, none⟩) hb _).setCell (p := ⟨g, i * 8 + 1, none⟩) hb _).setCell (p := ⟨g, i * 8 + 2, none⟩) hb _).setCell (p := ⟨g, i * 8 + 3, none⟩) hb _).setCell (p := ⟨g, i * 8 + 4, none⟩) hb _).setCell (p := ⟨g, i * 8 + 5, none⟩) hb _).setCell (p := ⟨g, i * 8 + 6, none⟩) hb _).setCell (p := ⟨g, i * 8 + 7, none⟩) hb _
theorem uflat_set3 : ∀ (ks : List UnV) (i : Nat) (o : UnV) (a : Int) (rest : List Value), ks[i]? = some o → (ks.set i { o with at_ := a }).flatMap UnV.cs ++ rest = (ks.flatMap UnV.cs ++ rest).set (i * 8 + 3) (.int .i64 a)
  | [], i, o, a, rest, h => by simp at h
  | k :: ks, 0, o, a, rest, h => by
    simp at h
    subst h
    simp [UnV.cs]
  | k :: ks, i + 1, o, a, rest, h => by
    have ih := uflat_set3 ks i o a rest (by simpa using h)
    rw [show (i + 1) * 8 + 3 = i * 8 + 3 + 8 by omega, List.set_cons_succ, List.flatMap_cons, List.append_assoc, ih, List.flatMap_cons]
    simp [UnV.cs]
theorem Ub.set3 {w : World} {g : Nat} {ks : List UnV} {rest : List Value} (h : Ub w g ks rest) {i : Nat} {o : UnV} (ho : ks[i]? = some o) (a : Int) : Ub (w.setCell ⟨g, i * 8 + 3, none⟩ (.int .i64 a)) g (ks.set i { o with at_ := a }) rest := by
  unfold Ub at *
  have h0 := heap_setCell_same w g (i * 8 + 3) _ _ (.int .i64 a) h
  rw [h0, uflat_set3 ks i o a rest ho]
  simp
theorem uflat_set4 : ∀ (ks : List UnV) (i : Nat) (o : UnV) (a : Int) (rest : List Value), ks[i]? = some o → (ks.set i { o with life := a }).flatMap UnV.cs ++ rest = (ks.flatMap UnV.cs ++ rest).set (i * 8 + 4) (.int .i64 a)
  | [], i, o, a, rest, h => by simp at h
  | k :: ks, 0, o, a, rest, h => by
    simp at h
    subst h
    simp [UnV.cs]
  | k :: ks, i + 1, o, a, rest, h => by
    have ih := uflat_set4 ks i o a rest (by simpa using h)
    rw [show (i + 1) * 8 + 4 = i * 8 + 4 + 8 by omega, List.set_cons_succ, List.flatMap_cons, List.append_assoc, ih, List.flatMap_cons]
    simp [UnV.cs]
theorem Ub.set4 {w : World} {g : Nat} {ks : List UnV} {rest : List Value} (h : Ub w g ks rest) {i : Nat} {o : UnV} (ho : ks[i]? = some o) (a : Int) : Ub (w.setCell ⟨g, i * 8 + 4, none⟩ (.int .i64 a)) g (ks.set i { o with life := a }) rest := by
  unfold Ub at *
  have h0 := heap_setCell_same w g (i * 8 + 4) _ _ (.int .i64 a) h
  rw [h0, uflat_set4 ks i o a rest ho]
  simp
theorem uflat_set5 : ∀ (ks : List UnV) (i : Nat) (o : UnV) (a : Int) (rest : List Value), ks[i]? = some o → (ks.set i { o with load := a }).flatMap UnV.cs ++ rest = (ks.flatMap UnV.cs ++ rest).set (i * 8 + 5) (.int .i64 a)
  | [], i, o, a, rest, h => by simp at h
  | k :: ks, 0, o, a, rest, h => by
    simp at h
    subst h
    simp [UnV.cs]
  | k :: ks, i + 1, o, a, rest, h => by
    have ih := uflat_set5 ks i o a rest (by simpa using h)
    rw [show (i + 1) * 8 + 5 = i * 8 + 5 + 8 by omega, List.set_cons_succ, List.flatMap_cons, List.append_assoc, ih, List.flatMap_cons]
    simp [UnV.cs]
theorem Ub.set5 {w : World} {g : Nat} {ks : List UnV} {rest : List Value} (h : Ub w g ks rest) {i : Nat} {o : UnV} (ho : ks[i]? = some o) (a : Int) : Ub (w.setCell ⟨g, i * 8 + 5, none⟩ (.int .i64 a)) g (ks.set i { o with load := a }) rest := by
  unfold Ub at *
  have h0 := heap_setCell_same w g (i * 8 + 5) _ _ (.int .i64 a) h
  rw [h0, uflat_set5 ks i o a rest ho]
  simp
theorem uflat_set6 : ∀ (ks : List UnV) (i : Nat) (o : UnV) (a : Int) (rest : List Value), ks[i]? = some o → (ks.set i { o with task := a }).flatMap UnV.cs ++ rest = (ks.flatMap UnV.cs ++ rest).set (i * 8 + 6) (.int .i64 a)
  | [], i, o, a, rest, h => by simp at h
  | k :: ks, 0, o, a, rest, h => by
    simp at h
    subst h
    simp [UnV.cs]
  | k :: ks, i + 1, o, a, rest, h => by
    have ih := uflat_set6 ks i o a rest (by simpa using h)
    rw [show (i + 1) * 8 + 6 = i * 8 + 6 + 8 by omega, List.set_cons_succ, List.flatMap_cons, List.append_assoc, ih, List.flatMap_cons]
    simp [UnV.cs]
theorem Ub.set6 {w : World} {g : Nat} {ks : List UnV} {rest : List Value} (h : Ub w g ks rest) {i : Nat} {o : UnV} (ho : ks[i]? = some o) (a : Int) : Ub (w.setCell ⟨g, i * 8 + 6, none⟩ (.int .i64 a)) g (ks.set i { o with task := a }) rest := by
  unfold Ub at *
  have h0 := heap_setCell_same w g (i * 8 + 6) _ _ (.int .i64 a) h
  rw [h0, uflat_set6 ks i o a rest ho]
  simp
theorem uflat_set7 : ∀ (ks : List UnV) (i : Nat) (o : UnV) (a : Int) (rest : List Value), ks[i]? = some o → (ks.set i { o with goal := a }).flatMap UnV.cs ++ rest = (ks.flatMap UnV.cs ++ rest).set (i * 8 + 7) (.int .i64 a)
  | [], i, o, a, rest, h => by simp at h
  | k :: ks, 0, o, a, rest, h => by
    simp at h
    subst h
    simp [UnV.cs]
  | k :: ks, i + 1, o, a, rest, h => by
    have ih := uflat_set7 ks i o a rest (by simpa using h)
    rw [show (i + 1) * 8 + 7 = i * 8 + 7 + 8 by omega, List.set_cons_succ, List.flatMap_cons, List.append_assoc, ih, List.flatMap_cons]
    simp [UnV.cs]
theorem Ub.set7 {w : World} {g : Nat} {ks : List UnV} {rest : List Value} (h : Ub w g ks rest) {i : Nat} {o : UnV} (ho : ks[i]? = some o) (a : Int) : Ub (w.setCell ⟨g, i * 8 + 7, none⟩ (.int .i64 a)) g (ks.set i { o with goal := a }) rest := by
  unfold Ub at *
  have h0 := heap_setCell_same w g (i * 8 + 7) _ _ (.int .i64 a) h
  rw [h0, uflat_set7 ks i o a rest ho]
  simp
/-- a list of its own, as a block. -/
theorem Uno.ub {w : World} {base : Nat} {v : Value} {ks : List UnV} (h : Uno w base v ks) : (v = .slice none 0 0 ∧ ks = []) ∨ ∃ g cap rest, v = .slice (some ⟨g, 0, none⟩) ks.length cap ∧ base ≤ g ∧ ks.length ≤ cap ∧ cap ≤ maxLen ∧ ks.length * 8 + rest.length = cap * 8 ∧ Ub w g ks rest := by
  rcases h.2 with ⟨h1, h2⟩ | ⟨g, cap, cur, h1, h2, h3, h4, h5, h6, h7⟩
  · exact .inl ⟨h1, List.length_eq_zero_iff.1 h2⟩
  · refine .inr ⟨g, cap, cur.toList.drop (ks.length * 8), h1, h2, h4, h5, ?_, ?_⟩
    · have e6 : cur.toList.length = cap * 8 := by simpa using h6
      rw [List.length_drop, e6]
      have : ks.length * 8 ≤ cap * 8 := Nat.mul_le_mul_right _ h4
      omega
    · unfold Ub
      rw [← h7, List.take_append_drop, Array.toArray_toList]
      exact h3
theorem Ub.uno {w : World} {base g cap : Nat} {ks : List UnV} {rest : List Value} (h : Ub w g ks rest) (hb : base ≤ g) (h1 : ks.length ≤ cap) (h2 : cap ≤ maxLen) (h3 : ks.length * 8 + rest.length = cap * 8) : Uno w base (.slice (some ⟨g, 0, none⟩) ks.length cap) ks := by
  refine ⟨len_un ks, .inr ⟨g, cap, _, rfl, hb, h, h1, h2, ?_, ?_⟩⟩
  · simp only [List.size_toArray, List.length_append, len_un]; omega
  · show (ks.flatMap UnV.cs ++ rest).take (ks.length * 8) = _
    rw [List.take_append_of_le_length (by rw [len_un]; exact Nat.le_refl _), List.take_of_length_le (by rw [len_un]; exact Nat.le_refl _)]
/-- the first m of them, and the others behind. -/
theorem Ub.take {w : World} {g : Nat} {ks : List UnV} {rest : List Value} (h : Ub w g ks rest) (m : Nat) : Ub w g (ks.take m) ((ks.drop m).flatMap UnV.cs ++ rest) := by
  unfold Ub at *
  rw [← List.append_assoc, ← List.flatMap_append, List.take_append_drop]
  exact h
end Go.Proofs.YteieikgkmfglaaaGreatDoor

namespace Go.Proofs.YteieikgkmfglaaaGreatDoor
open Go.RowKit

def intCells (ds : List Int) : List Value := ds.map fun d => .int .i64 d

/-- block b holds the integers ds, and some cells behind. -/
def Bk (w : World) (b : Nat) (ds : List Int) (r : Array Value) : Prop := w.heap[b]? = some (.cells ((intCells ds).toArray ++ r) 3 (0, 0))

theorem Bk.cell {w : World} {b : Nat} {ds : List Int} {r : Array Value} (h : Bk w b ds r) {i : Nat} {d : Int} (hd : ds[i]? = some d) : w.cell? ⟨b, i, none⟩ = some (.int .i64 d) := by
  have hi : i < ds.length := (List.getElem?_eq_some_iff.1 hd).1
  unfold Bk at h
  simp only [World.cell?, h]
  simp [intCells, Array.getElem?_append, hi]
  exact (List.getElem?_eq_some_iff.1 hd).2
theorem Bk.thaw {w : World} {b : Nat} {ds : List Int} {r : Array Value} (h : Bk w b ds r) (i : Nat) : w.frozen? ⟨b, i, none⟩ = false := by
  unfold Bk at h
  simp [World.frozen?, h]
theorem Bk.set {w : World} {b : Nat} {ds : List Int} {r : Array Value} (h : Bk w b ds r) (i : Nat) (d : Int) (hi : i < ds.length) : Bk (w.setCell ⟨b, i, none⟩ (.int .i64 d)) b (ds.set i d) r := by
  unfold Bk at *
  rw [heap_setCell_same w b i _ _ _ h]
  have e : (intCells (ds.set i d)).toArray = (intCells ds).toArray.setIfInBounds i (.int .i64 d) := by
    simp [intCells, List.map_set]
  rw [e]
  have hl : i < (intCells ds).toArray.size := by simpa [intCells] using hi
  rw [Array.setIfInBounds_append_left hl]
theorem Bk.drewN {w : World} {b : Nat} {ds : List Int} {r : Array Value} (h : Bk w b ds r) (n : Nat) : Bk (w.drewN n) b ds r := h
theorem Bk.kp {w w' : World} {b z : Nat} {ds : List Int} {r : Array Value} (h : Bk w b ds r) (hk : Kp z w w') (hne : b ≠ z) : Bk w' b ds r := by
  unfold Bk at *
  rw [hk.block b (lt_of_block h) hne]; exact h
theorem Bk.below {w w' : World} {b : Nat} {ds : List Int} {r : Array Value} (h : Bk w b ds r) (hb : Below w.heap.size w w') : Bk w' b ds r := by
  unfold Bk at *
  rw [hb.block b (lt_of_block h)]; exact h
theorem Bk.lt {w : World} {b : Nat} {ds : List Int} {r : Array Value} (h : Bk w b ds r) : b < w.heap.size := lt_of_block h
theorem Bk.ro {w : World} {b c : Nat} {ds : List Int} {r : Array Value} (h : Bk w b ds r) (h1 : ds.length ≤ c) (h2 : c ≤ 9223372036854775807) : Ro w (.slice (some ⟨b, 0, none⟩) ds.length c) ds :=
  ⟨_, c, rfl, h1, h2, fun _ => ⟨_, rfl, h.lt, fun i d hd => by rw [Addr.add_lit, Nat.zero_add]; exact h.cell hd⟩⟩
/-- another cell, another block. -/
theorem Bk.other {w : World} {b : Nat} {ds : List Int} {r : Array Value} (h : Bk w b ds r) {g : Nat} (hne : b ≠ g) (i : Nat) (u : Value) : Bk (w.setCell ⟨g, i, none⟩ u) b ds r := by
  unfold Bk at *
  rw [Below.heap_setCell _ _ _ _ hne]; exact h
theorem Bk.low {w w' : World} {b B : Nat} {ds : List Int} {r : Array Value} (h : Bk w b ds r) (hb : Below B w w') (hB : b < B) : Bk w' b ds r := by
  unfold Bk at *
  rw [hb.block b hB]; exact h
end Go.Proofs.YteieikgkmfglaaaGreatDoor

namespace Go.Proofs.YteieikgkmfglaaaGreatDoor
open Go.RowKit
set_option linter.unusedVariables false

theorem Ow.bk {w : World} {base : Nat} {v : Value} {xs : List Int} (h : Ow w base v xs) : (v = .slice none 0 0 ∧ xs = []) ∨ ∃ g cap rest, v = .slice (some ⟨g, 0, none⟩) xs.length cap ∧ base ≤ g ∧ xs.length ≤ cap ∧ cap ≤ maxLen ∧ xs.length + rest.size = cap ∧ Bk w g xs rest := by
  rcases h.2 with ⟨h1, h2⟩ | ⟨g, cap, cur, h1, h2, h3, h4, h5, h6, h7⟩
  · exact .inl ⟨h1, List.length_eq_zero_iff.1 h2⟩
  · have e6 : cur.toList.length = cap := by simpa using h6
    refine .inr ⟨g, cap, (cur.toList.drop xs.length).toArray, h1, h2, h4, h5, ?_, ?_⟩
    · simp only [List.size_toArray, List.length_drop, e6]; omega
    · have e : cur = (intCells xs).toArray ++ (cur.toList.drop xs.length).toArray := by
        apply Array.ext'
        rw [Nat.mul_one] at h7
        have h8 : cur.toList.take xs.length = intCells xs := h7
        rw [Array.toList_append]
        show cur.toList = intCells xs ++ cur.toList.drop xs.length
        rw [← h8, List.take_append_drop]
      unfold Bk
      rw [h3, ← e]
theorem Bk.ow {w : World} {base g cap : Nat} {xs : List Int} {rest : Array Value} (h : Bk w g xs rest) (hb : base ≤ g) (h1 : xs.length ≤ cap) (h2 : cap ≤ maxLen) (h3 : xs.length + rest.size = cap) : Ow w base (.slice (some ⟨g, 0, none⟩) xs.length cap) xs := by
  refine ⟨by simp, .inr ⟨g, cap, _, rfl, hb, h, h1, h2, ?_, ?_⟩⟩
  · simp [intCells]; omega
  · simp [intCells]
end Go.Proofs.YteieikgkmfglaaaGreatDoor

namespace Go.Proofs.YteieikgkmfglaaaGreatDoor
open Go.RowKit
set_option linter.unusedVariables false

structure GvS (ks : List KV) (Y : WV) (ref : List Int) (b1 z : Nat) (w1 : World) (u1 u2 u3 u4 u5 ur : Value) (V : World) : Prop where
  x : Wx V z (.int .i64 Y.turn) (.int .i64 Y.next) (.int .i64 Y.wide) (.int .i64 Y.high) u1 u2 u3 u4 u5
  o1 : Ow V b1 u1 Y.gs
  o2 : Ow V b1 u2 Y.os
  o3 : Ow V b1 u3 Y.gold
  o4 : Uno V b1 u4 Y.us
  o5 : Jbo V b1 u5 Y.qs
  r : Ow V b1 ur ref
  d : [u1, u2, u3, u4, u5, ur].Pairwise Dif
  k : Kp z w1 V
  f : GFit ks Y
section
variable {ks : List KV} {Y : WV} {ref : List Int} {b1 z : Nat} {w1 : World} {u1 u2 u3 u4 u5 ur : Value} {V V' : World}
theorem GvS.below (h : GvS ks Y ref b1 z w1 u1 u2 u3 u4 u5 ur V) (hb : Below V.heap.size V V') : GvS ks Y ref b1 z w1 u1 u2 u3 u4 u5 ur V' :=
  ⟨h.x.below hb h.x.lt, h.o1.below hb, h.o2.below hb, h.o3.below hb, h.o4.below hb, h.o5.below hb, h.r.below hb, h.d, h.k.trans (Kp.of hb), h.f⟩
theorem GvS.wo (h : GvS ks Y ref b1 z w1 u1 u2 u3 u4 u5 ur V) : Wo V b1 (.agg #[.int .i64 Y.turn, .int .i64 Y.next, .int .i64 Y.wide, .int .i64 Y.high, u1, u2, u3, u4, u5]) Y := ⟨u1, u2, u3, u4, u5, rfl, h.o1, h.o2, h.o3, h.o4, h.o5⟩
theorem GvS.difs (h : GvS ks Y ref b1 z w1 u1 u2 u3 u4 u5 ur V) : (Dif u1 u2 ∧ Dif u1 u3 ∧ Dif u1 u4 ∧ Dif u1 u5 ∧ Dif u1 ur) ∧ (Dif u2 u3 ∧ Dif u2 u4 ∧ Dif u2 u5 ∧ Dif u2 ur) ∧ (Dif u3 u4 ∧ Dif u3 u5 ∧ Dif u3 ur) ∧ (Dif u4 u5 ∧ Dif u4 ur) ∧ Dif u5 ur := by
  have := h.d
  simp only [List.pairwise_cons, List.mem_cons, List.not_mem_nil, or_false, forall_eq_or_imp, forall_eq] at this
  obtain ⟨⟨a1, a2, a3, a4, a5⟩, ⟨b1, b2, b3, b4⟩, ⟨c1, c2, c3⟩, ⟨d1, d2⟩, e, -⟩ := this
  exact ⟨⟨a1, a2, a3, a4, a5⟩, ⟨b1, b2, b3, b4⟩, ⟨c1, c2, c3⟩, ⟨d1, d2⟩, e⟩
theorem dif_to {u v v' : Value} {n : Nat} (h : Dif u v) (hu : ∀ k, u.ownBlock = some k → k < n) (hv : v'.ownBlock = v.ownBlock ∨ ∃ q, v'.ownBlock = some q ∧ n ≤ q) : Dif u v' := fun k h1 h2 => by
  rcases hv with e | ⟨q, e, hq⟩
  · exact h k h1 (by rw [← e]; exact h2)
  · rw [e] at h2
    injection h2 with h2
    have := hu k h1
    omega
theorem GvS.refuse {ref' : List Int} {ur' : Value} (h : GvS ks Y ref b1 z w1 u1 u2 u3 u4 u5 ur V) (hz : z < b1) (hw : w1.heap.size = b1) (g : V.grownBy V' ur.ownBlock) (ho : Ow V' b1 ur' ref') (hn : ur'.ownBlock = ur.ownBlock ∨ ∃ q, ur'.ownBlock = some q ∧ V.heap.size ≤ q) : GvS ks Y ref' b1 z w1 u1 u2 u3 u4 u5 ur' V' := by
  obtain ⟨⟨d12, d13, d14, d15, d1r⟩, ⟨d23, d24, d25, d2r⟩, ⟨d34, d35, d3r⟩, ⟨d45, d4r⟩, d5r⟩ := h.difs
  have F : Fr (fun q => ur.ownBlock = some q) V V' := Fr.gb g (fun k hk => hk)
  refine ⟨F.wx h.x (fun e => by have := (h.r.block z e).1; omega), F.own h.o1 (fun b hb e => d1r b hb e), F.own h.o2 (fun b hb e => d2r b hb e), F.own h.o3 (fun b hb e => d3r b hb e), F.own h.o4 (fun b hb e => d4r b hb e), F.own h.o5 (fun b hb e => d5r b hb e), ho, ?_, kp_gb h.k g (fun k hk => by rw [hw]; exact (h.r.block k hk).1), h.f⟩
  simp only [List.pairwise_cons, List.mem_cons, List.not_mem_nil, or_false, forall_eq_or_imp, forall_eq]
  exact ⟨⟨d12, d13, d14, d15, dif_to d1r (fun k hk => (h.o1.block k hk).2) hn⟩, ⟨d23, d24, d25, dif_to d2r (fun k hk => (h.o2.block k hk).2) hn⟩, ⟨d34, d35, dif_to d3r (fun k hk => (h.o3.block k hk).2) hn⟩, ⟨d45, dif_to d4r (fun k hk => (h.o4.block k hk).2) hn⟩, dif_to d5r (fun k hk => (h.o5.block k hk).2) hn, by simp, by simp⟩
theorem GvS.send {gu cap i : Nat} {rest : List Value} {u : UnV} {o : OrV} (h : GvS ks Y ref b1 z w1 u1 u2 u3 (.slice (some ⟨gu, 0, none⟩) Y.us.length cap) u5 ur V) (hz : z < b1) (hw : w1.heap.size = b1) (hu : Y.us[i]? = some u) (hg : b1 ≤ gu) (h1 : Y.us.length ≤ cap) (h2 : cap ≤ maxLen) (h3 : Y.us.length * 8 + rest.length = cap * 8) (hb : Ub V' gu (Y.us.set i (sentU o u)) rest) (hk : Kp gu V V') :
    GvS ks (sentW Y i u o) ref b1 z w1 u1 u2 u3 (.slice (some ⟨gu, 0, none⟩) Y.us.length cap) u5 ur V' := by
  obtain ⟨⟨d12, d13, d14, d15, d1r⟩, ⟨d23, d24, d25, d2r⟩, ⟨d34, d35, d3r⟩, ⟨d45, d4r⟩, d5r⟩ := h.difs
  have F : Fr (fun q => q = gu) V V' := Fr.kp hk rfl
  have own : (Value.slice (some ⟨gu, 0, none⟩) Y.us.length cap).ownBlock = some gu := rfl
  refine ⟨F.wx h.x (by omega), F.own h.o1 (fun b hb e => d14 b hb (by rw [own, e])), F.own h.o2 (fun b hb e => d24 b hb (by rw [own, e])), F.own h.o3 (fun b hb e => d34 b hb (by rw [own, e])), ?_, F.own h.o5 (fun b hb e => d45 gu own (by rw [hb, e])), F.own h.r (fun b hb e => d4r gu own (by rw [hb, e])), h.d, ?_, h.f.sent hu o⟩
  · have := hb.uno (base := b1) (cap := cap) hg (by simpa using h1) h2 (by simpa using h3)
    simpa [sentW] using this
  · exact ⟨hk.os.trans h.k.os, hk.tape.trans h.k.tape, hk.output.trans h.k.output, Nat.le_trans h.k.size hk.size, fun q hq hn => (hk.block q (Nat.lt_of_lt_of_le hq h.k.size) (by omega)).trans (h.k.block q hq hn)⟩
theorem GvS.hire {gg cg pn : Nat} {rest : Array Value} {g : Int} {o : OrV} {u5' : Value} (h : GvS ks Y ref b1 z w1 u1 u2 (.slice (some ⟨gg, 0, none⟩) Y.gold.length cg) u4 u5 ur V) (hz : z < b1) (hw : w1.heap.size = b1) (hg : b1 ≤ gg) (h1 : Y.gold.length ≤ cg) (h2 : cg ≤ maxLen) (h3 : Y.gold.length + rest.size = cg)
    (hx : Wx V' z (.int .i64 Y.turn) (.int .i64 Y.next) (.int .i64 Y.wide) (.int .i64 Y.high) u1 u2 (.slice (some ⟨gg, 0, none⟩) Y.gold.length cg) u4 u5') (hb : Bk V' gg (hired ks Y o).gold rest) (hj : Jbo V' b1 u5' (hired ks Y o).qs) (hf : Fr (fun q => q = z ∨ q = gg ∨ u5.ownBlock = some q) V V') (hn : u5'.ownBlock = u5.ownBlock ∨ ∃ q, u5'.ownBlock = some q ∧ V.heap.size ≤ q) (hfit : GFit ks (hired ks Y o)) :
    GvS ks (hired ks Y o) ref b1 z w1 u1 u2 (.slice (some ⟨gg, 0, none⟩) Y.gold.length cg) u4 u5' ur V' := by
  obtain ⟨⟨d12, d13, d14, d15, d1r⟩, ⟨d23, d24, d25, d2r⟩, ⟨d34, d35, d3r⟩, ⟨d45, d4r⟩, d5r⟩ := h.difs
  have own : (Value.slice (some ⟨gg, 0, none⟩) Y.gold.length cg).ownBlock = some gg := rfl
  have no : ∀ {u : Value}, (∀ k, u.ownBlock = some k → b1 ≤ k ∧ k < V.heap.size) → Dif u (.slice (some ⟨gg, 0, none⟩) Y.gold.length cg) → Dif u u5 → ∀ b, u.ownBlock = some b → ¬ (b = z ∨ b = gg ∨ u5.ownBlock = some b) := fun hu e3 e5 b hb hs => by
    rcases hs with e | e | e
    · have := (hu b hb).1; omega
    · exact e3 b hb (by rw [own, e])
    · exact e5 b hb e
  have el : (hired ks Y o).gold.length = Y.gold.length := by simp [hired]
  refine ⟨hx, hf.own h.o1 (no h.o1.block d13 d15), hf.own h.o2 (no h.o2.block d23 d25), ?_, hf.own h.o4 (no h.o4.block d34.symm d45), hj, hf.own h.r (no h.r.block d3r.symm d5r.symm), ?_, ?_, hfit⟩
  · have := hb.ow (base := b1) (cap := cg) hg (by omega) h2 (by omega)
    rw [el] at this
    exact this
  · simp only [List.pairwise_cons, List.mem_cons, List.not_mem_nil, or_false, forall_eq_or_imp, forall_eq]
    exact ⟨⟨d12, d13, d14, dif_to d15 (fun k hk => (h.o1.block k hk).2) hn, d1r⟩, ⟨d23, d24, dif_to d25 (fun k hk => (h.o2.block k hk).2) hn, d2r⟩, ⟨d34, dif_to d35 (fun k hk => (h.o3.block k hk).2) hn, d3r⟩, ⟨dif_to d45 (fun k hk => (h.o4.block k hk).2) hn, d4r⟩, (dif_to d5r.symm (fun k hk => (h.r.block k hk).2) hn).symm, by simp, by simp⟩
  · exact ⟨hf.os.trans h.k.os, hf.tape.trans h.k.tape, hf.output.trans h.k.output, Nat.le_trans h.k.size hf.size, fun q hq hn => (hf.block q (Nat.lt_of_lt_of_le hq h.k.size) (fun e => by
      rcases e with e | e | e
      · exact hn e
      · omega
      · have := (h.o5.block q e).1; omega)).trans (h.k.block q hq hn)⟩
end
end Go.Proofs.YteieikgkmfglaaaGreatDoor

namespace Go.Proofs.YteieikgkmfglaaaGreatDoor
open Go.RowKit
set_option linter.unusedVariables false

theorem len_jb (ks : List JbV) : (ks.flatMap JbV.cs).length = ks.length * 4 := by
  induction ks with
  | nil => rfl
  | cons x l ih => rw [List.flatMap_cons, List.length_append, ih, List.length_cons, Nat.succ_mul, Nat.add_comm]; rfl
theorem cell_jb {w : World} {y : Addr} {ks : List JbV} (hc : ∀ (i : Nat) k, ks[i]? = some k → Jbc w (y.add (i * 4)) k) (j : Nat) (u : Value) (hj : (ks.flatMap JbV.cs)[j]? = some u) : w.cell? (y.add j) = some u := by
  have hjl : j < ks.length * 4 := by rw [← len_jb]; exact (List.getElem?_eq_some_iff.1 hj).1
  obtain ⟨i, r, hr, rfl⟩ : ∃ i r, r < 4 ∧ j = i * 4 + r := ⟨j / 4, j % 4, Nat.mod_lt _ (by decide), by omega⟩
  have hi : i < ks.length := by omega
  obtain ⟨k, hk⟩ : ∃ k, ks[i]? = some k := ⟨_, List.getElem?_eq_getElem hi⟩
  rw [flat_jb ks i r k hk hr] at hj
  have h := hc i k hk
  rcases Nat.eq_zero_or_pos r with rfl | hr0
  · simp [JbV.cs] at hj
    subst hj
    exact h.c0
  · have ea : y.add (i * 4 + r) = ⟨(y.add (i * 4)).block, (y.add (i * 4)).off + r, none⟩ := by
      unfold Addr.add
      rw [if_neg (by omega)]
      split <;> simp <;> omega
    rw [ea]
    match r, hr, hr0, hj with
    | 1, _, _, hj => simp [JbV.cs] at hj; subst hj; exact h.c1
    | 2, _, _, hj => simp [JbV.cs] at hj; subst hj; exact h.c2
    | 3, _, _, hj => simp [JbV.cs] at hj; subst hj; exact h.c3

theorem app_jbs {ops : Array Oper} {rest : List Oper} {o : Oper} {a : Act} {Q : Exit → Act → World → Prop} (w : World) (hgd : o.guard = none) (s x : Operand)
    (ho : o.op = .call { callee := .builtin .append, args := #[s, x], argTypes := #[27, 27] }) (base : Nat) (v : Value) (ks : List JbV) (hs : a.eval s = v) (hown : Jbo w base v ks)
    (u : Value) (ys : List JbV) (hx : a.eval x = u) (hu : Jbl w u ys) (hl : ks.length + ys.length ≤ 100000000) (hbase : base ≤ w.heap.size)
    (h : ∀ v' w', Jbo w' base v' (ks ++ ys) → w.grownBy w' v.ownBlock → (v'.ownBlock = v.ownBlock ∨ v'.ownBlock = some w.heap.size) → wpList Tryz.prog ops Q rest (a.put o.dst v') w') :
    wpList Tryz.prog ops Q (o :: rest) a w := by
  obtain ⟨i0, hi, hz0, hz1, hz2⟩ := info_parts info_jb
  obtain ⟨ad, c, rfl, h1, h2, h3⟩ := hu
  by_cases hn : ys = []
  · subst hn
    refine wpList_plain hgd fun K hK => ?_
    have hrun := run_append_no (P := Tryz.prog) (w := w) base 27 o.type 71 i0 4 Tryz.underlying27 hi v ks.length _ hown ad c
    have hx' : a.eval x = .slice ad 0 c := hx
    unfold Oper.wp
    simp [execOp, ho, resolve, invoke, builtin, hs, hx', hrun, Result.andThen]
    exact hK _ _ (h v w (by simpa using hown) (World.grownBy.refl _ _) (.inl rfl))
  · obtain ⟨y, rfl, hy, hc⟩ := h3 hn
    refine wpList_append_lies w hgd s x 27 ho base 71 i0 _ 4 32 Tryz.underlying27 hi hz0 hz1 hz2 rfl (by decide) v ks.length _ hs hown y ys.length c (ys.flatMap JbV.cs) hx (len_jb ys) (cell_jb hc) ?_ (List.length_pos_iff.2 hn) (by unfold maxLen; omega) (by omega) hbase _ rfl ?_
    · intro u hu
      obtain ⟨k, -, hk⟩ := List.mem_flatMap.1 hu
      simp [JbV.cs] at hk
      rcases hk with rfl | rfl | rfl | rfl <;> rfl
    · intro g cap w' k1 k2 k3 _
      refine h _ w' ?_ k2 ?_
      · unfold Jbo
        rw [List.length_append, List.flatMap_append]
        exact k1
      · rcases k3 with k3 | k3
        · exact .inl k3.symm
        · exact .inr (by rw [k3]; rfl)
end Go.Proofs.YteieikgkmfglaaaGreatDoor

namespace Go.Proofs.YteieikgkmfglaaaGreatDoor
open Go.RowKit
set_option linter.unusedVariables false

set_option maxHeartbeats 1000000 in
theorem fresh_ints (v : Value) (xs : List Int) (w : World) (h : Ro w v xs) (hl : xs.length ≤ 100000000) :
    Calls Tryz.prog 57 #[v] w fun e w' => ∃ u, e = .returned u ∧ Ow w' w.heap.size u xs ∧ Below w.heap.size w w' := by
  have H : Hid (Ro w v xs) := h
  clear h
  go_enter Tryz.func57, Tryz.ntmps57
  go_wp2_with (at_builtin; refine app_row _ rfl _ _ rfl w.heap.size _ [] rfl (Ow.nil _ _) _ xs rfl H.out (by simpa using Nat.le_trans hl (by decide)) (Nat.le_refl _) ?_)
  intro u w1 o1 g1 _
  have F : Hid (Ow w1 w.heap.size u xs ∧ Below w.heap.size w w1) := ⟨o1, (Below.refl _ _).grown g1 (Nat.le_refl _) (fun k hk => by cases hk)⟩
  clear o1 g1
  go_wp2
  go_ret
  exact ⟨_, rfl, F.out.1, F.out.2⟩
set_option maxHeartbeats 1000000 in
theorem fresh_uns (v : Value) (xs : List UnV) (w : World) (h : Unl w v xs) (hl : xs.length ≤ 100000000) :
    Calls Tryz.prog 58 #[v] w fun e w' => ∃ u, e = .returned u ∧ Uno w' w.heap.size u xs ∧ Below w.heap.size w w' := by
  have H : Hid (Unl w v xs) := h
  clear h
  go_enter Tryz.func58, Tryz.ntmps58
  go_wp2_with (at_builtin; refine app_uns _ rfl _ _ rfl w.heap.size _ [] rfl (Uno.nil _ _) _ xs rfl H.out (by simpa using Nat.le_trans hl (by decide)) (Nat.le_refl _) ?_)
  intro u w1 o1 g1 _
  have F : Hid (Uno w1 w.heap.size u xs ∧ Below w.heap.size w w1) := ⟨o1, (Below.refl _ _).grown g1 (Nat.le_refl _) (fun k hk => by cases hk)⟩
  clear o1 g1
  go_wp2
  go_ret
  exact ⟨_, rfl, F.out.1, F.out.2⟩
set_option maxHeartbeats 1000000 in
theorem fresh_jbs (v : Value) (xs : List JbV) (w : World) (h : Jbl w v xs) (hl : xs.length ≤ 100000000) :
    Calls Tryz.prog 59 #[v] w fun e w' => ∃ u, e = .returned u ∧ Jbo w' w.heap.size u xs ∧ Below w.heap.size w w' := by
  have H : Hid (Jbl w v xs) := h
  clear h
  go_enter Tryz.func59, Tryz.ntmps59
  go_wp2_with (at_builtin; refine app_jbs _ rfl _ _ rfl w.heap.size _ [] rfl (Jbo.nil _ _) _ xs rfl H.out (by simpa using Nat.le_trans hl (by decide)) (Nat.le_refl _) ?_)
  intro u w1 o1 g1 _
  have F : Hid (Jbo w1 w.heap.size u xs ∧ Below w.heap.size w w1) := ⟨o1, (Below.refl _ _).grown g1 (Nat.le_refl _) (fun k hk => by cases hk)⟩
  clear o1 g1
  go_wp2
  go_ret
  exact ⟨_, rfl, F.out.1, F.out.2⟩
set_option maxRecDepth 100000 in
set_option maxHeartbeats 4000000 in
theorem copy_any (v : Value) (W : WV) (w : World) (h : Wl w v W) (hl : WLen W) :
    Calls Tryz.prog 32 #[v] w fun e w' => ∃ u, e = .returned u ∧ Wi w' w.heap.size u W ∧ Below w.heap.size w w' := by
  have H : Hid (Wl w v W) := h
  have L : Hid (WLen W) := hl
  obtain ⟨u1, u2, u3, u4, u5, rfl, -, -, -, -, -⟩ := h
  clear hl
  go_enter Tryz.func32, Tryz.ntmps32
  go_upto_region 1 with fail
  have B0 : Hid (Below w.heap.size w ((w.alloc (.cells #[.int .i64 W.turn, .int .i64 W.next, .int .i64 W.wide, .int .i64 W.high, u1, u2, u3, u4, u5] 29)).alloc (.cells #[.int .i64 0, .int .i64 0, .int .i64 0, .int .i64 0, .slice none 0 0, .slice none 0 0, .slice none 0 0, .slice none 0 0, .slice none 0 0] 29))) := ((Below.refl _ _).alloc (Nat.le_refl _) _).alloc (by simp) _
  have X0 : Hid (Wx ((w.alloc (.cells #[.int .i64 W.turn, .int .i64 W.next, .int .i64 W.wide, .int .i64 W.high, u1, u2, u3, u4, u5] 29)).alloc (.cells #[.int .i64 0, .int .i64 0, .int .i64 0, .int .i64 0, .slice none 0 0, .slice none 0 0, .slice none 0 0, .slice none 0 0, .slice none 0 0] 29)) w.heap.size (.int .i64 W.turn) (.int .i64 W.next) (.int .i64 W.wide) (.int .i64 W.high) u1 u2 u3 u4 u5) := (Wx.new (w := w) _ _ _ _ _ _ _ _ _ rfl).below ((Below.refl _ _).alloc (Nat.le_refl _) _) (by simp)
  have Z0 : Hid (Wx ((w.alloc (.cells #[.int .i64 W.turn, .int .i64 W.next, .int .i64 W.wide, .int .i64 W.high, u1, u2, u3, u4, u5] 29)).alloc (.cells #[.int .i64 0, .int .i64 0, .int .i64 0, .int .i64 0, .slice none 0 0, .slice none 0 0, .slice none 0 0, .slice none 0 0, .slice none 0 0] 29)) (w.heap.size + 1) (.int .i64 0) (.int .i64 0) (.int .i64 0) (.int .i64 0) (.slice none 0 0) (.slice none 0 0) (.slice none 0 0) (.slice none 0 0) (.slice none 0 0)) := Wx.new _ _ _ _ _ _ _ _ _ (by simp)
  have S0 : Hid (w.heap.size + 2 ≤ ((w.alloc (.cells #[.int .i64 W.turn, .int .i64 W.next, .int .i64 W.wide, .int .i64 W.high, u1, u2, u3, u4, u5] 29)).alloc (.cells #[.int .i64 0, .int .i64 0, .int .i64 0, .int .i64 0, .slice none 0 0, .slice none 0 0, .slice none 0 0, .slice none 0 0, .slice none 0 0] 29)).heap.size) := by unfold Hid; simp
  generalize ((w.alloc (.cells #[.int .i64 W.turn, .int .i64 W.next, .int .i64 W.wide, .int .i64 W.high, u1, u2, u3, u4, u5] 29)).alloc (.cells #[.int .i64 0, .int .i64 0, .int .i64 0, .int .i64 0, .slice none 0 0, .slice none 0 0, .slice none 0 0, .slice none 0 0, .slice none 0 0] 29)) = w0 at *
  obtain ⟨x0, x1, x2, x3, x4, x5, x6, x7, x8⟩ := X0.out.cells
  go_wp2_with fail
  refine (fresh_ints _ W.gs w0 ((H.out.below B0.out).slices.1) L.out.g).mono ?_
  rintro e a1 ⟨v1, rfl, ho, hb⟩
  clear x0 x1 x2 x3 x4 x5 x6 x7 x8
  have BA : Hid (Below w.heap.size w a1) := B0.out.trans (hb.mono B0.out.size)
  have SA : Hid (w.heap.size + 2 ≤ a1.heap.size) := Nat.le_trans S0.out hb.size
  have XA : Hid (Wx a1 w.heap.size (.int .i64 W.turn) (.int .i64 W.next) (.int .i64 W.wide) (.int .i64 W.high) u1 u2 u3 u4 u5) := X0.out.below hb X0.out.lt
  have ZA : Hid (Wx a1 (w.heap.size + 1) (.int .i64 0) (.int .i64 0) (.int .i64 0) (.int .i64 0) (.slice none 0 0) (.slice none 0 0) (.slice none 0 0) (.slice none 0 0) (.slice none 0 0)) := Z0.out.below hb Z0.out.lt
  have OA : Hid (Ow a1 (w.heap.size + 2) v1 W.gs) := ho.mono S0.out
  obtain ⟨p1, q1, rfl⟩ := ho.len
  have t := XA.out.thaw 4
  obtain ⟨-, -, -, -, x, -, -, -, -⟩ := XA.out.cells
  clear hb ho 
  go_upto_region 2 with fail
  have KW : Hid (Kp w.heap.size a1 (a1.setCell ⟨w.heap.size, 4, none⟩ (.slice p1 W.gs.length q1))) := Kp.set _ _ _
  have X1 : Hid (Wx (a1.setCell ⟨w.heap.size, 4, none⟩ (.slice p1 W.gs.length q1)) w.heap.size (.int .i64 W.turn) (.int .i64 W.next) (.int .i64 W.wide) (.int .i64 W.high) (.slice p1 W.gs.length q1) u2 u3 u4 u5) := XA.out.set4 _
  clear t x XA X0 Z0
  generalize (a1.setCell ⟨w.heap.size, 4, none⟩ (.slice p1 W.gs.length q1)) = w1 at *
  have B1 : Hid (Below w.heap.size w w1) := KW.out.below BA.out BA.out.size (Nat.le_refl _)
  have S1 : Hid (w.heap.size + 2 ≤ w1.heap.size) := Nat.le_trans SA.out KW.out.size
  have Z1 : Hid (Wx w1 (w.heap.size + 1) (.int .i64 0) (.int .i64 0) (.int .i64 0) (.int .i64 0) (.slice none 0 0) (.slice none 0 0) (.slice none 0 0) (.slice none 0 0) (.slice none 0 0)) := ZA.out.kp KW.out (by omega)
  have P1_1 : Hid (Ow w1 (w.heap.size + 2) (.slice p1 W.gs.length q1) W.gs) := OA.out.kp KW.out (by omega)
  clear BA SA ZA OA KW 
  obtain ⟨x0, x1, x2, x3, x4, x5, x6, x7, x8⟩ := X1.out.cells
  go_wp2_with fail
  refine (fresh_ints _ W.os w1 ((H.out.below B1.out).slices.2.1) L.out.o).mono ?_
  rintro e a2 ⟨v2, rfl, ho, hb⟩
  clear x0 x1 x2 x3 x4 x5 x6 x7 x8
  have BA : Hid (Below w.heap.size w a2) := B1.out.trans (hb.mono B1.out.size)
  have SA : Hid (w.heap.size + 2 ≤ a2.heap.size) := Nat.le_trans S1.out hb.size
  have XA : Hid (Wx a2 w.heap.size (.int .i64 W.turn) (.int .i64 W.next) (.int .i64 W.wide) (.int .i64 W.high) (.slice p1 W.gs.length q1) u2 u3 u4 u5) := X1.out.below hb X1.out.lt
  have ZA : Hid (Wx a2 (w.heap.size + 1) (.int .i64 0) (.int .i64 0) (.int .i64 0) (.int .i64 0) (.slice none 0 0) (.slice none 0 0) (.slice none 0 0) (.slice none 0 0) (.slice none 0 0)) := Z1.out.below hb Z1.out.lt
  have OA : Hid (Ow a2 (w.heap.size + 2) v2 W.os) := ho.mono S1.out
  have PA1 : Hid (Ow a2 (w.heap.size + 2) (.slice p1 W.gs.length q1) W.gs) := P1_1.out.below hb
  have D1_2 : Hid (Dif (.slice p1 W.gs.length q1) v2) := Dif.of (fun k hk => (P1_1.out.block k hk).2) (fun k hk => (ho.block k hk).1)
  obtain ⟨p2, q2, rfl⟩ := ho.len
  have t := XA.out.thaw 5
  obtain ⟨-, -, -, -, -, x, -, -, -⟩ := XA.out.cells
  clear hb ho P1_1
  go_upto_region 3 with fail
  have KW : Hid (Kp w.heap.size a2 (a2.setCell ⟨w.heap.size, 5, none⟩ (.slice p2 W.os.length q2))) := Kp.set _ _ _
  have X2 : Hid (Wx (a2.setCell ⟨w.heap.size, 5, none⟩ (.slice p2 W.os.length q2)) w.heap.size (.int .i64 W.turn) (.int .i64 W.next) (.int .i64 W.wide) (.int .i64 W.high) (.slice p1 W.gs.length q1) (.slice p2 W.os.length q2) u3 u4 u5) := XA.out.set5 _
  clear t x XA X1 Z1
  generalize (a2.setCell ⟨w.heap.size, 5, none⟩ (.slice p2 W.os.length q2)) = w2 at *
  have B2 : Hid (Below w.heap.size w w2) := KW.out.below BA.out BA.out.size (Nat.le_refl _)
  have S2 : Hid (w.heap.size + 2 ≤ w2.heap.size) := Nat.le_trans SA.out KW.out.size
  have Z2 : Hid (Wx w2 (w.heap.size + 1) (.int .i64 0) (.int .i64 0) (.int .i64 0) (.int .i64 0) (.slice none 0 0) (.slice none 0 0) (.slice none 0 0) (.slice none 0 0) (.slice none 0 0)) := ZA.out.kp KW.out (by omega)
  have P2_2 : Hid (Ow w2 (w.heap.size + 2) (.slice p2 W.os.length q2) W.os) := OA.out.kp KW.out (by omega)
  have P1_2 : Hid (Ow w2 (w.heap.size + 2) (.slice p1 W.gs.length q1) W.gs) := PA1.out.kp KW.out (by omega)
  clear BA SA ZA OA KW PA1
  obtain ⟨x0, x1, x2, x3, x4, x5, x6, x7, x8⟩ := X2.out.cells
  go_wp2_with fail
  refine (fresh_ints _ W.gold w2 ((H.out.below B2.out).slices.2.2.1) L.out.p).mono ?_
  rintro e a3 ⟨v3, rfl, ho, hb⟩
  clear x0 x1 x2 x3 x4 x5 x6 x7 x8
  have BA : Hid (Below w.heap.size w a3) := B2.out.trans (hb.mono B2.out.size)
  have SA : Hid (w.heap.size + 2 ≤ a3.heap.size) := Nat.le_trans S2.out hb.size
  have XA : Hid (Wx a3 w.heap.size (.int .i64 W.turn) (.int .i64 W.next) (.int .i64 W.wide) (.int .i64 W.high) (.slice p1 W.gs.length q1) (.slice p2 W.os.length q2) u3 u4 u5) := X2.out.below hb X2.out.lt
  have ZA : Hid (Wx a3 (w.heap.size + 1) (.int .i64 0) (.int .i64 0) (.int .i64 0) (.int .i64 0) (.slice none 0 0) (.slice none 0 0) (.slice none 0 0) (.slice none 0 0) (.slice none 0 0)) := Z2.out.below hb Z2.out.lt
  have OA : Hid (Ow a3 (w.heap.size + 2) v3 W.gold) := ho.mono S2.out
  have PA1 : Hid (Ow a3 (w.heap.size + 2) (.slice p1 W.gs.length q1) W.gs) := P1_2.out.below hb
  have PA2 : Hid (Ow a3 (w.heap.size + 2) (.slice p2 W.os.length q2) W.os) := P2_2.out.below hb
  have D1_3 : Hid (Dif (.slice p1 W.gs.length q1) v3) := Dif.of (fun k hk => (P1_2.out.block k hk).2) (fun k hk => (ho.block k hk).1)
  have D2_3 : Hid (Dif (.slice p2 W.os.length q2) v3) := Dif.of (fun k hk => (P2_2.out.block k hk).2) (fun k hk => (ho.block k hk).1)
  obtain ⟨p3, q3, rfl⟩ := ho.len
  have t := XA.out.thaw 6
  obtain ⟨-, -, -, -, -, -, x, -, -⟩ := XA.out.cells
  clear hb ho P1_2 P2_2
  go_upto_region 4 with fail
  have KW : Hid (Kp w.heap.size a3 (a3.setCell ⟨w.heap.size, 6, none⟩ (.slice p3 W.gold.length q3))) := Kp.set _ _ _
  have X3 : Hid (Wx (a3.setCell ⟨w.heap.size, 6, none⟩ (.slice p3 W.gold.length q3)) w.heap.size (.int .i64 W.turn) (.int .i64 W.next) (.int .i64 W.wide) (.int .i64 W.high) (.slice p1 W.gs.length q1) (.slice p2 W.os.length q2) (.slice p3 W.gold.length q3) u4 u5) := XA.out.set6 _
  clear t x XA X2 Z2
  generalize (a3.setCell ⟨w.heap.size, 6, none⟩ (.slice p3 W.gold.length q3)) = w3 at *
  have B3 : Hid (Below w.heap.size w w3) := KW.out.below BA.out BA.out.size (Nat.le_refl _)
  have S3 : Hid (w.heap.size + 2 ≤ w3.heap.size) := Nat.le_trans SA.out KW.out.size
  have Z3 : Hid (Wx w3 (w.heap.size + 1) (.int .i64 0) (.int .i64 0) (.int .i64 0) (.int .i64 0) (.slice none 0 0) (.slice none 0 0) (.slice none 0 0) (.slice none 0 0) (.slice none 0 0)) := ZA.out.kp KW.out (by omega)
  have P3_3 : Hid (Ow w3 (w.heap.size + 2) (.slice p3 W.gold.length q3) W.gold) := OA.out.kp KW.out (by omega)
  have P1_3 : Hid (Ow w3 (w.heap.size + 2) (.slice p1 W.gs.length q1) W.gs) := PA1.out.kp KW.out (by omega)
  have P2_3 : Hid (Ow w3 (w.heap.size + 2) (.slice p2 W.os.length q2) W.os) := PA2.out.kp KW.out (by omega)
  clear BA SA ZA OA KW PA1 PA2
  obtain ⟨x0, x1, x2, x3, x4, x5, x6, x7, x8⟩ := X3.out.cells
  go_wp2_with fail
  refine (fresh_uns _ W.us w3 ((H.out.below B3.out).slices.2.2.2.1) L.out.u).mono ?_
  rintro e a4 ⟨v4, rfl, ho, hb⟩
  clear x0 x1 x2 x3 x4 x5 x6 x7 x8
  have BA : Hid (Below w.heap.size w a4) := B3.out.trans (hb.mono B3.out.size)
  have SA : Hid (w.heap.size + 2 ≤ a4.heap.size) := Nat.le_trans S3.out hb.size
  have XA : Hid (Wx a4 w.heap.size (.int .i64 W.turn) (.int .i64 W.next) (.int .i64 W.wide) (.int .i64 W.high) (.slice p1 W.gs.length q1) (.slice p2 W.os.length q2) (.slice p3 W.gold.length q3) u4 u5) := X3.out.below hb X3.out.lt
  have ZA : Hid (Wx a4 (w.heap.size + 1) (.int .i64 0) (.int .i64 0) (.int .i64 0) (.int .i64 0) (.slice none 0 0) (.slice none 0 0) (.slice none 0 0) (.slice none 0 0) (.slice none 0 0)) := Z3.out.below hb Z3.out.lt
  have OA : Hid (Uno a4 (w.heap.size + 2) v4 W.us) := ho.mono S3.out
  have PA1 : Hid (Ow a4 (w.heap.size + 2) (.slice p1 W.gs.length q1) W.gs) := P1_3.out.below hb
  have PA2 : Hid (Ow a4 (w.heap.size + 2) (.slice p2 W.os.length q2) W.os) := P2_3.out.below hb
  have PA3 : Hid (Ow a4 (w.heap.size + 2) (.slice p3 W.gold.length q3) W.gold) := P3_3.out.below hb
  have D1_4 : Hid (Dif (.slice p1 W.gs.length q1) v4) := Dif.of (fun k hk => (P1_3.out.block k hk).2) (fun k hk => (ho.block k hk).1)
  have D2_4 : Hid (Dif (.slice p2 W.os.length q2) v4) := Dif.of (fun k hk => (P2_3.out.block k hk).2) (fun k hk => (ho.block k hk).1)
  have D3_4 : Hid (Dif (.slice p3 W.gold.length q3) v4) := Dif.of (fun k hk => (P3_3.out.block k hk).2) (fun k hk => (ho.block k hk).1)
  obtain ⟨p4, q4, rfl⟩ := ho.len
  have t := XA.out.thaw 7
  obtain ⟨-, -, -, -, -, -, -, x, -⟩ := XA.out.cells
  clear hb ho P1_3 P2_3 P3_3
  go_upto_region 5 with fail
  have KW : Hid (Kp w.heap.size a4 (a4.setCell ⟨w.heap.size, 7, none⟩ (.slice p4 W.us.length q4))) := Kp.set _ _ _
  have X4 : Hid (Wx (a4.setCell ⟨w.heap.size, 7, none⟩ (.slice p4 W.us.length q4)) w.heap.size (.int .i64 W.turn) (.int .i64 W.next) (.int .i64 W.wide) (.int .i64 W.high) (.slice p1 W.gs.length q1) (.slice p2 W.os.length q2) (.slice p3 W.gold.length q3) (.slice p4 W.us.length q4) u5) := XA.out.set7 _
  clear t x XA X3 Z3
  generalize (a4.setCell ⟨w.heap.size, 7, none⟩ (.slice p4 W.us.length q4)) = w4 at *
  have B4 : Hid (Below w.heap.size w w4) := KW.out.below BA.out BA.out.size (Nat.le_refl _)
  have S4 : Hid (w.heap.size + 2 ≤ w4.heap.size) := Nat.le_trans SA.out KW.out.size
  have Z4 : Hid (Wx w4 (w.heap.size + 1) (.int .i64 0) (.int .i64 0) (.int .i64 0) (.int .i64 0) (.slice none 0 0) (.slice none 0 0) (.slice none 0 0) (.slice none 0 0) (.slice none 0 0)) := ZA.out.kp KW.out (by omega)
  have P4_4 : Hid (Uno w4 (w.heap.size + 2) (.slice p4 W.us.length q4) W.us) := OA.out.kp KW.out (by omega)
  have P1_4 : Hid (Ow w4 (w.heap.size + 2) (.slice p1 W.gs.length q1) W.gs) := PA1.out.kp KW.out (by omega)
  have P2_4 : Hid (Ow w4 (w.heap.size + 2) (.slice p2 W.os.length q2) W.os) := PA2.out.kp KW.out (by omega)
  have P3_4 : Hid (Ow w4 (w.heap.size + 2) (.slice p3 W.gold.length q3) W.gold) := PA3.out.kp KW.out (by omega)
  clear BA SA ZA OA KW PA1 PA2 PA3
  obtain ⟨x0, x1, x2, x3, x4, x5, x6, x7, x8⟩ := X4.out.cells
  go_wp2_with fail
  refine (fresh_jbs _ W.qs w4 ((H.out.below B4.out).slices.2.2.2.2) L.out.q).mono ?_
  rintro e a5 ⟨v5, rfl, ho, hb⟩
  clear x0 x1 x2 x3 x4 x5 x6 x7 x8
  have BA : Hid (Below w.heap.size w a5) := B4.out.trans (hb.mono B4.out.size)
  have SA : Hid (w.heap.size + 2 ≤ a5.heap.size) := Nat.le_trans S4.out hb.size
  have XA : Hid (Wx a5 w.heap.size (.int .i64 W.turn) (.int .i64 W.next) (.int .i64 W.wide) (.int .i64 W.high) (.slice p1 W.gs.length q1) (.slice p2 W.os.length q2) (.slice p3 W.gold.length q3) (.slice p4 W.us.length q4) u5) := X4.out.below hb X4.out.lt
  have ZA : Hid (Wx a5 (w.heap.size + 1) (.int .i64 0) (.int .i64 0) (.int .i64 0) (.int .i64 0) (.slice none 0 0) (.slice none 0 0) (.slice none 0 0) (.slice none 0 0) (.slice none 0 0)) := Z4.out.below hb Z4.out.lt
  have OA : Hid (Jbo a5 (w.heap.size + 2) v5 W.qs) := ho.mono S4.out
  have PA1 : Hid (Ow a5 (w.heap.size + 2) (.slice p1 W.gs.length q1) W.gs) := P1_4.out.below hb
  have PA2 : Hid (Ow a5 (w.heap.size + 2) (.slice p2 W.os.length q2) W.os) := P2_4.out.below hb
  have PA3 : Hid (Ow a5 (w.heap.size + 2) (.slice p3 W.gold.length q3) W.gold) := P3_4.out.below hb
  have PA4 : Hid (Uno a5 (w.heap.size + 2) (.slice p4 W.us.length q4) W.us) := P4_4.out.below hb
  have D1_5 : Hid (Dif (.slice p1 W.gs.length q1) v5) := Dif.of (fun k hk => (P1_4.out.block k hk).2) (fun k hk => (ho.block k hk).1)
  have D2_5 : Hid (Dif (.slice p2 W.os.length q2) v5) := Dif.of (fun k hk => (P2_4.out.block k hk).2) (fun k hk => (ho.block k hk).1)
  have D3_5 : Hid (Dif (.slice p3 W.gold.length q3) v5) := Dif.of (fun k hk => (P3_4.out.block k hk).2) (fun k hk => (ho.block k hk).1)
  have D4_5 : Hid (Dif (.slice p4 W.us.length q4) v5) := Dif.of (fun k hk => (P4_4.out.block k hk).2) (fun k hk => (ho.block k hk).1)
  obtain ⟨p5, q5, rfl⟩ := ho.len
  have t := XA.out.thaw 8
  obtain ⟨-, -, -, -, -, -, -, -, x⟩ := XA.out.cells
  clear hb ho P1_4 P2_4 P3_4 P4_4
  go_upto_region 6 with fail
  have KW : Hid (Kp w.heap.size a5 (a5.setCell ⟨w.heap.size, 8, none⟩ (.slice p5 W.qs.length q5))) := Kp.set _ _ _
  have X5 : Hid (Wx (a5.setCell ⟨w.heap.size, 8, none⟩ (.slice p5 W.qs.length q5)) w.heap.size (.int .i64 W.turn) (.int .i64 W.next) (.int .i64 W.wide) (.int .i64 W.high) (.slice p1 W.gs.length q1) (.slice p2 W.os.length q2) (.slice p3 W.gold.length q3) (.slice p4 W.us.length q4) (.slice p5 W.qs.length q5)) := XA.out.set8 _
  clear t x XA X4 Z4
  generalize (a5.setCell ⟨w.heap.size, 8, none⟩ (.slice p5 W.qs.length q5)) = w5 at *
  have B5 : Hid (Below w.heap.size w w5) := KW.out.below BA.out BA.out.size (Nat.le_refl _)
  have S5 : Hid (w.heap.size + 2 ≤ w5.heap.size) := Nat.le_trans SA.out KW.out.size
  have Z5 : Hid (Wx w5 (w.heap.size + 1) (.int .i64 0) (.int .i64 0) (.int .i64 0) (.int .i64 0) (.slice none 0 0) (.slice none 0 0) (.slice none 0 0) (.slice none 0 0) (.slice none 0 0)) := ZA.out.kp KW.out (by omega)
  have P5_5 : Hid (Jbo w5 (w.heap.size + 2) (.slice p5 W.qs.length q5) W.qs) := OA.out.kp KW.out (by omega)
  have P1_5 : Hid (Ow w5 (w.heap.size + 2) (.slice p1 W.gs.length q1) W.gs) := PA1.out.kp KW.out (by omega)
  have P2_5 : Hid (Ow w5 (w.heap.size + 2) (.slice p2 W.os.length q2) W.os) := PA2.out.kp KW.out (by omega)
  have P3_5 : Hid (Ow w5 (w.heap.size + 2) (.slice p3 W.gold.length q3) W.gold) := PA3.out.kp KW.out (by omega)
  have P4_5 : Hid (Uno w5 (w.heap.size + 2) (.slice p4 W.us.length q4) W.us) := PA4.out.kp KW.out (by omega)
  clear BA SA ZA OA KW PA1 PA2 PA3 PA4
  obtain ⟨x0, x1, x2, x3, x4, x5, x6, x7, x8⟩ := X5.out.cells
  obtain ⟨z0, z1, z2, z3, z4, z5, z6, z7, z8⟩ := Z5.out.cells
  obtain ⟨t0, t1, t2, t3, t4, t5, t6, t7, t8⟩ := Z5.out.thaws
  have KZ : Hid (Kp (w.heap.size + 1) w5 (((((((((w5.setCell ⟨w.heap.size + 1, 0, none⟩ (.int .i64 W.turn)).setCell ⟨w.heap.size + 1, 1, none⟩ (.int .i64 W.next)).setCell ⟨w.heap.size + 1, 2, none⟩ (.int .i64 W.wide)).setCell ⟨w.heap.size + 1, 3, none⟩ (.int .i64 W.high)).setCell ⟨w.heap.size + 1, 4, none⟩ (.slice p1 W.gs.length q1)).setCell ⟨w.heap.size + 1, 5, none⟩ (.slice p2 W.os.length q2)).setCell ⟨w.heap.size + 1, 6, none⟩ (.slice p3 W.gold.length q3)).setCell ⟨w.heap.size + 1, 7, none⟩ (.slice p4 W.us.length q4)).setCell ⟨w.heap.size + 1, 8, none⟩ (.slice p5 W.qs.length q5))) := put_kp _ _ _ _ _ _ _ _ _ _ _
  obtain ⟨y0, y1, y2, y3, y4, y5, y6, y7, y8⟩ := (Z5.out.put (.int .i64 W.turn) (.int .i64 W.next) (.int .i64 W.wide) (.int .i64 W.high) (.slice p1 W.gs.length q1) (.slice p2 W.os.length q2) (.slice p3 W.gold.length q3) (.slice p4 W.us.length q4) (.slice p5 W.qs.length q5)).cells
  go_wp2
  clear x0 x1 x2 x3 x4 x5 x6 x7 x8 z0 z1 z2 z3 z4 z5 z6 z7 z8 t0 t1 t2 t3 t4 t5 t6 t7 t8
  have s0 := S5.out
  generalize (((((((((w5.setCell ⟨w.heap.size + 1, 0, none⟩ (.int .i64 W.turn)).setCell ⟨w.heap.size + 1, 1, none⟩ (.int .i64 W.next)).setCell ⟨w.heap.size + 1, 2, none⟩ (.int .i64 W.wide)).setCell ⟨w.heap.size + 1, 3, none⟩ (.int .i64 W.high)).setCell ⟨w.heap.size + 1, 4, none⟩ (.slice p1 W.gs.length q1)).setCell ⟨w.heap.size + 1, 5, none⟩ (.slice p2 W.os.length q2)).setCell ⟨w.heap.size + 1, 6, none⟩ (.slice p3 W.gold.length q3)).setCell ⟨w.heap.size + 1, 7, none⟩ (.slice p4 W.us.length q4)).setCell ⟨w.heap.size + 1, 8, none⟩ (.slice p5 W.qs.length q5)) = w9 at *
  refine bodyPost_ret (v := .agg #[.int .i64 W.turn, .int .i64 W.next, .int .i64 W.wide, .int .i64 W.high, .slice p1 W.gs.length q1, .slice p2 W.os.length q2, .slice p3 W.gold.length q3, .slice p4 W.us.length q4, .slice p5 W.qs.length q5]) (by simp [results, Tryz.results32, go_sem, y0, y1, y2, y3, y4, y5, y6, y7, y8]) rfl ⟨_, rfl, ⟨_, _, _, _, _, rfl, ⟨(P1_5.out.kp KZ.out (by omega)).mono (by omega), (P2_5.out.kp KZ.out (by omega)).mono (by omega), (P3_5.out.kp KZ.out (by omega)).mono (by omega), (P4_5.out.kp KZ.out (by omega)).mono (by omega), (P5_5.out.kp KZ.out (by omega)).mono (by omega)⟩, D1_2.out, D1_3.out, D1_4.out, D1_5.out, D2_3.out, D2_4.out, D2_5.out, D3_4.out, D3_5.out, D4_5.out⟩, KZ.out.below B5.out B5.out.size (by omega)⟩
end Go.Proofs.YteieikgkmfglaaaGreatDoor

namespace Go.Proofs.YteieikgkmfglaaaGreatDoor
open Go.RowKit
set_option linter.unusedVariables false

/-- a field's four cells, in a block of their own. -/
def Fx (w : World) (z : Nat) (c0 c1 c2 c3 : Value) : Prop := w.heap[z]? = some (.cells #[c0, c1, c2, c3] 25 (0, 0))
theorem Fx.lt {w : World} {z : Nat} {c0 c1 c2 c3 : Value} (h : Fx w z c0 c1 c2 c3) : z < w.heap.size := lt_of_block h
theorem Fx.cells {w : World} {z : Nat} {c0 c1 c2 c3 : Value} (h : Fx w z c0 c1 c2 c3) : w.cell? ⟨z, 0, none⟩ = some c0 ∧ w.cell? ⟨z, 1, none⟩ = some c1 ∧ w.cell? ⟨z, 2, none⟩ = some c2 ∧ w.cell? ⟨z, 3, none⟩ = some c3 := by
  unfold Fx at h
  refine ⟨?_, ?_, ?_, ?_⟩ <;> simp [World.cell?, h]
theorem Fx.thaw {w : World} {z : Nat} {c0 c1 c2 c3 : Value} (h : Fx w z c0 c1 c2 c3) (i : Nat) : w.frozen? ⟨z, i, none⟩ = false := by
  unfold Fx at h
  simp [World.frozen?, h]
theorem Fx.new {w : World} {z : Nat} (c0 c1 c2 c3 : Value) (hz : w.heap.size = z) : Fx (w.alloc (.cells #[c0, c1, c2, c3] 25)) z c0 c1 c2 c3 := by
  subst hz
  exact heap_alloc_new _ _
theorem Fx.below {w w' : World} {z n : Nat} {c0 c1 c2 c3 : Value} (h : Fx w z c0 c1 c2 c3) (hb : Below n w w') (hn : z < n) : Fx w' z c0 c1 c2 c3 := (hb.block z hn).trans h
theorem Fx.kp {w w' : World} {z y : Nat} {c0 c1 c2 c3 : Value} (h : Fx w z c0 c1 c2 c3) (k : Kp y w w') (hn : z ≠ y) : Fx w' z c0 c1 c2 c3 := (k.block z h.lt hn).trans h
theorem Fx.set0 {w : World} {z : Nat} {c0 c1 c2 c3 : Value} (h : Fx w z c0 c1 c2 c3) (u : Value) : Fx (w.setCell ⟨z, 0, none⟩ u) z u c1 c2 c3 := heap_setCell_same w z 0 _ _ u h
theorem Fx.set1 {w : World} {z : Nat} {c0 c1 c2 c3 : Value} (h : Fx w z c0 c1 c2 c3) (u : Value) : Fx (w.setCell ⟨z, 1, none⟩ u) z c0 u c2 c3 := heap_setCell_same w z 1 _ _ u h
theorem Fx.set2 {w : World} {z : Nat} {c0 c1 c2 c3 : Value} (h : Fx w z c0 c1 c2 c3) (u : Value) : Fx (w.setCell ⟨z, 2, none⟩ u) z c0 c1 u c3 := heap_setCell_same w z 2 _ _ u h
theorem Fx.set3 {w : World} {z : Nat} {c0 c1 c2 c3 : Value} (h : Fx w z c0 c1 c2 c3) (u : Value) : Fx (w.setCell ⟨z, 3, none⟩ u) z c0 c1 c2 u := heap_setCell_same w z 3 _ _ u h
theorem owns_kpn {z : Nat} {w w' : World} {base : Nat} {T : TypeId} {size : Nat} {u : Value} {n : Nat} {cs : List Value} (h : w.ownsRow base T size u n cs) (k : Kp z w w') (hz : ∀ b, u.ownBlock = some b → b ≠ z) : w'.ownsRow base T size u n cs := by
  refine ⟨h.1, ?_⟩
  rcases h.2 with h1 | ⟨g, cap, cur, h1, h2, h3, h4⟩
  · exact .inl h1
  · exact .inr ⟨g, cap, cur, h1, h2, (k.block g (lt_of_block h3) (hz g (by rw [h1]; rfl))).trans h3, h4⟩
theorem Bw.kp {w w' : World} {z y : Nat} {W : WV} {u1 u2 u3 u4 u5 : Value} (h : Bw w z W u1 u2 u3 u4 u5) (k : Kp y w w') (hn : z ≠ y) : Bw w' z W u1 u2 u3 u4 u5 := by
  have hz := h.lt
  have hc : ∀ i, w'.cell? ⟨z, i, none⟩ = w.cell? ⟨z, i, none⟩ := fun i => by
    have := k.block z hz hn
    simp only [World.cell?, this]
  exact ⟨by rw [hc]; exact h.c0, by rw [hc]; exact h.c1, by rw [hc]; exact h.c2, by rw [hc]; exact h.c3, by rw [hc]; exact h.c4, by rw [hc]; exact h.c5, by rw [hc]; exact h.c6, by rw [hc]; exact h.c7, by rw [hc]; exact h.c8⟩
set_option maxRecDepth 100000 in
set_option maxHeartbeats 8000000 in
theorem rcopy_any (v : Value) (W : WV) (w : World) (h : Wl w v W) (hl : WLen W) :
    Calls Tryz.prog 23 #[v] w fun e w' => ∃ u, e = .returned u ∧ Wi w' w.heap.size u W ∧ Below w.heap.size w w' := by
  have H : Hid (Wl w v W) := h
  have L : Hid (WLen W) := hl
  obtain ⟨u1, u2, u3, u4, u5, rfl, -, -, -, -, -⟩ := h
  clear hl
  go_enter Tryz.func23, Tryz.ntmps23
  go_upto_region 2 with fail
  have B0 : Hid (Below w.heap.size w (((w.alloc (.cells #[.int .i64 W.turn, .int .i64 W.next, .int .i64 W.wide, .int .i64 W.high, u1, u2, u3, u4, u5] 29)).alloc (.cells #[.int .i64 0, .int .i64 0, .int .i64 0, .int .i64 0, .slice none 0 0, .slice none 0 0, .slice none 0 0, .slice none 0 0, .slice none 0 0] 29)).alloc (.cells #[.int .i64 0, .int .i64 0, .slice none 0 0, .slice none 0 0] 25))) := (((Below.refl _ _).alloc (Nat.le_refl _) _).alloc (by simp) _).alloc (by simp; omega) _
  have X0 : Hid (Bw (((w.alloc (.cells #[.int .i64 W.turn, .int .i64 W.next, .int .i64 W.wide, .int .i64 W.high, u1, u2, u3, u4, u5] 29)).alloc (.cells #[.int .i64 0, .int .i64 0, .int .i64 0, .int .i64 0, .slice none 0 0, .slice none 0 0, .slice none 0 0, .slice none 0 0, .slice none 0 0] 29)).alloc (.cells #[.int .i64 0, .int .i64 0, .slice none 0 0, .slice none 0 0] 25)) w.heap.size W u1 u2 u3 u4 u5) := ((Bw.mk' (w := w) W u1 u2 u3 u4 u5 rfl).below ((Below.refl _ _).alloc (Nat.le_refl _) _) (by simp)).below ((Below.refl _ _).alloc (Nat.le_refl _) _) (by simp; omega)
  have R0 : Hid (Wx (((w.alloc (.cells #[.int .i64 W.turn, .int .i64 W.next, .int .i64 W.wide, .int .i64 W.high, u1, u2, u3, u4, u5] 29)).alloc (.cells #[.int .i64 0, .int .i64 0, .int .i64 0, .int .i64 0, .slice none 0 0, .slice none 0 0, .slice none 0 0, .slice none 0 0, .slice none 0 0] 29)).alloc (.cells #[.int .i64 0, .int .i64 0, .slice none 0 0, .slice none 0 0] 25)) (w.heap.size + 1) (.int .i64 0) (.int .i64 0) (.int .i64 0) (.int .i64 0) (.slice none 0 0) (.slice none 0 0) (.slice none 0 0) (.slice none 0 0) (.slice none 0 0)) := (Wx.new _ _ _ _ _ _ _ _ _ (by simp)).below ((Below.refl _ _).alloc (Nat.le_refl _) _) (by simp)
  have F0 : Hid (Fx (((w.alloc (.cells #[.int .i64 W.turn, .int .i64 W.next, .int .i64 W.wide, .int .i64 W.high, u1, u2, u3, u4, u5] 29)).alloc (.cells #[.int .i64 0, .int .i64 0, .int .i64 0, .int .i64 0, .slice none 0 0, .slice none 0 0, .slice none 0 0, .slice none 0 0, .slice none 0 0] 29)).alloc (.cells #[.int .i64 0, .int .i64 0, .slice none 0 0, .slice none 0 0] 25)) (w.heap.size + 1 + 1) (.int .i64 0) (.int .i64 0) (.slice none 0 0) (.slice none 0 0)) := Fx.new _ _ _ _ (by simp)
  have S0 : Hid (w.heap.size + 3 ≤ (((w.alloc (.cells #[.int .i64 W.turn, .int .i64 W.next, .int .i64 W.wide, .int .i64 W.high, u1, u2, u3, u4, u5] 29)).alloc (.cells #[.int .i64 0, .int .i64 0, .int .i64 0, .int .i64 0, .slice none 0 0, .slice none 0 0, .slice none 0 0, .slice none 0 0, .slice none 0 0] 29)).alloc (.cells #[.int .i64 0, .int .i64 0, .slice none 0 0, .slice none 0 0] 25)).heap.size) := by unfold Hid; simp
  generalize (((w.alloc (.cells #[.int .i64 W.turn, .int .i64 W.next, .int .i64 W.wide, .int .i64 W.high, u1, u2, u3, u4, u5] 29)).alloc (.cells #[.int .i64 0, .int .i64 0, .int .i64 0, .int .i64 0, .slice none 0 0, .slice none 0 0, .slice none 0 0, .slice none 0 0, .slice none 0 0] 29)).alloc (.cells #[.int .i64 0, .int .i64 0, .slice none 0 0, .slice none 0 0] 25)) = w0 at *
  have t := F0.out.thaw 0
  obtain ⟨x, -, -, -⟩ := F0.out.cells
  have y := X0.out.c2
  go_upto_region 3 with fail
  have KW : Hid (Kp (w.heap.size + 1 + 1) w0 (w0.setCell ⟨(w.heap.size + 1 + 1), 0, none⟩ (.int .i64 W.wide))) := Kp.set _ _ _
  have F1 : Hid (Fx (w0.setCell ⟨(w.heap.size + 1 + 1), 0, none⟩ (.int .i64 W.wide)) (w.heap.size + 1 + 1) (.int .i64 W.wide) (.int .i64 0) (.slice none 0 0) (.slice none 0 0)) := F0.out.set0 _
  clear t x y
  generalize (w0.setCell ⟨(w.heap.size + 1 + 1), 0, none⟩ (.int .i64 W.wide)) = w1 at *
  have B1 : Hid (Below w.heap.size w w1) := KW.out.below B0.out B0.out.size (by omega)
  have X1 : Hid (Bw w1 w.heap.size W u1 u2 u3 u4 u5) := X0.out.kp KW.out (by omega)
  have R1 : Hid (Wx w1 (w.heap.size + 1) (.int .i64 0) (.int .i64 0) (.int .i64 0) (.int .i64 0) (.slice none 0 0) (.slice none 0 0) (.slice none 0 0) (.slice none 0 0) (.slice none 0 0)) := R0.out.kp KW.out (by omega)
  have S1 : Hid (w.heap.size + 3 ≤ w1.heap.size) := Nat.le_trans S0.out KW.out.size
  clear KW B0 X0 R0 S0
  have t := F1.out.thaw 1
  obtain ⟨-, x, -, -⟩ := F1.out.cells
  have y := X1.out.c3
  go_upto_region 4 with fail
  have KW : Hid (Kp (w.heap.size + 1 + 1) w1 (w1.setCell ⟨(w.heap.size + 1 + 1), 1, none⟩ (.int .i64 W.high))) := Kp.set _ _ _
  have F2 : Hid (Fx (w1.setCell ⟨(w.heap.size + 1 + 1), 1, none⟩ (.int .i64 W.high)) (w.heap.size + 1 + 1) (.int .i64 W.wide) (.int .i64 W.high) (.slice none 0 0) (.slice none 0 0)) := F1.out.set1 _
  clear t x y
  generalize (w1.setCell ⟨(w.heap.size + 1 + 1), 1, none⟩ (.int .i64 W.high)) = w2 at *
  have B2 : Hid (Below w.heap.size w w2) := KW.out.below B1.out B1.out.size (by omega)
  have X2 : Hid (Bw w2 w.heap.size W u1 u2 u3 u4 u5) := X1.out.kp KW.out (by omega)
  have R2 : Hid (Wx w2 (w.heap.size + 1) (.int .i64 0) (.int .i64 0) (.int .i64 0) (.int .i64 0) (.slice none 0 0) (.slice none 0 0) (.slice none 0 0) (.slice none 0 0) (.slice none 0 0)) := R1.out.kp KW.out (by omega)
  have S2 : Hid (w.heap.size + 3 ≤ w2.heap.size) := Nat.le_trans S1.out KW.out.size
  clear KW B1 X1 R1 S1
  obtain ⟨-, -, x, -⟩ := F2.out.cells
  have y := X2.out.c4
  go_wp2_with (at_builtin; refine app_row _ rfl _ _ rfl (w.heap.size + 3) _ [] rfl (Ow.nil _ _) _ W.gs rfl ((H.out.below B2.out).slices.1) (by have := L.out.g; simp only [List.length_nil]; omega) S2.out ?_)
  intro v0 a0 on gn dn
  have BG : Hid (Below w2.heap.size w2 a0) := (Below.refl _ _).grown gn (Nat.le_refl _) (fun k hk => by cases hk)
  try rw [List.nil_append] at on
  have BA : Hid (Below w.heap.size w a0) := B2.out.trans (BG.out.mono B2.out.size)
  have XA : Hid (Bw a0 w.heap.size W u1 u2 u3 u4 u5) := X2.out.below BG.out X2.out.lt
  have RA : Hid (Wx a0 (w.heap.size + 1) (.int .i64 0) (.int .i64 0) (.int .i64 0) (.int .i64 0) (.slice none 0 0) (.slice none 0 0) (.slice none 0 0) (.slice none 0 0) (.slice none 0 0)) := R2.out.below BG.out R2.out.lt
  have FA : Hid (Fx a0 (w.heap.size + 1 + 1) (.int .i64 W.wide) (.int .i64 W.high) (.slice none 0 0) (.slice none 0 0)) := F2.out.below BG.out F2.out.lt
  have SA : Hid (w.heap.size + 3 ≤ a0.heap.size) := Nat.le_trans S2.out BG.out.size
  have P0A : Hid (Ow a0 (w.heap.size + 3) v0 W.gs) := on
  obtain ⟨p0, q0, rfl⟩ := on.len
  clear gn dn on BG x y B2 X2 R2 F2 S2 
  have t := FA.out.thaw 2
  obtain ⟨-, -, x, -⟩ := FA.out.cells
  go_upto_region 5 with fail
  have KW : Hid (Kp (w.heap.size + 1 + 1) a0 (a0.setCell ⟨(w.heap.size + 1 + 1), 2, none⟩ (.slice p0 W.gs.length q0))) := Kp.set _ _ _
  have F3 : Hid (Fx (a0.setCell ⟨(w.heap.size + 1 + 1), 2, none⟩ (.slice p0 W.gs.length q0)) (w.heap.size + 1 + 1) (.int .i64 W.wide) (.int .i64 W.high) (.slice p0 W.gs.length q0) (.slice none 0 0)) := FA.out.set2 _
  clear t x FA
  generalize (a0.setCell ⟨(w.heap.size + 1 + 1), 2, none⟩ (.slice p0 W.gs.length q0)) = w3 at *
  have B3 : Hid (Below w.heap.size w w3) := KW.out.below BA.out BA.out.size (by omega)
  have X3 : Hid (Bw w3 w.heap.size W u1 u2 u3 u4 u5) := XA.out.kp KW.out (by omega)
  have R3 : Hid (Wx w3 (w.heap.size + 1) (.int .i64 0) (.int .i64 0) (.int .i64 0) (.int .i64 0) (.slice none 0 0) (.slice none 0 0) (.slice none 0 0) (.slice none 0 0) (.slice none 0 0)) := RA.out.kp KW.out (by omega)
  have S3 : Hid (w.heap.size + 3 ≤ w3.heap.size) := Nat.le_trans SA.out KW.out.size
  have P0_3 : Hid (Ow w3 (w.heap.size + 3) (.slice p0 W.gs.length q0) W.gs) := owns_kpn P0A.out KW.out (fun b hb => by have := (P0A.out.block b hb).1; omega)
  clear KW BA XA RA SA P0A
  obtain ⟨-, -, -, x⟩ := F3.out.cells
  have y := X3.out.c5
  go_wp2_with (at_builtin; refine app_row _ rfl _ _ rfl (w.heap.size + 3) _ [] rfl (Ow.nil _ _) _ W.os rfl ((H.out.below B3.out).slices.2.1) (by have := L.out.o; simp only [List.length_nil]; omega) S3.out ?_)
  intro v1 a1 on gn dn
  have BG : Hid (Below w3.heap.size w3 a1) := (Below.refl _ _).grown gn (Nat.le_refl _) (fun k hk => by cases hk)
  try rw [List.nil_append] at on
  have BA : Hid (Below w.heap.size w a1) := B3.out.trans (BG.out.mono B3.out.size)
  have XA : Hid (Bw a1 w.heap.size W u1 u2 u3 u4 u5) := X3.out.below BG.out X3.out.lt
  have RA : Hid (Wx a1 (w.heap.size + 1) (.int .i64 0) (.int .i64 0) (.int .i64 0) (.int .i64 0) (.slice none 0 0) (.slice none 0 0) (.slice none 0 0) (.slice none 0 0) (.slice none 0 0)) := R3.out.below BG.out R3.out.lt
  have FA : Hid (Fx a1 (w.heap.size + 1 + 1) (.int .i64 W.wide) (.int .i64 W.high) (.slice p0 W.gs.length q0) (.slice none 0 0)) := F3.out.below BG.out F3.out.lt
  have SA : Hid (w.heap.size + 3 ≤ a1.heap.size) := Nat.le_trans S3.out BG.out.size
  have P0A : Hid (Ow a1 (w.heap.size + 3) (.slice p0 W.gs.length q0) W.gs) := P0_3.out.below BG.out
  have D0_1 : Hid (Dif (.slice p0 W.gs.length q0) v1) := Dif.of (n := w3.heap.size) (fun b hb => (P0_3.out.block b hb).2) (fun b hb => by
    rcases dn with dn | dn
    · rw [hb] at dn; cases dn
    · rw [hb] at dn; injection dn with dn; omega)
  have P1A : Hid (Ow a1 (w.heap.size + 3) v1 W.os) := on
  obtain ⟨p1, q1, rfl⟩ := on.len
  clear gn dn on BG x y B3 X3 R3 F3 S3 P0_3
  have t := FA.out.thaw 3
  obtain ⟨-, -, -, x⟩ := FA.out.cells
  go_upto_region 6 with fail
  have KW : Hid (Kp (w.heap.size + 1 + 1) a1 (a1.setCell ⟨(w.heap.size + 1 + 1), 3, none⟩ (.slice p1 W.os.length q1))) := Kp.set _ _ _
  have F4 : Hid (Fx (a1.setCell ⟨(w.heap.size + 1 + 1), 3, none⟩ (.slice p1 W.os.length q1)) (w.heap.size + 1 + 1) (.int .i64 W.wide) (.int .i64 W.high) (.slice p0 W.gs.length q0) (.slice p1 W.os.length q1)) := FA.out.set3 _
  clear t x FA
  generalize (a1.setCell ⟨(w.heap.size + 1 + 1), 3, none⟩ (.slice p1 W.os.length q1)) = w4 at *
  have B4 : Hid (Below w.heap.size w w4) := KW.out.below BA.out BA.out.size (by omega)
  have X4 : Hid (Bw w4 w.heap.size W u1 u2 u3 u4 u5) := XA.out.kp KW.out (by omega)
  have R4 : Hid (Wx w4 (w.heap.size + 1) (.int .i64 0) (.int .i64 0) (.int .i64 0) (.int .i64 0) (.slice none 0 0) (.slice none 0 0) (.slice none 0 0) (.slice none 0 0) (.slice none 0 0)) := RA.out.kp KW.out (by omega)
  have S4 : Hid (w.heap.size + 3 ≤ w4.heap.size) := Nat.le_trans SA.out KW.out.size
  have P0_4 : Hid (Ow w4 (w.heap.size + 3) (.slice p0 W.gs.length q0) W.gs) := owns_kpn P0A.out KW.out (fun b hb => by have := (P0A.out.block b hb).1; omega)
  have P1_4 : Hid (Ow w4 (w.heap.size + 3) (.slice p1 W.os.length q1) W.os) := owns_kpn P1A.out KW.out (fun b hb => by have := (P1A.out.block b hb).1; omega)
  clear KW BA XA RA SA P0A P1A
  go_upto_region 7 with fail
  obtain ⟨z, hz⟩ : ∃ z, w4.heap.size = z := ⟨_, rfl⟩
  have SZ : Hid (w.heap.size + 3 ≤ z) := by rw [← hz]; exact S4.out
  have BN : Hid (Below w4.heap.size w4 (w4.alloc (.cells #[.int .i64 0, .int .i64 0, .int .i64 0, .int .i64 0, .slice none 0 0, .slice none 0 0, .slice none 0 0, .slice none 0 0, .slice none 0 0] 29))) := (Below.refl _ _).alloc (Nat.le_refl _) _
  have Y5 : Hid (Wx (w4.alloc (.cells #[.int .i64 0, .int .i64 0, .int .i64 0, .int .i64 0, .slice none 0 0, .slice none 0 0, .slice none 0 0, .slice none 0 0, .slice none 0 0] 29)) z (.int .i64 0) (.int .i64 0) (.int .i64 0) (.int .i64 0) (.slice none 0 0) (.slice none 0 0) (.slice none 0 0) (.slice none 0 0) (.slice none 0 0)) := Wx.new _ _ _ _ _ _ _ _ _ hz
  have Q0 : Hid (∀ b, ((.slice p0 W.gs.length q0) : Value).ownBlock = some b → b ≠ z) := fun b hb => by have := (P0_4.out.block b hb).2; omega
  have Q1 : Hid (∀ b, ((.slice p1 W.os.length q1) : Value).ownBlock = some b → b ≠ z) := fun b hb => by have := (P1_4.out.block b hb).2; omega
  rw [hz]
  generalize (w4.alloc (.cells #[.int .i64 0, .int .i64 0, .int .i64 0, .int .i64 0, .slice none 0 0, .slice none 0 0, .slice none 0 0, .slice none 0 0, .slice none 0 0] 29)) = w5 at *
  have B5 : Hid (Below w.heap.size w w5) := B4.out.trans (BN.out.mono B4.out.size)
  have X5 : Hid (Bw w5 w.heap.size W u1 u2 u3 u4 u5) := X4.out.below BN.out X4.out.lt
  have R5 : Hid (Wx w5 (w.heap.size + 1) (.int .i64 0) (.int .i64 0) (.int .i64 0) (.int .i64 0) (.slice none 0 0) (.slice none 0 0) (.slice none 0 0) (.slice none 0 0) (.slice none 0 0)) := R4.out.below BN.out R4.out.lt
  have F5 : Hid (Fx w5 (w.heap.size + 1 + 1) (.int .i64 W.wide) (.int .i64 W.high) (.slice p0 W.gs.length q0) (.slice p1 W.os.length q1)) := F4.out.below BN.out F4.out.lt
  have S5 : Hid (w.heap.size + 3 ≤ w5.heap.size) := Nat.le_trans S4.out BN.out.size
  have P0_5 : Hid (Ow w5 (w.heap.size + 3) (.slice p0 W.gs.length q0) W.gs) := P0_4.out.below BN.out
  have P1_5 : Hid (Ow w5 (w.heap.size + 3) (.slice p1 W.os.length q1) W.os) := P1_4.out.below BN.out
  clear hz BN B4 X4 R4 F4 S4 P0_4 P1_4
  have t := Y5.out.thaw 0
  obtain ⟨x, -, -, -, -, -, -, -, -⟩ := Y5.out.cells
  have y := X5.out.c0
  go_upto_region 8 with fail
  have KW : Hid (Kp z w5 (w5.setCell ⟨z, 0, none⟩ (.int .i64 W.turn))) := Kp.set _ _ _
  have Y6 : Hid (Wx (w5.setCell ⟨z, 0, none⟩ (.int .i64 W.turn)) z (.int .i64 W.turn) (.int .i64 0) (.int .i64 0) (.int .i64 0) (.slice none 0 0) (.slice none 0 0) (.slice none 0 0) (.slice none 0 0) (.slice none 0 0)) := Y5.out.set0 _
  clear t x y Y5
  generalize (w5.setCell ⟨z, 0, none⟩ (.int .i64 W.turn)) = w6 at *
  have B6 : Hid (Below w.heap.size w w6) := KW.out.below B5.out B5.out.size (by have := SZ.out; omega)
  have X6 : Hid (Bw w6 w.heap.size W u1 u2 u3 u4 u5) := X5.out.kp KW.out (by have := SZ.out; omega)
  have R6 : Hid (Wx w6 (w.heap.size + 1) (.int .i64 0) (.int .i64 0) (.int .i64 0) (.int .i64 0) (.slice none 0 0) (.slice none 0 0) (.slice none 0 0) (.slice none 0 0) (.slice none 0 0)) := R5.out.kp KW.out (by have := SZ.out; omega)
  have S6 : Hid (w.heap.size + 3 ≤ w6.heap.size) := Nat.le_trans S5.out KW.out.size
  have F6 : Hid (Fx w6 (w.heap.size + 1 + 1) (.int .i64 W.wide) (.int .i64 W.high) (.slice p0 W.gs.length q0) (.slice p1 W.os.length q1)) := F5.out.kp KW.out (by have := SZ.out; omega)
  have P0_6 : Hid (Ow w6 (w.heap.size + 3) (.slice p0 W.gs.length q0) W.gs) := owns_kpn P0_5.out KW.out (fun b hb => by have := (P0_5.out.block b hb).1; have := Q0.out b hb; have := SZ.out; omega)
  have P1_6 : Hid (Ow w6 (w.heap.size + 3) (.slice p1 W.os.length q1) W.os) := owns_kpn P1_5.out KW.out (fun b hb => by have := (P1_5.out.block b hb).1; have := Q1.out b hb; have := SZ.out; omega)
  clear KW B5 X5 R5 S5 F5 P0_5 P1_5
  have t := Y6.out.thaw 1
  obtain ⟨-, x, -, -, -, -, -, -, -⟩ := Y6.out.cells
  have y := X6.out.c1
  go_upto_region 9 with fail
  have KW : Hid (Kp z w6 (w6.setCell ⟨z, 1, none⟩ (.int .i64 W.next))) := Kp.set _ _ _
  have Y7 : Hid (Wx (w6.setCell ⟨z, 1, none⟩ (.int .i64 W.next)) z (.int .i64 W.turn) (.int .i64 W.next) (.int .i64 0) (.int .i64 0) (.slice none 0 0) (.slice none 0 0) (.slice none 0 0) (.slice none 0 0) (.slice none 0 0)) := Y6.out.set1 _
  clear t x y Y6
  generalize (w6.setCell ⟨z, 1, none⟩ (.int .i64 W.next)) = w7 at *
  have B7 : Hid (Below w.heap.size w w7) := KW.out.below B6.out B6.out.size (by have := SZ.out; omega)
  have X7 : Hid (Bw w7 w.heap.size W u1 u2 u3 u4 u5) := X6.out.kp KW.out (by have := SZ.out; omega)
  have R7 : Hid (Wx w7 (w.heap.size + 1) (.int .i64 0) (.int .i64 0) (.int .i64 0) (.int .i64 0) (.slice none 0 0) (.slice none 0 0) (.slice none 0 0) (.slice none 0 0) (.slice none 0 0)) := R6.out.kp KW.out (by have := SZ.out; omega)
  have S7 : Hid (w.heap.size + 3 ≤ w7.heap.size) := Nat.le_trans S6.out KW.out.size
  have F7 : Hid (Fx w7 (w.heap.size + 1 + 1) (.int .i64 W.wide) (.int .i64 W.high) (.slice p0 W.gs.length q0) (.slice p1 W.os.length q1)) := F6.out.kp KW.out (by have := SZ.out; omega)
  have P0_7 : Hid (Ow w7 (w.heap.size + 3) (.slice p0 W.gs.length q0) W.gs) := owns_kpn P0_6.out KW.out (fun b hb => by have := (P0_6.out.block b hb).1; have := Q0.out b hb; have := SZ.out; omega)
  have P1_7 : Hid (Ow w7 (w.heap.size + 3) (.slice p1 W.os.length q1) W.os) := owns_kpn P1_6.out KW.out (fun b hb => by have := (P1_6.out.block b hb).1; have := Q1.out b hb; have := SZ.out; omega)
  clear KW B6 X6 R6 S6 F6 P0_6 P1_6
  obtain ⟨f0, f1, f2, f3⟩ := F7.out.cells
  obtain ⟨-, -, x2, x3, x4, x5, -, -, -⟩ := Y7.out.cells
  have t2 := Y7.out.thaw 2
  have t3 := Y7.out.thaw 3
  have t4 := Y7.out.thaw 4
  have t5 := Y7.out.thaw 5
  go_upto_region 10 with fail
  have KW : Hid (Kp z w7 ((((w7.setCell ⟨z, 2, none⟩ (.int .i64 W.wide)).setCell ⟨z, 3, none⟩ (.int .i64 W.high)).setCell ⟨z, 4, none⟩ (.slice p0 W.gs.length q0)).setCell ⟨z, 5, none⟩ (.slice p1 W.os.length q1))) := (((Kp.set w7 2 (.int .i64 W.wide)).trans (Kp.set _ 3 (.int .i64 W.high))).trans (Kp.set _ 4 (.slice p0 W.gs.length q0))).trans (Kp.set _ 5 (.slice p1 W.os.length q1))
  have Y8 : Hid (Wx ((((w7.setCell ⟨z, 2, none⟩ (.int .i64 W.wide)).setCell ⟨z, 3, none⟩ (.int .i64 W.high)).setCell ⟨z, 4, none⟩ (.slice p0 W.gs.length q0)).setCell ⟨z, 5, none⟩ (.slice p1 W.os.length q1)) z (.int .i64 W.turn) (.int .i64 W.next) (.int .i64 W.wide) (.int .i64 W.high) (.slice p0 W.gs.length q0) (.slice p1 W.os.length q1) (.slice none 0 0) (.slice none 0 0) (.slice none 0 0)) := (((Y7.out.set2 (.int .i64 W.wide)).set3 (.int .i64 W.high)).set4 (.slice p0 W.gs.length q0)).set5 (.slice p1 W.os.length q1)
  clear f0 f1 f2 f3 x2 x3 x4 x5 t2 t3 t4 t5 Y7
  generalize ((((w7.setCell ⟨z, 2, none⟩ (.int .i64 W.wide)).setCell ⟨z, 3, none⟩ (.int .i64 W.high)).setCell ⟨z, 4, none⟩ (.slice p0 W.gs.length q0)).setCell ⟨z, 5, none⟩ (.slice p1 W.os.length q1)) = w8 at *
  have B8 : Hid (Below w.heap.size w w8) := KW.out.below B7.out B7.out.size (by have := SZ.out; omega)
  have X8 : Hid (Bw w8 w.heap.size W u1 u2 u3 u4 u5) := X7.out.kp KW.out (by have := SZ.out; omega)
  have R8 : Hid (Wx w8 (w.heap.size + 1) (.int .i64 0) (.int .i64 0) (.int .i64 0) (.int .i64 0) (.slice none 0 0) (.slice none 0 0) (.slice none 0 0) (.slice none 0 0) (.slice none 0 0)) := R7.out.kp KW.out (by have := SZ.out; omega)
  have S8 : Hid (w.heap.size + 3 ≤ w8.heap.size) := Nat.le_trans S7.out KW.out.size
  have F8 : Hid (Fx w8 (w.heap.size + 1 + 1) (.int .i64 W.wide) (.int .i64 W.high) (.slice p0 W.gs.length q0) (.slice p1 W.os.length q1)) := F7.out.kp KW.out (by have := SZ.out; omega)
  have P0_8 : Hid (Ow w8 (w.heap.size + 3) (.slice p0 W.gs.length q0) W.gs) := owns_kpn P0_7.out KW.out (fun b hb => by have := (P0_7.out.block b hb).1; have := Q0.out b hb; have := SZ.out; omega)
  have P1_8 : Hid (Ow w8 (w.heap.size + 3) (.slice p1 W.os.length q1) W.os) := owns_kpn P1_7.out KW.out (fun b hb => by have := (P1_7.out.block b hb).1; have := Q1.out b hb; have := SZ.out; omega)
  clear KW B7 X7 R7 S7 F7 P0_7 P1_7
  obtain ⟨-, -, -, -, -, -, x, -, -⟩ := Y8.out.cells
  have y := X8.out.c6
  go_wp2_with (at_builtin; refine app_row _ rfl _ _ rfl (w.heap.size + 3) _ [] rfl (Ow.nil _ _) _ W.gold rfl ((H.out.below B8.out).slices.2.2.1) (by have := L.out.p; simp only [List.length_nil]; omega) S8.out ?_)
  intro v2 a2 on gn dn
  have BG : Hid (Below w8.heap.size w8 a2) := (Below.refl _ _).grown gn (Nat.le_refl _) (fun k hk => by cases hk)
  try rw [List.nil_append] at on
  have BA : Hid (Below w.heap.size w a2) := B8.out.trans (BG.out.mono B8.out.size)
  have XA : Hid (Bw a2 w.heap.size W u1 u2 u3 u4 u5) := X8.out.below BG.out X8.out.lt
  have RA : Hid (Wx a2 (w.heap.size + 1) (.int .i64 0) (.int .i64 0) (.int .i64 0) (.int .i64 0) (.slice none 0 0) (.slice none 0 0) (.slice none 0 0) (.slice none 0 0) (.slice none 0 0)) := R8.out.below BG.out R8.out.lt
  have FA : Hid (Fx a2 (w.heap.size + 1 + 1) (.int .i64 W.wide) (.int .i64 W.high) (.slice p0 W.gs.length q0) (.slice p1 W.os.length q1)) := F8.out.below BG.out F8.out.lt
  have SA : Hid (w.heap.size + 3 ≤ a2.heap.size) := Nat.le_trans S8.out BG.out.size
  have YA : Hid (Wx a2 z (.int .i64 W.turn) (.int .i64 W.next) (.int .i64 W.wide) (.int .i64 W.high) (.slice p0 W.gs.length q0) (.slice p1 W.os.length q1) (.slice none 0 0) (.slice none 0 0) (.slice none 0 0)) := Y8.out.below BG.out Y8.out.lt
  have QN : Hid (∀ b, v2.ownBlock = some b → z < b) := fun b hb => by
    have h1 := Y8.out.lt
    rcases dn with dn | dn
    · rw [hb] at dn; cases dn
    · rw [hb] at dn; injection dn with dn; omega
  have P0A : Hid (Ow a2 (w.heap.size + 3) (.slice p0 W.gs.length q0) W.gs) := P0_8.out.below BG.out
  have D0_2 : Hid (Dif (.slice p0 W.gs.length q0) v2) := Dif.of (n := w8.heap.size) (fun b hb => (P0_8.out.block b hb).2) (fun b hb => by
    rcases dn with dn | dn
    · rw [hb] at dn; cases dn
    · rw [hb] at dn; injection dn with dn; omega)
  have P1A : Hid (Ow a2 (w.heap.size + 3) (.slice p1 W.os.length q1) W.os) := P1_8.out.below BG.out
  have D1_2 : Hid (Dif (.slice p1 W.os.length q1) v2) := Dif.of (n := w8.heap.size) (fun b hb => (P1_8.out.block b hb).2) (fun b hb => by
    rcases dn with dn | dn
    · rw [hb] at dn; cases dn
    · rw [hb] at dn; injection dn with dn; omega)
  have P2A : Hid (Ow a2 (w.heap.size + 3) v2 W.gold) := on
  obtain ⟨p2, q2, rfl⟩ := on.len
  clear gn dn on BG x y B8 X8 R8 F8 S8 Y8 P0_8 P1_8
  have t := YA.out.thaw 6
  obtain ⟨-, -, -, -, -, -, x, -, -⟩ := YA.out.cells
  go_upto_region 11 with fail
  have Q2 : Hid (∀ b, ((.slice p2 W.gold.length q2) : Value).ownBlock = some b → b ≠ z) := fun b hb => by have := QN.out b hb; omega
  clear QN
  have KW : Hid (Kp z a2 (a2.setCell ⟨z, 6, none⟩ (.slice p2 W.gold.length q2))) := Kp.set _ _ _
  have Y9 : Hid (Wx (a2.setCell ⟨z, 6, none⟩ (.slice p2 W.gold.length q2)) z (.int .i64 W.turn) (.int .i64 W.next) (.int .i64 W.wide) (.int .i64 W.high) (.slice p0 W.gs.length q0) (.slice p1 W.os.length q1) (.slice p2 W.gold.length q2) (.slice none 0 0) (.slice none 0 0)) := YA.out.set6 _
  clear t x YA
  generalize (a2.setCell ⟨z, 6, none⟩ (.slice p2 W.gold.length q2)) = w9 at *
  have B9 : Hid (Below w.heap.size w w9) := KW.out.below BA.out BA.out.size (by have := SZ.out; omega)
  have X9 : Hid (Bw w9 w.heap.size W u1 u2 u3 u4 u5) := XA.out.kp KW.out (by have := SZ.out; omega)
  have R9 : Hid (Wx w9 (w.heap.size + 1) (.int .i64 0) (.int .i64 0) (.int .i64 0) (.int .i64 0) (.slice none 0 0) (.slice none 0 0) (.slice none 0 0) (.slice none 0 0) (.slice none 0 0)) := RA.out.kp KW.out (by have := SZ.out; omega)
  have S9 : Hid (w.heap.size + 3 ≤ w9.heap.size) := Nat.le_trans SA.out KW.out.size
  have F9 : Hid (Fx w9 (w.heap.size + 1 + 1) (.int .i64 W.wide) (.int .i64 W.high) (.slice p0 W.gs.length q0) (.slice p1 W.os.length q1)) := FA.out.kp KW.out (by have := SZ.out; omega)
  have P0_9 : Hid (Ow w9 (w.heap.size + 3) (.slice p0 W.gs.length q0) W.gs) := owns_kpn P0A.out KW.out (fun b hb => by have := (P0A.out.block b hb).1; have := Q0.out b hb; have := SZ.out; omega)
  have P1_9 : Hid (Ow w9 (w.heap.size + 3) (.slice p1 W.os.length q1) W.os) := owns_kpn P1A.out KW.out (fun b hb => by have := (P1A.out.block b hb).1; have := Q1.out b hb; have := SZ.out; omega)
  have P2_9 : Hid (Ow w9 (w.heap.size + 3) (.slice p2 W.gold.length q2) W.gold) := owns_kpn P2A.out KW.out (fun b hb => by have := (P2A.out.block b hb).1; have := Q2.out b hb; have := SZ.out; omega)
  clear KW BA XA RA SA FA P0A P1A P2A
  obtain ⟨-, -, -, -, -, -, -, x, -⟩ := Y9.out.cells
  have y := X9.out.c7
  go_wp2_with (at_builtin; refine app_uns _ rfl _ _ rfl (w.heap.size + 3) _ [] rfl (Uno.nil _ _) _ W.us rfl ((H.out.below B9.out).slices.2.2.2.1) (by have := L.out.u; simp only [List.length_nil]; omega) S9.out ?_)
  intro v3 a3 on gn dn
  have BG : Hid (Below w9.heap.size w9 a3) := (Below.refl _ _).grown gn (Nat.le_refl _) (fun k hk => by cases hk)
  try rw [List.nil_append] at on
  have BA : Hid (Below w.heap.size w a3) := B9.out.trans (BG.out.mono B9.out.size)
  have XA : Hid (Bw a3 w.heap.size W u1 u2 u3 u4 u5) := X9.out.below BG.out X9.out.lt
  have RA : Hid (Wx a3 (w.heap.size + 1) (.int .i64 0) (.int .i64 0) (.int .i64 0) (.int .i64 0) (.slice none 0 0) (.slice none 0 0) (.slice none 0 0) (.slice none 0 0) (.slice none 0 0)) := R9.out.below BG.out R9.out.lt
  have FA : Hid (Fx a3 (w.heap.size + 1 + 1) (.int .i64 W.wide) (.int .i64 W.high) (.slice p0 W.gs.length q0) (.slice p1 W.os.length q1)) := F9.out.below BG.out F9.out.lt
  have SA : Hid (w.heap.size + 3 ≤ a3.heap.size) := Nat.le_trans S9.out BG.out.size
  have YA : Hid (Wx a3 z (.int .i64 W.turn) (.int .i64 W.next) (.int .i64 W.wide) (.int .i64 W.high) (.slice p0 W.gs.length q0) (.slice p1 W.os.length q1) (.slice p2 W.gold.length q2) (.slice none 0 0) (.slice none 0 0)) := Y9.out.below BG.out Y9.out.lt
  have QN : Hid (∀ b, v3.ownBlock = some b → z < b) := fun b hb => by
    have h1 := Y9.out.lt
    rcases dn with dn | dn
    · rw [hb] at dn; cases dn
    · rw [hb] at dn; injection dn with dn; omega
  have P0A : Hid (Ow a3 (w.heap.size + 3) (.slice p0 W.gs.length q0) W.gs) := P0_9.out.below BG.out
  have D0_3 : Hid (Dif (.slice p0 W.gs.length q0) v3) := Dif.of (n := w9.heap.size) (fun b hb => (P0_9.out.block b hb).2) (fun b hb => by
    rcases dn with dn | dn
    · rw [hb] at dn; cases dn
    · rw [hb] at dn; injection dn with dn; omega)
  have P1A : Hid (Ow a3 (w.heap.size + 3) (.slice p1 W.os.length q1) W.os) := P1_9.out.below BG.out
  have D1_3 : Hid (Dif (.slice p1 W.os.length q1) v3) := Dif.of (n := w9.heap.size) (fun b hb => (P1_9.out.block b hb).2) (fun b hb => by
    rcases dn with dn | dn
    · rw [hb] at dn; cases dn
    · rw [hb] at dn; injection dn with dn; omega)
  have P2A : Hid (Ow a3 (w.heap.size + 3) (.slice p2 W.gold.length q2) W.gold) := P2_9.out.below BG.out
  have D2_3 : Hid (Dif (.slice p2 W.gold.length q2) v3) := Dif.of (n := w9.heap.size) (fun b hb => (P2_9.out.block b hb).2) (fun b hb => by
    rcases dn with dn | dn
    · rw [hb] at dn; cases dn
    · rw [hb] at dn; injection dn with dn; omega)
  have P3A : Hid (Uno a3 (w.heap.size + 3) v3 W.us) := on
  obtain ⟨p3, q3, rfl⟩ := on.len
  clear gn dn on BG x y B9 X9 R9 F9 S9 Y9 P0_9 P1_9 P2_9
  have t := YA.out.thaw 7
  obtain ⟨-, -, -, -, -, -, -, x, -⟩ := YA.out.cells
  go_upto_region 12 with fail
  have Q3 : Hid (∀ b, ((.slice p3 W.us.length q3) : Value).ownBlock = some b → b ≠ z) := fun b hb => by have := QN.out b hb; omega
  clear QN
  have KW : Hid (Kp z a3 (a3.setCell ⟨z, 7, none⟩ (.slice p3 W.us.length q3))) := Kp.set _ _ _
  have Y10 : Hid (Wx (a3.setCell ⟨z, 7, none⟩ (.slice p3 W.us.length q3)) z (.int .i64 W.turn) (.int .i64 W.next) (.int .i64 W.wide) (.int .i64 W.high) (.slice p0 W.gs.length q0) (.slice p1 W.os.length q1) (.slice p2 W.gold.length q2) (.slice p3 W.us.length q3) (.slice none 0 0)) := YA.out.set7 _
  clear t x YA
  generalize (a3.setCell ⟨z, 7, none⟩ (.slice p3 W.us.length q3)) = w10 at *
  have B10 : Hid (Below w.heap.size w w10) := KW.out.below BA.out BA.out.size (by have := SZ.out; omega)
  have X10 : Hid (Bw w10 w.heap.size W u1 u2 u3 u4 u5) := XA.out.kp KW.out (by have := SZ.out; omega)
  have R10 : Hid (Wx w10 (w.heap.size + 1) (.int .i64 0) (.int .i64 0) (.int .i64 0) (.int .i64 0) (.slice none 0 0) (.slice none 0 0) (.slice none 0 0) (.slice none 0 0) (.slice none 0 0)) := RA.out.kp KW.out (by have := SZ.out; omega)
  have S10 : Hid (w.heap.size + 3 ≤ w10.heap.size) := Nat.le_trans SA.out KW.out.size
  have F10 : Hid (Fx w10 (w.heap.size + 1 + 1) (.int .i64 W.wide) (.int .i64 W.high) (.slice p0 W.gs.length q0) (.slice p1 W.os.length q1)) := FA.out.kp KW.out (by have := SZ.out; omega)
  have P0_10 : Hid (Ow w10 (w.heap.size + 3) (.slice p0 W.gs.length q0) W.gs) := owns_kpn P0A.out KW.out (fun b hb => by have := (P0A.out.block b hb).1; have := Q0.out b hb; have := SZ.out; omega)
  have P1_10 : Hid (Ow w10 (w.heap.size + 3) (.slice p1 W.os.length q1) W.os) := owns_kpn P1A.out KW.out (fun b hb => by have := (P1A.out.block b hb).1; have := Q1.out b hb; have := SZ.out; omega)
  have P2_10 : Hid (Ow w10 (w.heap.size + 3) (.slice p2 W.gold.length q2) W.gold) := owns_kpn P2A.out KW.out (fun b hb => by have := (P2A.out.block b hb).1; have := Q2.out b hb; have := SZ.out; omega)
  have P3_10 : Hid (Uno w10 (w.heap.size + 3) (.slice p3 W.us.length q3) W.us) := owns_kpn P3A.out KW.out (fun b hb => by have := (P3A.out.block b hb).1; have := Q3.out b hb; have := SZ.out; omega)
  clear KW BA XA RA SA FA P0A P1A P2A P3A
  obtain ⟨-, -, -, -, -, -, -, -, x⟩ := Y10.out.cells
  have y := X10.out.c8
  go_wp2_with (at_builtin; refine app_jbs _ rfl _ _ rfl (w.heap.size + 3) _ [] rfl (Jbo.nil _ _) _ W.qs rfl ((H.out.below B10.out).slices.2.2.2.2) (by have := L.out.q; simp only [List.length_nil]; omega) S10.out ?_)
  intro v4 a4 on gn dn
  have BG : Hid (Below w10.heap.size w10 a4) := (Below.refl _ _).grown gn (Nat.le_refl _) (fun k hk => by cases hk)
  try rw [List.nil_append] at on
  have BA : Hid (Below w.heap.size w a4) := B10.out.trans (BG.out.mono B10.out.size)
  have XA : Hid (Bw a4 w.heap.size W u1 u2 u3 u4 u5) := X10.out.below BG.out X10.out.lt
  have RA : Hid (Wx a4 (w.heap.size + 1) (.int .i64 0) (.int .i64 0) (.int .i64 0) (.int .i64 0) (.slice none 0 0) (.slice none 0 0) (.slice none 0 0) (.slice none 0 0) (.slice none 0 0)) := R10.out.below BG.out R10.out.lt
  have FA : Hid (Fx a4 (w.heap.size + 1 + 1) (.int .i64 W.wide) (.int .i64 W.high) (.slice p0 W.gs.length q0) (.slice p1 W.os.length q1)) := F10.out.below BG.out F10.out.lt
  have SA : Hid (w.heap.size + 3 ≤ a4.heap.size) := Nat.le_trans S10.out BG.out.size
  have YA : Hid (Wx a4 z (.int .i64 W.turn) (.int .i64 W.next) (.int .i64 W.wide) (.int .i64 W.high) (.slice p0 W.gs.length q0) (.slice p1 W.os.length q1) (.slice p2 W.gold.length q2) (.slice p3 W.us.length q3) (.slice none 0 0)) := Y10.out.below BG.out Y10.out.lt
  have QN : Hid (∀ b, v4.ownBlock = some b → z < b) := fun b hb => by
    have h1 := Y10.out.lt
    rcases dn with dn | dn
    · rw [hb] at dn; cases dn
    · rw [hb] at dn; injection dn with dn; omega
  have P0A : Hid (Ow a4 (w.heap.size + 3) (.slice p0 W.gs.length q0) W.gs) := P0_10.out.below BG.out
  have D0_4 : Hid (Dif (.slice p0 W.gs.length q0) v4) := Dif.of (n := w10.heap.size) (fun b hb => (P0_10.out.block b hb).2) (fun b hb => by
    rcases dn with dn | dn
    · rw [hb] at dn; cases dn
    · rw [hb] at dn; injection dn with dn; omega)
  have P1A : Hid (Ow a4 (w.heap.size + 3) (.slice p1 W.os.length q1) W.os) := P1_10.out.below BG.out
  have D1_4 : Hid (Dif (.slice p1 W.os.length q1) v4) := Dif.of (n := w10.heap.size) (fun b hb => (P1_10.out.block b hb).2) (fun b hb => by
    rcases dn with dn | dn
    · rw [hb] at dn; cases dn
    · rw [hb] at dn; injection dn with dn; omega)
  have P2A : Hid (Ow a4 (w.heap.size + 3) (.slice p2 W.gold.length q2) W.gold) := P2_10.out.below BG.out
  have D2_4 : Hid (Dif (.slice p2 W.gold.length q2) v4) := Dif.of (n := w10.heap.size) (fun b hb => (P2_10.out.block b hb).2) (fun b hb => by
    rcases dn with dn | dn
    · rw [hb] at dn; cases dn
    · rw [hb] at dn; injection dn with dn; omega)
  have P3A : Hid (Uno a4 (w.heap.size + 3) (.slice p3 W.us.length q3) W.us) := P3_10.out.below BG.out
  have D3_4 : Hid (Dif (.slice p3 W.us.length q3) v4) := Dif.of (n := w10.heap.size) (fun b hb => (P3_10.out.block b hb).2) (fun b hb => by
    rcases dn with dn | dn
    · rw [hb] at dn; cases dn
    · rw [hb] at dn; injection dn with dn; omega)
  have P4A : Hid (Jbo a4 (w.heap.size + 3) v4 W.qs) := on
  obtain ⟨p4, q4, rfl⟩ := on.len
  clear gn dn on BG x y B10 X10 R10 F10 S10 Y10 P0_10 P1_10 P2_10 P3_10
  have t := YA.out.thaw 8
  obtain ⟨-, -, -, -, -, -, -, -, x⟩ := YA.out.cells
  go_upto_region 13 with fail
  have Q4 : Hid (∀ b, ((.slice p4 W.qs.length q4) : Value).ownBlock = some b → b ≠ z) := fun b hb => by have := QN.out b hb; omega
  clear QN
  have KW : Hid (Kp z a4 (a4.setCell ⟨z, 8, none⟩ (.slice p4 W.qs.length q4))) := Kp.set _ _ _
  have Y11 : Hid (Wx (a4.setCell ⟨z, 8, none⟩ (.slice p4 W.qs.length q4)) z (.int .i64 W.turn) (.int .i64 W.next) (.int .i64 W.wide) (.int .i64 W.high) (.slice p0 W.gs.length q0) (.slice p1 W.os.length q1) (.slice p2 W.gold.length q2) (.slice p3 W.us.length q3) (.slice p4 W.qs.length q4)) := YA.out.set8 _
  clear t x YA
  generalize (a4.setCell ⟨z, 8, none⟩ (.slice p4 W.qs.length q4)) = w11 at *
  have B11 : Hid (Below w.heap.size w w11) := KW.out.below BA.out BA.out.size (by have := SZ.out; omega)
  have X11 : Hid (Bw w11 w.heap.size W u1 u2 u3 u4 u5) := XA.out.kp KW.out (by have := SZ.out; omega)
  have R11 : Hid (Wx w11 (w.heap.size + 1) (.int .i64 0) (.int .i64 0) (.int .i64 0) (.int .i64 0) (.slice none 0 0) (.slice none 0 0) (.slice none 0 0) (.slice none 0 0) (.slice none 0 0)) := RA.out.kp KW.out (by have := SZ.out; omega)
  have S11 : Hid (w.heap.size + 3 ≤ w11.heap.size) := Nat.le_trans SA.out KW.out.size
  have F11 : Hid (Fx w11 (w.heap.size + 1 + 1) (.int .i64 W.wide) (.int .i64 W.high) (.slice p0 W.gs.length q0) (.slice p1 W.os.length q1)) := FA.out.kp KW.out (by have := SZ.out; omega)
  have P0_11 : Hid (Ow w11 (w.heap.size + 3) (.slice p0 W.gs.length q0) W.gs) := owns_kpn P0A.out KW.out (fun b hb => by have := (P0A.out.block b hb).1; have := Q0.out b hb; have := SZ.out; omega)
  have P1_11 : Hid (Ow w11 (w.heap.size + 3) (.slice p1 W.os.length q1) W.os) := owns_kpn P1A.out KW.out (fun b hb => by have := (P1A.out.block b hb).1; have := Q1.out b hb; have := SZ.out; omega)
  have P2_11 : Hid (Ow w11 (w.heap.size + 3) (.slice p2 W.gold.length q2) W.gold) := owns_kpn P2A.out KW.out (fun b hb => by have := (P2A.out.block b hb).1; have := Q2.out b hb; have := SZ.out; omega)
  have P3_11 : Hid (Uno w11 (w.heap.size + 3) (.slice p3 W.us.length q3) W.us) := owns_kpn P3A.out KW.out (fun b hb => by have := (P3A.out.block b hb).1; have := Q3.out b hb; have := SZ.out; omega)
  have P4_11 : Hid (Jbo w11 (w.heap.size + 3) (.slice p4 W.qs.length q4) W.qs) := owns_kpn P4A.out KW.out (fun b hb => by have := (P4A.out.block b hb).1; have := Q4.out b hb; have := SZ.out; omega)
  clear KW BA XA RA SA FA P0A P1A P2A P3A P4A
  obtain ⟨x0, x1, x2, x3, x4, x5, x6, x7, x8⟩ := Y11.out.cells
  obtain ⟨z0, z1, z2, z3, z4, z5, z6, z7, z8⟩ := R11.out.cells
  obtain ⟨t0, t1, t2, t3, t4, t5, t6, t7, t8⟩ := R11.out.thaws
  have KZ : Hid (Kp (w.heap.size + 1) w11 (((((((((w11.setCell ⟨w.heap.size + 1, 0, none⟩ (.int .i64 W.turn)).setCell ⟨w.heap.size + 1, 1, none⟩ (.int .i64 W.next)).setCell ⟨w.heap.size + 1, 2, none⟩ (.int .i64 W.wide)).setCell ⟨w.heap.size + 1, 3, none⟩ (.int .i64 W.high)).setCell ⟨w.heap.size + 1, 4, none⟩ (.slice p0 W.gs.length q0)).setCell ⟨w.heap.size + 1, 5, none⟩ (.slice p1 W.os.length q1)).setCell ⟨w.heap.size + 1, 6, none⟩ (.slice p2 W.gold.length q2)).setCell ⟨w.heap.size + 1, 7, none⟩ (.slice p3 W.us.length q3)).setCell ⟨w.heap.size + 1, 8, none⟩ (.slice p4 W.qs.length q4))) := put_kp _ _ _ _ _ _ _ _ _ _ _
  obtain ⟨y0, y1, y2, y3, y4, y5, y6, y7, y8⟩ := (R11.out.put (.int .i64 W.turn) (.int .i64 W.next) (.int .i64 W.wide) (.int .i64 W.high) (.slice p0 W.gs.length q0) (.slice p1 W.os.length q1) (.slice p2 W.gold.length q2) (.slice p3 W.us.length q3) (.slice p4 W.qs.length q4)).cells
  go_wp2
  clear x0 x1 x2 x3 x4 x5 x6 x7 x8 z0 z1 z2 z3 z4 z5 z6 z7 z8 t0 t1 t2 t3 t4 t5 t6 t7 t8
  have s0 := S11.out
  generalize (((((((((w11.setCell ⟨w.heap.size + 1, 0, none⟩ (.int .i64 W.turn)).setCell ⟨w.heap.size + 1, 1, none⟩ (.int .i64 W.next)).setCell ⟨w.heap.size + 1, 2, none⟩ (.int .i64 W.wide)).setCell ⟨w.heap.size + 1, 3, none⟩ (.int .i64 W.high)).setCell ⟨w.heap.size + 1, 4, none⟩ (.slice p0 W.gs.length q0)).setCell ⟨w.heap.size + 1, 5, none⟩ (.slice p1 W.os.length q1)).setCell ⟨w.heap.size + 1, 6, none⟩ (.slice p2 W.gold.length q2)).setCell ⟨w.heap.size + 1, 7, none⟩ (.slice p3 W.us.length q3)).setCell ⟨w.heap.size + 1, 8, none⟩ (.slice p4 W.qs.length q4)) = wz at *
  refine bodyPost_ret (v := .agg #[.int .i64 W.turn, .int .i64 W.next, .int .i64 W.wide, .int .i64 W.high, .slice p0 W.gs.length q0, .slice p1 W.os.length q1, .slice p2 W.gold.length q2, .slice p3 W.us.length q3, .slice p4 W.qs.length q4]) (by simp [results, Tryz.results23, go_sem, y0, y1, y2, y3, y4, y5, y6, y7, y8]) rfl ⟨_, rfl, ⟨_, _, _, _, _, rfl, ⟨Ow.mono (owns_kp P0_11.out KZ.out (by omega)) (by omega), Ow.mono (owns_kp P1_11.out KZ.out (by omega)) (by omega), Ow.mono (owns_kp P2_11.out KZ.out (by omega)) (by omega), Uno.mono (owns_kp P3_11.out KZ.out (by omega)) (by omega), Jbo.mono (owns_kp P4_11.out KZ.out (by omega)) (by omega)⟩, D0_1.out, D0_2.out, D0_3.out, D0_4.out, D1_2.out, D1_3.out, D1_4.out, D2_3.out, D2_4.out, D3_4.out⟩, KZ.out.below B11.out B11.out.size (by omega)⟩
end Go.Proofs.YteieikgkmfglaaaGreatDoor

namespace Go.Proofs.YteieikgkmfglaaaGreatDoor
open Go.RowKit
set_option linter.unusedVariables false

set_option maxRecDepth 100000 in
set_option maxHeartbeats 2000000 in
theorem rfind_any (v : Value) (W : WV) (id : Int) (w : World) (h : Wl w v W) :
    Calls Tryz.prog 14 #[v, .int .i64 id] w fun e w' => ∃ r : Int, e = .returned (.int .i64 r) ∧ FstU (fun u => u.id == id) W.us r ∧ Below w.heap.size w w' := by
  obtain ⟨u1, u2, u3, u4, u5, rfl, -, -, -, ⟨a, c, rfl, c1, c2, ca⟩, -⟩ := h
  have Ca : Hid (W.us ≠ [] → ∃ x, a = some x ∧ x.block < w.heap.size ∧ ∀ (i : Nat) k, W.us[i]? = some k → Unc w (x.add (i * 8)) k) := ca
  clear ca
  go_enter Tryz.func14, Tryz.ntmps14
  go_wp2
  have B0 : Hid (Below w.heap.size w (w.alloc (Obj.cells #[.int .i64 W.turn, .int .i64 W.next, .int .i64 W.wide, .int .i64 W.high, u1, u2, u3, .slice a W.us.length c, u5] 29))) := (Below.refl _ _).alloc (Nat.le_refl _) _
  have X0 : Hid (Bw (w.alloc (Obj.cells #[.int .i64 W.turn, .int .i64 W.next, .int .i64 W.wide, .int .i64 W.high, u1, u2, u3, .slice a W.us.length c, u5] 29)) w.heap.size W u1 u2 u3 (.slice a W.us.length c) u5) := Bw.mk' W _ _ _ _ _ rfl
  generalize w.alloc (Obj.cells #[.int .i64 W.turn, .int .i64 W.next, .int .i64 W.wide, .int .i64 W.high, u1, u2, u3, .slice a W.us.length c, u5] 29) = w0 at *
  go_loopw [5] (fun iv V => ∃ k : Nat, k ≤ W.us.length ∧ iv = .int .i64 (k : Nat) ∧ (W.us.take k).any (fun u => u.id == id) = false ∧ V = w0) (fun iv _ => W.us.length - (intOf iv).toNat)
  case atStart => exact ⟨0, Nat.zero_le _, rfl, rfl, rfl⟩
  case round =>
    obtain ⟨k, hk, rfl, hn, rfl⟩ := hrel
    have HN : Hid ((W.us.take k).any (fun u => u.id == id) = false) := hn
    have c7 := X0.out.c7
    clear hn
    by_cases hkl : k = W.us.length
    · have F : Hid (FstU (fun u => u.id == id) W.us (-1)) := .inl ⟨rfl, by have := HN.out; rwa [hkl, List.take_length] at this⟩
      subst hkl
      clear hk
      go_wp2
      go_ret
      exact ⟨-1, rfl, F.out, B0.out⟩
    · have hlt : k < W.us.length := by omega
      have hli : (k : Int) < (W.us.length : Int) := by omega
      obtain ⟨u, hu⟩ : ∃ u, W.us[k]? = some u := ⟨_, List.getElem?_eq_getElem hlt⟩
      obtain ⟨x, rfl, hx, hcell⟩ := Ca.out (by intro e; rw [e] at hlt; simp at hlt)
      obtain ⟨d0, -, -, -, -, -, -, -⟩ := (hcell k u hu).below B0.out (by rw [add_block]; exact hx)
      have HU : Hid (W.us[k]? = some u) := hu
      clear hcell hx hu hkl
      by_cases hid : u.id = id
      · have F : Hid (FstU (fun u => u.id == id) W.us (k : Nat)) := .inr ⟨k, u, rfl, HU.out, by simp [hid], HN.out⟩
        go_wp2
        go_ret
        exact ⟨_, rfl, F.out, B0.out⟩
      · have hidb : (u.id == id) = false := by simpa using hid
        have N2 : Hid ((W.us.take (k + 1)).any (fun u => u.id == id) = false) := by unfold Hid; rw [anyu_next HU.out, HN.out, hidb]; rfl
        clear hid
        go_wp2
        go_roundw
        case rel => exact ⟨k + 1, by omega, rfl, N2.out, trivial⟩
        case measure => simp [intOf]; omega
end Go.Proofs.YteieikgkmfglaaaGreatDoor

namespace Go.Proofs.YteieikgkmfglaaaGreatDoor
open Go.RowKit
set_option linter.unusedVariables false

set_option maxRecDepth 100000 in
set_option maxHeartbeats 1000000 in
theorem ref_onto (v : Value) (W H : Int) (gs os : List Int) (a : Nat) (g : Int) (fl : Bool) (w : World) (h : Fl w v W H gs os) (hl : gs.length ≤ 144) (hg : gs[a]? = some g) (g0 : 0 ≤ g) (g3 : g ≤ 3) :
    Calls Tryz.prog 28 #[v, .int .i64 (a : Nat), .bool fl] w fun e w' => e = .returned (.int .i64 (Fd.onto g fl)) ∧ Below w.heap.size w w' := by
  obtain ⟨u1, u2, rfl, ⟨a1, c, rfl, c1, c2, ca⟩, ⟨b1, d, rfl, d1, d2, cb⟩⟩ := h
  have hal : a < gs.length := (List.getElem?_eq_some_iff.1 hg).1
  obtain ⟨x, rfl, xl, hx⟩ := ca (by intro e; rw [e] at hal; simp at hal)
  have j0 : (0 : Int) ≤ (a : Int) := by omega
  have j1 : (a : Int) < (gs.length : Int) := by omega
  obtain ⟨w0, hw0⟩ : ∃ w0, w.alloc (Obj.cells #[.int .i64 W, .int .i64 H, .slice (some x) gs.length c, .slice b1 os.length d] 25) = w0 := ⟨_, rfl⟩
  have B0 : Hid (Below w.heap.size w w0) := by rw [← hw0]; exact (Below.refl _ _).alloc (Nat.le_refl _) _
  have cg : w0.cell? (x.add a) = some (.int .i64 g) := by rw [B0.out.cell (p := x.add a) (by rw [add_block]; exact xl)]; exact hx a g hg
  have x2 : w0.cell? ⟨w.heap.size, 2, none⟩ = some (.slice (some x) gs.length c) := by rw [← hw0]; simp
  have Hw : Hid (w.alloc (Obj.cells #[.int .i64 W, .int .i64 H, .slice (some x) gs.length c, .slice b1 os.length d] 25) = w0) := hw0
  have O : Hid (∀ u, u = Fd.onto g fl → Ending.returned (.int .i64 u) = .returned (.int .i64 (Fd.onto g fl))) := fun u h => by rw [h]
  clear hw0 cb hx xl ca hg
  go_enter Tryz.func28, Tryz.ntmps28
  go_upto_region 1 with fail
  rw [Hw.out]
  have hg' : g = 0 ∨ g = 1 ∨ g = 2 ∨ g = 3 := by omega
  rcases hg' with rfl | rfl | rfl | rfl
  all_goals cases fl
  all_goals
    go_wp2
    go_ret
    exact ⟨O.out _ rfl, B0⟩
end Go.Proofs.YteieikgkmfglaaaGreatDoor

