/- Slices of api.Event that the call itself makes, by append. · What stays where one block turns, or a list of one's own grows. · What stays where one block turns: events. · move.walk: as far as its Speed goes. · make([]int, N) for few; one more event. · move.Move: all units, one behind the other. · Moves: who rests stays. Plain mathematics. · A world's ids rise: each is one unit's. Plain mathematics. -/
import Derived.Test.YtagnjmellcibhaaDoorZMoveKeeps5
import Derived.OwnWalk
import Derived.Deep.AppendLies
import Derived.Test.YtagnjmellcibhaaDoorZMoveKeeps3
import Derived.Test.YtagnjmellcibhaaDoorZMoveKeeps2
import Derived.Test.YtagnjmellcibhaaDoorZMoveKeeps1
import Derived.Laws.MakeOwn
import Derived.BigQuiet
import Derived.Test.YtagnjmellcibhaaDoorZMoveKeeps4
namespace Go.Proofs.YtagnjmellcibhaaDoor
open Go.RowKit
set_option linter.unusedVariables false

theorem info_ev : (Tryd.prog.info? 45).map (fun i => (i.zero, i.size, i.bytes)) = some (some (.agg #[.int .i64 0, .int .i64 0, .int .i64 0]), 3, 24) := by kernel_rfl
def EvV.cs (k : EvV) : List Value := [.int .i64 k.what, .int .i64 k.unit, .int .i64 k.arg]
theorem flat_ev : ∀ (ks : List EvV) (i j : Nat) (k : EvV), ks[i]? = some k → j < 3 → (ks.flatMap EvV.cs)[i * 3 + j]? = k.cs[j]?
  | [], i, j, k, h, _ => by simp at h
  | x :: ks, 0, j, k, h, hj => by
    simp at h
    subst h
    rw [List.flatMap_cons, List.getElem?_append_left (by simp [EvV.cs]; omega)]
    simp
  | x :: ks, i + 1, j, k, h, hj => by
    rw [List.flatMap_cons, List.getElem?_append_right (by simp [EvV.cs]; omega)]
    have : (i + 1) * 3 + j - (EvV.cs x).length = i * 3 + j := by simp [EvV.cs]; omega
    rw [this]
    exact flat_ev ks i j k (by simpa using h) hj
/-- v is a slice of them, in a block of its own from base on. -/
def Evo (w : World) (base : Nat) (v : Value) (ks : List EvV) : Prop := w.ownsRow base 45 3 v ks.length (ks.flatMap EvV.cs)
theorem Evo.nil (w : World) (base : Nat) : Evo w base (.slice none 0 0) [] := World.ownsRow_nil _ _ _ _
theorem Evo.below {w w' : World} {base : Nat} {v : Value} {ks : List EvV} (h : Evo w base v ks) (hb : Below w.heap.size w w') : Evo w' base v ks :=
  World.ownsRow.kept h (row := none) ⟨hb.os, hb.tape, hb.output, hb.size, fun k hk _ => hb.block k hk⟩ (by cases v.ownBlock <;> simp)
theorem Evo.kept {w w' : World} {base : Nat} {v : Value} {ks : List EvV} {row : Option Nat} (h : Evo w base v ks) (hg : w.grownBy w' row) (hne : v.ownBlock = none ∨ v.ownBlock ≠ row) : Evo w' base v ks := World.ownsRow.kept h hg hne
theorem Evo.alloc {w : World} {base : Nat} {v : Value} {ks : List EvV} (h : Evo w base v ks) (o : Obj) : Evo (w.alloc o) base v ks := World.ownsRow.alloc h o
theorem Evo.block {w : World} {base : Nat} {v : Value} {ks : List EvV} (h : Evo w base v ks) : ∀ k, v.ownBlock = some k → base ≤ k ∧ k < w.heap.size := World.ownsRow.lt h
theorem Evo.mono {w : World} {base base' : Nat} {v : Value} {ks : List EvV} (h : Evo w base v ks) (hb : base' ≤ base) : Evo w base' v ks := by
  refine ⟨h.1, ?_⟩
  rcases h.2 with h1 | ⟨g, cap, cur, h1, h2, h3⟩
  · exact .inl h1
  · exact .inr ⟨g, cap, cur, h1, Nat.le_trans hb h2, h3⟩
theorem Evo.l {w : World} {base : Nat} {v : Value} {ks : List EvV} (h : Evo w base v ks) : Evl w v ks := by
  rcases h.2 with ⟨hv, h0⟩ | ⟨g, cap, cur, hv, hb, hg, h1, h2, h3, h4⟩
  · exact ⟨none, 0, by rw [hv, h0], by omega, by omega, fun hn => absurd (List.length_eq_zero_iff.1 h0) hn⟩
  · refine ⟨_, cap, hv, h1, by unfold maxLen at h2; omega, fun _ => ⟨_, rfl, lt_of_block hg, fun i k hi => ?_⟩⟩
    have hil : i < ks.length := (List.getElem?_eq_some_iff.1 hi).1
    have h5 : w.ownsRow base 45 3 (.slice (some ⟨g, 0, none⟩) ks.length cap) ks.length (ks.flatMap EvV.cs) := by rw [← hv]; exact h
    have hc : ∀ j u, j < 3 → k.cs[j]? = some u → w.cell? ⟨g, i * 3 + j, none⟩ = some u := fun j u hj hu => by
      rw [h5.cellAt (i * 3 + j) (by omega), flat_ev ks i j k hi hj, hu]
    rw [Addr.add_lit, Nat.zero_add]
    exact ⟨hc 0 _ (by decide) rfl, hc 1 _ (by decide) rfl, hc 2 _ (by decide) rfl⟩
theorem Evo.len {w : World} {base : Nat} {v : Value} {ks : List EvV} (h : Evo w base v ks) : ∃ a c, v = .slice a ks.length c := by
  obtain ⟨a, c, h1, -⟩ := h.l
  exact ⟨a, c, h1⟩

/-- one more. -/
theorem app_ev {ops : Array Oper} {rest : List Oper} {o : Oper} {a : Act} {Q : Exit → Act → World → Prop} (w : World) (hgd : o.guard = none) (s x : Operand)
    (ho : o.op = .call { callee := .builtin .append, args := #[s, x], argTypes := #[34, 34] }) (base : Nat) (v : Value) (ks : List EvV) (hs : a.eval s = v) (hown : Evo w base v ks)
    (b : Nat) (d : EvV) (hx : a.eval x = .slice (some ⟨b, 0, none⟩) 1 1) (hd : Evc w ⟨b, 0, none⟩ d) (hl : ks.length ≤ 1000000) (hbase : base ≤ w.heap.size)
    (h : ∀ g cap w', Evo w' base (.slice (some ⟨g, 0, none⟩) (ks.length + 1) cap) (ks ++ [d]) → w.grownBy w' v.ownBlock → (v.ownBlock = some g ∨ g = w.heap.size) → g < w'.heap.size → wpList Tryd.prog ops Q rest (a.put o.dst (.slice (some ⟨g, 0, none⟩) (ks.length + 1) cap)) w') :
    wpList Tryd.prog ops Q (o :: rest) a w := by
  obtain ⟨i0, hi, hz0, hz1, hz2⟩ := info_parts info_ev
  refine wpList_append_lies w hgd s x 34 ho base 45 i0 (.agg #[.int .i64 0, .int .i64 0, .int .i64 0]) 3 24 Tryd.underlying34 hi hz0 hz1 hz2 rfl (by decide) v ks.length _ hs hown ⟨b, 0, none⟩ 1 1 d.cs hx rfl ?_ ?_ (by decide) (by unfold maxLen; omega) (by omega) hbase _ rfl ?_
  · intro j u hj
    have hjn : j < 3 := (List.getElem?_eq_some_iff.1 hj).1
    rw [Addr.add_lit, Nat.zero_add]
    match j, hjn, hj with
    | 0, _, hj => simp [EvV.cs] at hj; subst hj; exact hd.c0
    | 1, _, hj => simp [EvV.cs] at hj; subst hj; exact hd.c1
    | 2, _, hj => simp [EvV.cs] at hj; subst hj; exact hd.c2
  · intro u hu
    simp [EvV.cs] at hu
    rcases hu with rfl | rfl | rfl <;> rfl
  · intro g cap w' h1 h2 h3 h4
    refine h g cap w' ?_ h2 h3 h4
    unfold Evo
    rw [List.length_append, List.flatMap_append]
    simpa using h1
end Go.Proofs.YtagnjmellcibhaaDoor

namespace Go.Proofs.YtagnjmellcibhaaDoor
open Go.RowKit
set_option linter.unusedVariables false

theorem gb_trans {a b c : World} {r : Option Nat} (h : a.grownBy b r) (k : b.grownBy c r) : a.grownBy c r :=
  ⟨k.os.trans h.os, k.tape.trans h.tape, k.output.trans h.output, Nat.le_trans h.size k.size, fun i hi hr => (k.block i (Nat.lt_of_lt_of_le hi h.size) hr).trans (h.block i hi hr)⟩
theorem gb_below {a b : World} {r : Option Nat} (h : Below a.heap.size a b) : a.grownBy b r := ⟨h.os, h.tape, h.output, h.size, fun k hk _ => h.block k hk⟩
theorem gb_kp {a b : World} {z : Nat} (h : Kp z a b) : a.grownBy b (some z) := ⟨h.os, h.tape, h.output, h.size, fun k hk hn => h.block k hk (fun e => hn (by rw [e]))⟩
theorem kp_gb {z : Nat} {a b c : World} {r : Option Nat} (h : Kp z a b) (g : b.grownBy c r) (hr : ∀ k, r = some k → a.heap.size ≤ k) : Kp z a c :=
  ⟨g.os.trans h.os, g.tape.trans h.tape, g.output.trans h.output, Nat.le_trans h.size g.size, fun i hi hz => (g.block i (Nat.lt_of_lt_of_le hi h.size) (fun e => by have := hr i e.symm; omega)).trans (h.block i hi hz)⟩
theorem cell_kp9 {w w' : World} {z : Nat} {p : Addr} {u : Value} (h : w.cell? p = some u) (k : Kp z w w') (hz : p.block ≠ z) : w'.cell? p = some u := by
  rw [World.cell?_of_block (k.block p.block (cell_lt h) hz)]; exact h
theorem Bw.kp9 {w w' : World} {z y : Nat} {W : WV} {u1 u2 u3 u4 u5 : Value} (h : Bw w z W u1 u2 u3 u4 u5) (k : Kp y w w') (hn : z ≠ y) : Bw w' z W u1 u2 u3 u4 u5 :=
  ⟨cell_kp9 h.c0 k hn, cell_kp9 h.c1 k hn, cell_kp9 h.c2 k hn, cell_kp9 h.c3 k hn, cell_kp9 h.c4 k hn, cell_kp9 h.c5 k hn, cell_kp9 h.c6 k hn, cell_kp9 h.c7 k hn, cell_kp9 h.c8 k hn⟩
theorem Unc.kp9 {w w' : World} {z : Nat} {y : Addr} {u : UnV} (h : Unc w y u) (k : Kp z w w') (hn : y.block ≠ z) : Unc w' y u :=
  ⟨cell_kp9 h.c0 k hn, cell_kp9 h.c1 k hn, cell_kp9 h.c2 k hn, cell_kp9 h.c3 k hn, cell_kp9 h.c4 k hn, cell_kp9 h.c5 k hn, cell_kp9 h.c6 k hn, cell_kp9 h.c7 k hn⟩
theorem cell_gb {w w' : World} {r : Option Nat} {p : Addr} {u : Value} (h : w.cell? p = some u) (k : w.grownBy w' r) (hz : r ≠ some p.block) : w'.cell? p = some u := by
  rw [World.cell?_of_block (k.block p.block (cell_lt h) (fun e => hz e.symm))]; exact h
theorem Unc.gb {w w' : World} {r : Option Nat} {y : Addr} {u : UnV} (h : Unc w y u) (k : w.grownBy w' r) (hn : r ≠ some y.block) : Unc w' y u :=
  ⟨cell_gb h.c0 k hn, cell_gb h.c1 k hn, cell_gb h.c2 k hn, cell_gb h.c3 k hn, cell_gb h.c4 k hn, cell_gb h.c5 k hn, cell_gb h.c6 k hn, cell_gb h.c7 k hn⟩
theorem wx_bw {w : World} {z : Nat} {X : WV} {u1 u2 u3 u4 u5 : Value} (h : Wx w z (.int .i64 X.turn) (.int .i64 X.next) (.int .i64 X.wide) (.int .i64 X.high) u1 u2 u3 u4 u5) : Bw w z X u1 u2 u3 u4 u5 := by
  obtain ⟨h0, h1, h2, h3, h4, h5, h6, h7, h8⟩ := h.cells
  exact ⟨h0, h1, h2, h3, h4, h5, h6, h7, h8⟩
theorem own_low {w w' : World} {B base : Nat} {T : TypeId} {size : Nat} {u : Value} {n : Nat} {cs : List Value} (h : w.ownsRow base T size u n cs) (k : Below B w w') (hz : ∀ b, u.ownBlock = some b → b < B) : w'.ownsRow base T size u n cs := by
  refine ⟨h.1, ?_⟩
  rcases h.2 with h1 | ⟨g, cap, cur, h1, h2, h3, h4⟩
  · exact .inl h1
  · exact .inr ⟨g, cap, cur, h1, h2, (k.block g (hz g (by rw [h1]; rfl))).trans h3, h4⟩
theorem own_gb {w w' : World} {base : Nat} {T : TypeId} {size : Nat} {u : Value} {n : Nat} {cs : List Value} {r : Option Nat} (h : w.ownsRow base T size u n cs) (k : w.grownBy w' r) (hz : ∀ b, u.ownBlock = some b → r ≠ some b) : w'.ownsRow base T size u n cs := by
  refine ⟨h.1, ?_⟩
  rcases h.2 with h1 | ⟨g, cap, cur, h1, h2, h3, h4⟩
  · exact .inl h1
  · exact .inr ⟨g, cap, cur, h1, h2, (k.block g (lt_of_block h3) (fun e => hz g (by rw [h1]; rfl) e.symm)).trans h3, h4⟩
theorem kind_new {w : World} {z : Nat} (k : KV) (hz : w.heap.size = z) : Kc (w.alloc (Obj.cells #[.string k.b, .int .i64 k.n0, .int .i64 k.n1, .int .i64 k.n2, .int .i64 k.n3, .int .i64 k.n4, .int .i64 k.n5, .int .i64 k.n6, .int .i64 k.n7, .bool k.f, .bool k.t] 42)) ⟨z, 0, none⟩ k := by
  subst hz
  exact ⟨by simp, by simp, by simp, by simp, by simp, by simp, by simp, by simp, by simp, by simp, by simp⟩
theorem Kc.kp9 {w w' : World} {z : Nat} {y : Addr} {k : KV} (h : Kc w y k) (q : Kp z w w') (hn : y.block ≠ z) : Kc w' y k :=
  ⟨cell_kp9 h.c0 q hn, cell_kp9 h.c1 q hn, cell_kp9 h.c2 q hn, cell_kp9 h.c3 q hn, cell_kp9 h.c4 q hn, cell_kp9 h.c5 q hn, cell_kp9 h.c6 q hn, cell_kp9 h.c7 q hn, cell_kp9 h.c8 q hn, cell_kp9 h.c9 q hn, cell_kp9 h.c10 q hn⟩
theorem kc_of {w : World} {xk : Addr} {n q kn : Nat} {ks : List KV} {k : KV} (h : Kl w (.slice (some xk) n q) ks) (hk : ks[kn]? = some k) : Kc w (xk.add (kn * 11)) k := by
  obtain ⟨a, c, he, -, -, hc⟩ := h
  obtain ⟨x, hx, -, hxc⟩ := hc (by intro h; rw [h] at hk; simp at hk)
  injection he with he
  rw [← he] at hx
  injection hx with hx
  rw [hx]
  exact hxc kn k hk
end Go.Proofs.YtagnjmellcibhaaDoor

namespace Go.Proofs.YtagnjmellcibhaaDoor
open Go.RowKit
set_option linter.unusedVariables false

theorem Evo.kp9 {w w' : World} {base z : Nat} {v : Value} {ks : List EvV} (h : Evo w base v ks) (k : Kp z w w') (hz : z < base) : Evo w' base v ks := owns_kp h k hz
end Go.Proofs.YtagnjmellcibhaaDoor

namespace Go.Proofs.YtagnjmellcibhaaDoor
open Go.RowKit Wy
set_option linter.unusedVariables false

/-- a unit goes as far as it can: what it has left, the cells, and all units then. -/
inductive Goes (ks : List KV) (X : WV) (Wn Hn : Nat) (k : KV) (i : Nat) : List UnV → Int → List Int → List UnV → Prop where
  | stop {us : List UnV} {left : Int} {u : UnV} {c : Nat} {gg : Int} (hu : us[i]? = some u) (hw : WishSays ks { X with us := us } Wn Hn u k c) (hg : X.gs[c]? = some gg) (h : left < Fd.onto gg k.f ∨ us.any (fun o => o.at_ == (c : Int)) = true) : Goes ks X Wn Hn k i us left [] us
  | step {us us' : List UnV} {left : Int} {u : UnV} {c : Nat} {gg : Int} {cells : List Int} (hu : us[i]? = some u) (hw : WishSays ks { X with us := us } Wn Hn u k c) (hg : X.gs[c]? = some gg) (h1 : ¬ left < Fd.onto gg k.f) (h2 : us.any (fun o => o.at_ == (c : Int)) = false) (h3 : Goes ks X Wn Hn k i (us.set i { u with at_ := (c : Nat) }) (left - Fd.onto gg k.f) cells us') : Goes ks X Wn Hn k i us left ((c : Int) :: cells) us'
theorem wish_pos {ks : List KV} {X : WV} {Wn Hn : Nat} {u : UnV} {k : KV} {c : Nat} {gg : Int} (h : WishSays ks X Wn Hn u k c) (hg : X.gs[c]? = some gg) (hc : u.at_ ≠ (c : Nat)) : 0 < Fd.onto gg k.f := by
  obtain ⟨an, bn, l, ha, -, -, -, hh⟩ := h
  rcases hh with ⟨-, rfl⟩ | ⟨-, h⟩
  · exact absurd ha hc
  · rcases h with ⟨-, rfl⟩ | ⟨-, h⟩
    · exact absurd ha hc
    · have := h.is.2.1
      rw [List.getD_eq_getElem?_getD, List.getElem?_map, hg] at this
      exact this
set_option maxRecDepth 100000 in
set_option maxHeartbeats 16000000 in
theorem walk_any (vk : Value) (ks : List KV) (X : WV) (us : List UnV) (g1 g2 g3 g5 : Value) (g cap i : Nat) (rest : List Value) (u : UnV) (k : KV) (Wn Hn : Nat) (w : World) (hk : Kl w vk ks) (hs : Sd w) (G : Fd.Good Wn Hn X.gs X.os) (e1 : X.wide = (Wn : Nat)) (e2 : X.high = (Hn : Nat))
    (hst : ∀ V us', us'.length = us.length → Kp g w V → Ub V g us' rest → Wl V (.agg #[.int .i64 X.turn, .int .i64 X.next, .int .i64 X.wide, .int .i64 X.high, g1, g2, g3, .slice (some ⟨g, 0, none⟩) us.length cap, g5]) { X with us := us' } ∧ Kl V vk ks ∧ Sd V) (hub : Ub w g us rest) (hui : us[i]? = some u) (hkk : ks[u.kind.toNat]? = some k) (hul : us.length ≤ 40) (hus : ∀ h ∈ us, Fit ks (Wn * Hn) h) (hg : 0 ≤ u.goal ∧ u.goal < (Wn * Hn : Nat)) (hsp : 0 ≤ k.n4 ∧ k.n4 ≤ 4) :
    Calls Tryd.prog 18 #[vk, .agg #[.int .i64 X.turn, .int .i64 X.next, .int .i64 X.wide, .int .i64 X.high, g1, g2, g3, .slice (some ⟨g, 0, none⟩) us.length cap, g5], .pointer (some ⟨g, i * 8, none⟩)] w fun e w' => ∃ v us' cells, e = .returned v ∧ Ow w' w.heap.size v cells ∧ Goes ks X Wn Hn k i us k.n4 cells us' ∧ Ub w' g us' rest ∧ Kp g w w' ∧ cells.length ≤ 4 ∧ (∃ a, us' = us.set i { u with at_ := a } ∧ 0 ≤ a ∧ a < (Wn * Hn : Nat)) := by
  have hil : i < us.length := (List.getElem?_eq_some_iff.1 hui).1
  have hfu := hus u (List.mem_of_getElem? hui)
  obtain ⟨kn, hkn⟩ : ∃ n : Nat, u.kind = n := ⟨u.kind.toNat, by have := hfu.1; omega⟩
  have hkk' : ks[kn]? = some k := by rw [hkn, Int.toNat_natCast] at hkk; exact hkk
  have hkl : kn < ks.length := (List.getElem?_eq_some_iff.1 hkk').1
  have K : Hid (Kl w vk ks) := hk
  have S : Hid (Sd w) := hs
  have GD : Hid (Fd.Good Wn Hn X.gs X.os ∧ X.wide = (Wn : Nat) ∧ X.high = (Hn : Nat) ∧ ks[u.kind.toNat]? = some k ∧ us.length ≤ 40 ∧ (∀ h ∈ us, Fit ks (Wn * Hn) h) ∧ (0 ≤ u.goal ∧ u.goal < (Wn * Hn : Nat)) ∧ us[i]? = some u ∧ Fit ks (Wn * Hn) u ∧ i < us.length) := ⟨G, e1, e2, hkk, hul, hus, hg, hui, hfu, hil⟩
  have ST : Hid (∀ V us', us'.length = us.length → Kp g w V → Ub V g us' rest → Wl V (.agg #[.int .i64 X.turn, .int .i64 X.next, .int .i64 X.wide, .int .i64 X.high, g1, g2, g3, .slice (some ⟨g, 0, none⟩) us.length cap, g5]) { X with us := us' } ∧ Kl V vk ks ∧ Sd V) := hst
  have UB : Hid (Ub w g us rest ∧ g < w.heap.size) := ⟨hub, hub.lt⟩
  obtain ⟨pk, qk, rfl, ck1, ck2, kc⟩ := hk
  obtain ⟨xk, rfl, hxl, hxc⟩ := kc (by intro h; subst h; simp at hkl)
  have KK : Hid (Kc w (xk.add (kn * 11)) k ∧ (xk.add (kn * 11)).block < w.heap.size) := ⟨hxc kn k hkk', by rw [add_block]; exact hxl⟩
  have HE : Hid (u.kind = (kn : Nat)) := hkn
  have SP : Hid (0 ≤ k.n4 ∧ k.n4 ≤ 4) := hsp
  clear hs G e1 e2 hst hub hui hkk hus hg hsp hkn hkk' kc hxc hxl hfu
  go_enter Tryd.func18, Tryd.ntmps18
  go_upto_region 2 with fail
  have B0 : Hid (Below w.heap.size w (w.alloc (Obj.cells #[.int .i64 X.turn, .int .i64 X.next, .int .i64 X.wide, .int .i64 X.high, g1, g2, g3, .slice (some ⟨g, 0, none⟩) us.length cap, g5] 29))) := (Below.refl _ _).alloc (Nat.le_refl _) _
  have X0 : Hid (Bw (w.alloc (Obj.cells #[.int .i64 X.turn, .int .i64 X.next, .int .i64 X.wide, .int .i64 X.high, g1, g2, g3, .slice (some ⟨g, 0, none⟩) us.length cap, g5] 29)) w.heap.size X (g1) (g2) (g3) (.slice (some ⟨g, 0, none⟩) us.length cap) (g5)) := Bw.mk' X _ _ _ _ _ rfl
  have Z0 : Hid ((w.alloc (Obj.cells #[.int .i64 X.turn, .int .i64 X.next, .int .i64 X.wide, .int .i64 X.high, g1, g2, g3, .slice (some ⟨g, 0, none⟩) us.length cap, g5] 29)).heap.size = w.heap.size + 1) := by unfold Hid; simp
  generalize (w.alloc (Obj.cells #[.int .i64 X.turn, .int .i64 X.next, .int .i64 X.wide, .int .i64 X.high, g1, g2, g3, .slice (some ⟨g, 0, none⟩) us.length cap, g5] 29)) = w0 at *
  have U0 : Hid (Ub w0 g us rest) := UB.out.1.below B0.out UB.out.2
  obtain ⟨z0, z1, z2, z3, z4, z5, z6, z7, z8, z9, z10⟩ := KK.out.1.below B0.out KK.out.2
  have y2 : w0.cell? ⟨g, i * 8 + 2, none⟩ = some (.int .i64 (kn : Nat)) := by have := (U0.out.unc GD.out.2.2.2.2.2.2.2.1).c2; rw [HE.out] at this; exact this
  go_upto_region 3 with fail
  have BK : Hid (Below w0.heap.size w0 (w0.alloc (Obj.cells #[.string k.b, .int .i64 k.n0, .int .i64 k.n1, .int .i64 k.n2, .int .i64 k.n3, .int .i64 k.n4, .int .i64 k.n5, .int .i64 k.n6, .int .i64 k.n7, .bool k.f, .bool k.t] 42))) := (Below.refl _ _).alloc (Nat.le_refl _) _
  have K1 : Hid (Kc (w0.alloc (Obj.cells #[.string k.b, .int .i64 k.n0, .int .i64 k.n1, .int .i64 k.n2, .int .i64 k.n3, .int .i64 k.n4, .int .i64 k.n5, .int .i64 k.n6, .int .i64 k.n7, .bool k.f, .bool k.t] 42)) ⟨w.heap.size + 1, 0, none⟩ k) := kind_new k Z0.out
  have Z1 : Hid ((w0.alloc (Obj.cells #[.string k.b, .int .i64 k.n0, .int .i64 k.n1, .int .i64 k.n2, .int .i64 k.n3, .int .i64 k.n4, .int .i64 k.n5, .int .i64 k.n6, .int .i64 k.n7, .bool k.f, .bool k.t] 42)).heap.size = w.heap.size + 2) := by have := Z0.out; unfold Hid; simp; omega
  rw [Z0.out]
  generalize (w0.alloc (Obj.cells #[.string k.b, .int .i64 k.n0, .int .i64 k.n1, .int .i64 k.n2, .int .i64 k.n3, .int .i64 k.n4, .int .i64 k.n5, .int .i64 k.n6, .int .i64 k.n7, .bool k.f, .bool k.t] 42)) = w1 at *
  have B1 : Hid (Below w.heap.size w w1) := B0.out.trans (BK.out.mono B0.out.size)
  have X1 : Hid (Bw w1 w.heap.size X (g1) (g2) (g3) (.slice (some ⟨g, 0, none⟩) us.length cap) (g5)) := X0.out.below BK.out X0.out.lt
  have U1 : Hid (Ub w1 g us rest) := U0.out.below BK.out U0.out.lt
  clear z0 z1 z2 z3 z4 z5 z6 z7 z8 z9 z10 y2 B0 X0 Z0 U0 BK
  have c5 : w1.cell? ⟨w.heap.size + 1, 5, none⟩ = some (.int .i64 k.n4) := by have := K1.out.c5; rw [Nat.zero_add] at this; exact this
  go_upto_region 4 with fail
  clear c5
  go_loopw [7, 9] (fun v7 v9 V => ∃ (a left : Int) (cells : List Int) (cv : Value), cv = v7 ∧ v9 = .int .i64 left ∧ 0 ≤ left ∧ (cells.length : Int) + left ≤ 4 ∧ (0 ≤ a ∧ a < (Wn * Hn : Nat)) ∧ Ub V g (us.set i { u with at_ := a }) rest ∧ Ow V w1.heap.size cv cells ∧ Kp g w1 V ∧ (∀ cells' us', Goes ks X Wn Hn k i (us.set i { u with at_ := a }) left cells' us' → Goes ks X Wn Hn k i us k.n4 (cells ++ cells') us')) (fun _ v9 _ => (intOf v9).toNat)
  case atStart =>
    have hset : us.set i { u with at_ := u.at_ } = us := by
      have h1 := GD.out.2.2.2.2.2.2.2.1
      obtain ⟨h2, h3⟩ := List.getElem?_eq_some_iff.1 h1
      have : ({ u with at_ := u.at_ } : UnV) = us[i] := by rw [h3]
      rw [this, List.set_getElem_self]
    exact ⟨u.at_, k.n4, [], _, rfl, rfl, SP.out.1, by have := SP.out.2; simp; omega, GD.out.2.2.2.2.2.2.2.2.1.2, by rw [hset]; exact U1.out, Ow.nil _ _, Kp.refl _ _, fun cells' us' h => by rw [hset] at h; exact h⟩
  case round =>
    obtain ⟨a, left, cells, cv, rfl, rfl, hl0, hcl, hab, hub, how, hkp, hgo⟩ := hrel
    obtain ⟨us1, hus1⟩ : ∃ l, us.set i { u with at_ := a } = l := ⟨_, rfl⟩
    obtain ⟨u1, hu1⟩ : ∃ v : UnV, { u with at_ := a } = v := ⟨_, rfl⟩
    have hi1 : us1[i]? = some u1 := by rw [← hus1, hu1, List.getElem?_set_self GD.out.2.2.2.2.2.2.2.2.2]
    have hln : us1.length = us.length := by rw [← hus1, List.length_set]
    have F1 : Hid (us1[i]? = some u1 ∧ us1.length = us.length ∧ { u with at_ := a } = u1 ∧ us.set i { u with at_ := a } = us1 ∧ Fit ks (Wn * Hn) u1 ∧ (∀ h ∈ us1, Fit ks (Wn * Hn) h) ∧ ks[u1.kind.toNat]? = some k ∧ (0 ≤ u1.goal ∧ u1.goal < (Wn * Hn : Nat))) := by
      have hf : Fit ks (Wn * Hn) u1 := by rw [← hu1]; exact ⟨GD.out.2.2.2.2.2.2.2.2.1.1, hab⟩
      refine ⟨hi1, hln, hu1, hus1, hf, fun h hh => ?_, by rw [← hu1]; exact GD.out.2.2.2.1, by rw [← hu1]; exact GD.out.2.2.2.2.2.2.1⟩
      rw [← hus1] at hh
      rcases List.mem_or_eq_of_mem_set hh with hh | hh
      · exact GD.out.2.2.2.2.2.1 h hh
      · rw [hh, hu1]; exact hf
    rw [hus1] at hub hgo
    have UB1 : Hid (Ub wr g us1 rest) := hub
    have OC : Hid (Ow wr w1.heap.size cv cells) := how
    have KP : Hid (Kp g w1 wr) := hkp
    have KW : Hid (Kp g w wr) := (Kp.of B1.out).trans hkp
    have HG : Hid (∀ cells' us', Goes ks X Wn Hn k i us1 left cells' us' → Goes ks X Wn Hn k i us k.n4 (cells ++ cells') us') := hgo
    have XR : Hid (Bw wr w.heap.size X (g1) (g2) (g3) (.slice (some ⟨g, 0, none⟩) us.length cap) (g5)) := X1.out.kp9 hkp (by have := UB.out.2; omega)
    have KR : Hid (Kc wr ⟨w.heap.size + 1, 0, none⟩ k) := K1.out.kp9 hkp (by have := UB.out.2; show w.heap.size + 1 ≠ g; omega)
    clear hub how hkp hgo hus1 hu1 hi1 hln hab
    have hcl3 : cells.length ≤ 4 := by omega
    have WL : Hid (∀ V, Below wr.heap.size wr V → Wl V (.agg #[.int .i64 X.turn, .int .i64 X.next, .int .i64 X.wide, .int .i64 X.high, g1, g2, g3, .slice (some ⟨g, 0, none⟩) us.length cap, g5]) { X with us := us1 } ∧ Kl V (.slice (some xk) ks.length qk) ks ∧ Sd V) := fun V hb => by
      have hkv : Kp g w V := KW.out.trans (Kp.of hb)
      exact ST.out V us1 F1.out.2.1 hkv (UB1.out.below hb UB1.out.lt)
    have C4 : Hid (∀ V, Below wr.heap.size wr V → (Bw V w.heap.size X (g1) (g2) (g3) (.slice (some ⟨g, 0, none⟩) us.length cap) (g5) ∧ Unc V ⟨g, i * 8, none⟩ u1)) := fun V hb => ⟨XR.out.below hb XR.out.lt, (UB1.out.below hb UB1.out.lt).unc F1.out.1⟩
    have DR : Hid (Below wr.heap.size wr { wr with drawn := wr.drawn + 1 }) := (Below.refl _ _).drew
    go_upto_region 4 with fail
    refine wp_region_two [(true, 0), (true, 1), (true, 2), (true, 3), (true, 4), (false, 5)] [(false, 6)] (fun V => Bw V w.heap.size X (g1) (g2) (g3) (.slice (some ⟨g, 0, none⟩) us.length cap) (g5) ∧ Unc V ⟨g, i * 8, none⟩ u1) (by kernel_rfl) (by kernel_rfl) (by kernel_rfl) (by decide +kernel) (by decide +kernel) (C4.out _ DR.out) ?_
    generalize ({ wr with drawn := wr.drawn + 1 } : World) = v1 at *
    refine headT_read rfl (.slice (some xk) ks.length qk) (by go_simp) (fun V hV => by go_simp) ?_
    go_simp
    refine headT_read rfl (.agg #[.int .i64 X.turn, .int .i64 X.next, .int .i64 X.wide, .int .i64 X.high, g1, g2, g3, .slice (some ⟨g, 0, none⟩) us.length cap, g5]) (by go_simp) (fun V hV => by obtain ⟨⟨x0, x1, x2, x3, x4, x5, x6, x7, x8⟩, ⟨y0, y1, y2, y3, y4, y5, y6, y7⟩⟩ := hV; go_simp) ?_
    go_simp
    refine headT_read rfl (.pointer (some ⟨g, i * 8, none⟩)) (by go_simp) (fun V hV => by go_simp) ?_
    go_simp
    refine headT_read rfl (.pointer (some ⟨g, i * 8, none⟩)) (by go_simp) (fun V hV => by go_simp) ?_
    go_simp
    refine headT_read rfl (.agg #[.int .i64 u1.id, .int .i64 u1.player, .int .i64 u1.kind, .int .i64 u1.at_, .int .i64 u1.life, .int .i64 u1.load, .int .i64 u1.task, .int .i64 u1.goal]) (by go_simp) (fun V hV => by obtain ⟨⟨x0, x1, x2, x3, x4, x5, x6, x7, x8⟩, ⟨y0, y1, y2, y3, y4, y5, y6, y7⟩⟩ := hV; go_simp) ?_
    go_simp
    refine headT_call rfl 33 #[.slice (some xk) ks.length qk, .agg #[.int .i64 X.turn, .int .i64 X.next, .int .i64 X.wide, .int .i64 X.high, g1, g2, g3, .slice (some ⟨g, 0, none⟩) us.length cap, g5], .agg #[.int .i64 u1.id, .int .i64 u1.player, .int .i64 u1.kind, .int .i64 u1.at_, .int .i64 u1.life, .int .i64 u1.load, .int .i64 u1.task, .int .i64 u1.goal]] (by go_simp) (by go_simp) ?_
    have WI : Hid (Calls Tryd.prog 33 #[.slice (some xk) ks.length qk, .agg #[.int .i64 X.turn, .int .i64 X.next, .int .i64 X.wide, .int .i64 X.high, g1, g2, g3, .slice (some ⟨g, 0, none⟩) us.length cap, g5], .agg #[.int .i64 u1.id, .int .i64 u1.player, .int .i64 u1.kind, .int .i64 u1.at_, .int .i64 u1.life, .int .i64 u1.load, .int .i64 u1.task, .int .i64 u1.goal]] v1 fun e w' => ∃ c : Nat, e = .returned (.int .i64 (c : Nat)) ∧ WishSays ks { X with us := us1 } Wn Hn u1 k c ∧ c < Wn * Hn ∧ Below v1.heap.size v1 w') :=
      wish_any _ _ ks { X with us := us1 } u1 Wn Hn k v1 (WL.out v1 DR.out).2.1 (WL.out v1 DR.out).1 (WL.out v1 DR.out).2.2 GD.out.1 GD.out.2.1 GD.out.2.2.1 (by show us1.length ≤ 1000000; rw [F1.out.2.1]; omega) F1.out.2.2.2.2.1 F1.out.2.2.2.2.2.2.1 F1.out.2.2.2.2.2.1 F1.out.2.2.2.2.2.2.2
    refine Calls.mono WI.out ?_
    rintro e v2 ⟨c, rfl, hws, hcn, hb⟩
    have B2 : Hid (Below wr.heap.size wr v2) := DR.out.trans (hb.mono DR.out.size)
    have hgl := GD.out.1.gl
    obtain ⟨gg, hgg⟩ : ∃ x, X.gs[c]? = some x := ⟨_, List.getElem?_eq_getElem (by omega)⟩
    have WS : Hid (WishSays ks { X with us := us1 } Wn Hn u1 k c ∧ c < Wn * Hn ∧ X.gs[c]? = some gg) := ⟨hws, hcn, hgg⟩
    refine ⟨_, rfl, C4.out _ B2.out, ?_⟩
    clear hb hws hcn hgl hgg DR WI
    go_simp
    refine sched_value rfl (.int .i64 (c : Nat)) v2 (by go_simp) (by go_simp) trivial ?_
    go_simp
    unfold wpSched
    obtain ⟨⟨x0, x1, x2, x3, x4, x5, x6, x7, x8⟩, -⟩ := C4.out _ B2.out
    have c9 : v2.cell? ⟨w.heap.size + 1, 9, none⟩ = some (.bool k.f) := by have := (KR.out.below B2.out KR.out.lt).c9; rw [Nat.zero_add] at this; exact this
    have FL : Hid (Fl v2 (.agg #[.int .i64 X.wide, .int .i64 X.high, g1, g2]) (Wn : Nat) (Hn : Nat) X.gs X.os) := by
      have h9 := (WL.out v2 B2.out).1
      have := fl_of (X := { X with us := us1 }) h9
      have e1 : ({ X with us := us1 } : WV).wide = (Wn : Nat) := GD.out.2.1
      have e2 : ({ X with us := us1 } : WV).high = (Hn : Nat) := GD.out.2.2.1
      rw [e1, e2] at this
      rw [GD.out.2.1, GD.out.2.2.1]
      exact this
    go_wp2_with fail
    refine (Step_ok _ Wn Hn X.gs X.os c gg k.f v2 FL.out GD.out.1 WS.out.2.1 WS.out.2.2).mono ?_
    rintro e v3 ⟨rfl, hb⟩
    obtain ⟨s, hs⟩ : ∃ s, Fd.onto gg k.f = s := ⟨_, rfl⟩
    have SS : Hid (Fd.onto gg k.f = s) := hs
    rw [hs]
    have B3 : Hid (Below wr.heap.size wr v3) := B2.out.trans (hb.mono B2.out.size)
    clear hb hs x0 x1 x2 x3 x4 x5 x6 x7 x8 c9 FL B2
    by_cases hsl : left < s
    · have FIN : Hid (Goes ks X Wn Hn k i us k.n4 cells us1) := by
        have := HG.out [] us1 (.stop F1.out.1 WS.out.1 WS.out.2.2 (.inl (by rw [SS.out]; exact hsl)))
        rw [List.append_nil] at this
        exact this
      go_wp2
      go_ret
      exact ⟨cv, us1, cells, rfl, (OC.out.below B3.out).mono (by have := Z1.out; omega), FIN.out, UB1.out.below B3.out UB1.out.lt, KW.out.trans (Kp.of B3.out), hcl3, a, F1.out.2.2.2.1.symm, by have := F1.out.2.2.2.2.1.2; rw [← F1.out.2.2.1] at this; exact this⟩
    obtain ⟨⟨x0, x1, x2, x3, x4, x5, x6, x7, x8⟩, -⟩ := C4.out _ B3.out
    go_wp2_with fail
    refine (taken_any _ { X with us := us1 } (c : Nat) v3 (WL.out v3 B3.out).1).mono ?_
    rintro e v4 ⟨rfl, hb⟩
    have B4 : Hid (Below wr.heap.size wr v4) := B3.out.trans (hb.mono B3.out.size)
    obtain ⟨tk, htk⟩ : ∃ t, us1.any (fun u => u.at_ == (c : Int)) = t := ⟨_, rfl⟩
    have TK : Hid (us1.any (fun u => u.at_ == (c : Int)) = tk) := htk
    have hx1 : ({ X with us := us1 } : WV).us.any (fun u => u.at_ == (c : Int)) = tk := htk
    rw [hx1]
    clear hb htk hx1 x0 x1 x2 x3 x4 x5 x6 x7 x8 B3
    cases tk with
    | true =>
      have FIN : Hid (Goes ks X Wn Hn k i us k.n4 cells us1) := by
        have := HG.out [] us1 (.stop F1.out.1 WS.out.1 WS.out.2.2 (.inr TK.out))
        rw [List.append_nil] at this
        exact this
      go_wp2
      go_ret
      exact ⟨cv, us1, cells, rfl, (OC.out.below B4.out).mono (by have := Z1.out; omega), FIN.out, UB1.out.below B4.out UB1.out.lt, KW.out.trans (Kp.of B4.out), hcl3, a, F1.out.2.2.2.1.symm, by have := F1.out.2.2.2.2.1.2; rw [← F1.out.2.2.1] at this; exact this⟩
    | false =>
      have hne : u1.at_ ≠ (c : Nat) := by
        have := List.any_eq_false.1 TK.out u1 (List.mem_of_getElem? F1.out.1)
        simpa using this
      have hs1 : 0 < s := by rw [← SS.out]; exact wish_pos WS.out.1 WS.out.2.2 hne
      have U4 : Hid (Ub v4 g us1 rest) := UB1.out.below B4.out UB1.out.lt
      have c3 := (U4.out.unc F1.out.1).c3
      have t3 := U4.out.thaw (i * 8 + 3)
      have U5 : Hid (Ub (v4.setCell ⟨g, i * 8 + 3, none⟩ (.int .i64 (c : Nat))) g (us1.set i { u1 with at_ := (c : Nat) }) rest) := U4.out.set3 F1.out.1 _
      have K5 : Hid (Kp g v4 (v4.setCell ⟨g, i * 8 + 3, none⟩ (.int .i64 (c : Nat)))) := Kp.set _ _ _
      have wsub : IntKind.i64.wrap (left - s) = left - s := by rw [IntKind.wrap_i64]; omega
      go_upto_region 9 with fail
      clear c3 t3 hne
      generalize (v4.setCell ⟨g, i * 8 + 3, none⟩ (.int .i64 (c : Nat))) = v5 at *
      have P5 : Hid (Kp g w1 v5) := (KP.out.trans (Kp.of B4.out)).trans K5.out
      have O5 : Hid (Ow v5 w1.heap.size cv cells) := (OC.out.below B4.out).kp K5.out (by have := UB.out.2; have := Z1.out; omega)
      go_upto_region 10 with fail
      have BA : Hid (Below v5.heap.size v5 (v5.alloc (Obj.cells #[.int .i64 (c : Nat)] 3))) := (Below.refl _ _).alloc (Nat.le_refl _) _
      have C6 : Hid ((v5.alloc (Obj.cells #[.int .i64 (c : Nat)] 3)).cell? ⟨v5.heap.size, 0, none⟩ = some (.int .i64 (c : Nat))) := cell_of_new rfl rfl
      have O6 : Hid (Ow (v5.alloc (Obj.cells #[.int .i64 (c : Nat)] 3)) w1.heap.size cv cells) := O5.out.below BA.out
      have S6 : Hid (w1.heap.size ≤ (v5.alloc (Obj.cells #[.int .i64 (c : Nat)] 3)).heap.size) := Nat.le_trans P5.out.size BA.out.size
      go_wp2_with (at_builtin; refine app_int _ rfl _ _ rfl w1.heap.size _ cells rfl O6.out _ (c : Nat) rfl C6.out (by omega) S6.out ?_)
      intro gg' gc v7 o7 g7 _ _
      have O7 : Hid (Ow v7 w1.heap.size (.slice (some ⟨gg', 0, none⟩) (cells.length + 1) gc) (cells ++ [(c : Int)])) := o7
      have P7 : Hid (Kp g w1 v7) := kp_gb (P5.out.trans (Kp.of BA.out)) g7 (fun b hb => (O6.out.block b hb).1)
      have U7 : Hid (Ub v7 g (us1.set i { u1 with at_ := (c : Nat) }) rest) := by
        have h6 := U5.out.below BA.out U5.out.lt
        unfold Ub at h6
        unfold Hid Ub
        rw [g7.block g (lt_of_block h6) (fun e => by have := (O6.out.block g e.symm).1; have := UB.out.2; have := Z1.out; omega)]
        exact h6
      have US2 : Hid (us1.set i { u1 with at_ := (c : Nat) } = us.set i { u with at_ := (c : Nat) }) := by
        unfold Hid
        rw [← F1.out.2.2.2.1, List.set_set, ← F1.out.2.2.1]
      have HG2 : Hid (∀ cells' us', Goes ks X Wn Hn k i (us.set i { u with at_ := (c : Nat) }) (left - s) cells' us' → Goes ks X Wn Hn k i us k.n4 ((cells ++ [(c : Int)]) ++ cells') us') := fun cells' us' h => by
        have h9 := HG.out ((c : Int) :: cells') us' (.step F1.out.1 WS.out.1 WS.out.2.2 (by rw [SS.out]; omega) TK.out (by rw [US2.out, SS.out]; exact h))
        rw [List.append_assoc]
        exact h9
      clear o7 g7 BA C6 O6 S6 O5 P5 U5 K5 U4
      go_wp2
      go_round
      case rel => exact ⟨(c : Nat), left - s, cells ++ [(c : Int)], _, rfl, rfl, by omega, by rw [List.length_append]; simp; omega, ⟨by omega, by have := WS.out.2.1; omega⟩, by rw [← US2.out]; exact U7.out, O7.out, P7.out, HG2.out⟩
      case measure => simp [intOf]; omega
end Go.Proofs.YtagnjmellcibhaaDoor

namespace Go.Proofs.YtagnjmellcibhaaDoor
open Go.RowKit
set_option linter.unusedVariables false

theorem made_ints (n : Nat) : madeCells #[Value.int .i64 0] n = (intCells (List.replicate n 0)).toArray := by
  apply Array.ext_getElem?
  intro i
  unfold madeCells intCells
  by_cases h : i < n
  · simp [h, Nat.mod_one]
  · simp [h]
theorem makeI (n : Nat) (w : World) (h : n ≤ 1000000) : ∃ w', (Instr.makeSlice 23 (.int .i64 (n : Nat)) (.int .i64 (n : Nat))).run Tryd.prog w = .ok (.slice (some ⟨w.heap.size, 0, none⟩) n n) w' ∧ Bk w' w.heap.size (List.replicate n 0) #[] ∧ Below w.heap.size w w' ∧ w'.heap.size = w.heap.size + 1 := by
  obtain ⟨i0, hi, hz0, hz1, hz2⟩ := info_parts info_int
  have hr := run_make (P := Tryd.prog) w 23 3 i0 (.int .i64 0) Tryd.underlying23 hi hz0 .i64 .i64 (n : Nat) (n : Nat) (by omega) (Int.le_refl _) (by rw [hz2]; omega) (by omega)
  refine ⟨_, hr, ?_, (Below.refl _ _).alloc (Nat.le_refl _) _, by simp⟩
  unfold Bk
  rw [hz1, Int.toNat_natCast, Nat.mul_one, heap_alloc_new]
  have e : (Value.int .i64 0).cells = #[Value.int .i64 0] := rfl
  rw [e, made_ints, Array.append_empty]
/-- one more event: the run itself. -/
theorem run_ev (w : World) (ty : TypeId) (base : Nat) (v : Value) (ks : List EvV) (hown : Evo w base v ks) (b : Nat) (d : EvV) (hd : Evc w ⟨b, 0, none⟩ d) (hl : ks.length ≤ 1000000) (hbase : base ≤ w.heap.size) :
    ∃ g cap w', (Builtin.append_ #[34, 34] ty #[v, .slice (some ⟨b, 0, none⟩) 1 1]).run Tryd.prog w = .ok (.slice (some ⟨g, 0, none⟩) (ks.length + 1) cap) w' ∧ Evo w' base (.slice (some ⟨g, 0, none⟩) (ks.length + 1) cap) (ks ++ [d]) ∧ w.grownBy w' v.ownBlock ∧ (v.ownBlock = some g ∨ g = w.heap.size) ∧ g < w'.heap.size := by
  obtain ⟨i0, hi, hz0, hz1, hz2⟩ := info_parts info_ev
  obtain ⟨g, cap, w6, hr, ho6, hg6, ha6, hl6⟩ := run_append_lies (P := Tryd.prog) w 34 34 base 45 i0 _ 3 24 Tryd.underlying34 hi hz0 hz1 hz2 rfl (by decide) v ks.length _ hown ⟨b, 0, none⟩ 1 1 (EvV.cs d) rfl (fun j u hj => by
    have hjn : j < 3 := (List.getElem?_eq_some_iff.1 hj).1
    rw [Addr.add_lit, Nat.zero_add]
    match j, hjn, hj with
    | 0, _, hj => simp [EvV.cs] at hj; subst hj; exact hd.c0
    | 1, _, hj => simp [EvV.cs] at hj; subst hj; exact hd.c1
    | 2, _, hj => simp [EvV.cs] at hj; subst hj; exact hd.c2) (fun u hu => by
    simp [EvV.cs] at hu
    rcases hu with rfl | rfl | rfl <;> rfl) (by decide) (by unfold maxLen; omega) (by omega) hbase _ rfl
  refine ⟨g, cap, w6, hr, ?_, hg6, ha6, hl6⟩
  unfold Evo
  rw [List.length_append, List.flatMap_append]
  simpa using ho6
end Go.Proofs.YtagnjmellcibhaaDoor

namespace Go.Proofs.YtagnjmellcibhaaDoor
open Go.RowKit Wy
set_option linter.unusedVariables false

/-- who has come to its end rests. -/
def ends (u : UnV) : UnV := if u.task = 1 ∧ u.at_ = u.goal then { u with task := 0, goal := 0 } else u
/-- from the n-th on all units go. -/
inductive Moves (ks : List KV) (X : WV) (Wn Hn : Nat) : Nat → List UnV → List EvV → List UnV → Prop where
  | done {n : Nat} {us : List UnV} (h : n = us.length) : Moves ks X Wn Hn n us [] us
  | unit {n : Nat} {us us1 us' : List UnV} {u u1 : UnV} {k : KV} {cells : List Int} {evs : List EvV} (hu : us[n]? = some u) (hk : ks[u.kind.toNat]? = some k) (hg : Goes ks X Wn Hn k n us k.n4 cells us1) (h1 : us1[n]? = some u1) (hm : Moves ks X Wn Hn (n + 1) (us1.set n (ends u1)) evs us') : Moves ks X Wn Hn n us (cells.map (fun c => (⟨1, u.id, c⟩ : EvV)) ++ evs) us'
/-- what Move tells. -/
def MoveSays (ks : List KV) (X : WV) (w w' : World) (v ev : Value) : Prop :=
  (Wd.wfault ks X ≠ 0 ∧ v = .agg #[.int .i64 0, .int .i64 0, .int .i64 0, .int .i64 0, .slice none 0 0, .slice none 0 0, .slice none 0 0, .slice none 0 0, .slice none 0 0] ∧ ev = .slice none 0 0)
  ∨ (Wd.wfault ks X = 0 ∧ ∃ Wn Hn : Nat, X.wide = (Wn : Nat) ∧ X.high = (Hn : Nat) ∧ Fd.Good Wn Hn X.gs X.os ∧ ∃ us' evs, Moves ks X Wn Hn 0 X.us evs us' ∧ us'.length = X.us.length ∧ Wo w' w.heap.size v { X with us := us' } ∧ Evo w' w.heap.size ev evs)
/-- units that only their places, Tasks and Goals tell from those that were. -/
def Alike (ks : List KV) (n : Nat) (us0 us : List UnV) : Prop := us.length = us0.length ∧ ∀ (j : Nat) (v : UnV), us[j]? = some v → ∃ u, us0[j]? = some u ∧ v.kind = u.kind ∧ v.id = u.id ∧ Fit ks n v ∧ (0 ≤ v.goal ∧ v.goal < (n : Int))
theorem Alike.fits {ks : List KV} {n : Nat} {us0 us : List UnV} (h : Alike ks n us0 us) : ∀ v ∈ us, Fit ks n v := fun v hv => by
  obtain ⟨j, hj⟩ := List.mem_iff_getElem?.1 hv
  obtain ⟨u, -, -, -, h1, -⟩ := h.2 j v hj
  exact h1
theorem Alike.set {ks : List KV} {n : Nat} {us0 us : List UnV} (h : Alike ks n us0 us) {i : Nat} {u v : UnV} (hu : us[i]? = some u) (hk : v.kind = u.kind) (hi : v.id = u.id) (hf : Fit ks n v) (hg : 0 ≤ v.goal ∧ v.goal < (n : Int)) : Alike ks n us0 (us.set i v) := by
  refine ⟨by rw [List.length_set]; exact h.1, fun j x hj => ?_⟩
  by_cases hij : i = j
  · subst hij
    rw [List.getElem?_set_self (List.getElem?_eq_some_iff.1 hu).1] at hj
    injection hj with hj
    subst hj
    obtain ⟨u0, h1, h2, h3, -, -⟩ := h.2 i u hu
    exact ⟨u0, h1, by rw [hk, h2], by rw [hi, h3], hf, hg⟩
  · rw [List.getElem?_set_ne hij] at hj
    exact h.2 j x hj
theorem uno_set {ks : List UnV} {i : Nat} {u : UnV} : (ks.set i u).length = ks.length := List.length_set
set_option maxRecDepth 100000 in
set_option maxHeartbeats 16000000 in
theorem Move_any (vk vw : Value) (ks : List KV) (X : WV) (w : World) (hk : Kl w vk ks) (hb : ∀ k ∈ ks, k.b.size ≤ 9223372036854775807) (hw : Wl w vw X) (hs : Sd w) :
    Calls Tryd.prog 5 #[vk, vw] w fun e w' => ∃ v ev r, e = .returned (.tuple #[v, ev, r]) ∧ Er r (Wd.wfault ks X) ∧ MoveSays ks X w w' v ev ∧ Below w.heap.size w w' := by
  have K : Hid (Kl w vk ks ∧ ∀ k ∈ ks, k.b.size ≤ 9223372036854775807) := ⟨hk, hb⟩
  have H : Hid (Wl w vw X) := hw
  have S : Hid (Sd w) := hs
  obtain ⟨p1, q1, p2, q2, p3, q3, p4, q4, p5, q5, rfl⟩ := wl_shape9 hw
  obtain ⟨pk, qk, rfl, ck1, ck2, kc⟩ := hk
  clear hb hw hs kc
  go_enter Tryd.func5, Tryd.ntmps5
  go_upto_region 1 with fail
  have B0 : Hid (Below w.heap.size w ((w.alloc (Obj.cells #[.int .i64 X.turn, .int .i64 X.next, .int .i64 X.wide, .int .i64 X.high, .slice p1 X.gs.length q1, .slice p2 X.os.length q2, .slice p3 X.gold.length q3, .slice p4 X.us.length q4, .slice p5 X.qs.length q5] 29)).alloc (Obj.cells #[.int .i64 0, .int .i64 0, .int .i64 0, .int .i64 0, .slice none 0 0, .slice none 0 0, .slice none 0 0, .slice none 0 0, .slice none 0 0] 29))) := ((Below.refl _ _).alloc (Nat.le_refl _) _).alloc (by simp) _
  have X0 : Hid (Wx ((w.alloc (Obj.cells #[.int .i64 X.turn, .int .i64 X.next, .int .i64 X.wide, .int .i64 X.high, .slice p1 X.gs.length q1, .slice p2 X.os.length q2, .slice p3 X.gold.length q3, .slice p4 X.us.length q4, .slice p5 X.qs.length q5] 29)).alloc (Obj.cells #[.int .i64 0, .int .i64 0, .int .i64 0, .int .i64 0, .slice none 0 0, .slice none 0 0, .slice none 0 0, .slice none 0 0, .slice none 0 0] 29)) (w.heap.size) (.int .i64 X.turn) (.int .i64 X.next) (.int .i64 X.wide) (.int .i64 X.high) (.slice p1 X.gs.length q1) (.slice p2 X.os.length q2) (.slice p3 X.gold.length q3) (.slice p4 X.us.length q4) (.slice p5 X.qs.length q5)) := (Wx.new (.int .i64 X.turn) (.int .i64 X.next) (.int .i64 X.wide) (.int .i64 X.high) (.slice p1 X.gs.length q1) (.slice p2 X.os.length q2) (.slice p3 X.gold.length q3) (.slice p4 X.us.length q4) (.slice p5 X.qs.length q5) rfl).below ((Below.refl _ _).alloc (Nat.le_refl _) _) (by simp)
  have Z0 : Hid (Wx ((w.alloc (Obj.cells #[.int .i64 X.turn, .int .i64 X.next, .int .i64 X.wide, .int .i64 X.high, .slice p1 X.gs.length q1, .slice p2 X.os.length q2, .slice p3 X.gold.length q3, .slice p4 X.us.length q4, .slice p5 X.qs.length q5] 29)).alloc (Obj.cells #[.int .i64 0, .int .i64 0, .int .i64 0, .int .i64 0, .slice none 0 0, .slice none 0 0, .slice none 0 0, .slice none 0 0, .slice none 0 0] 29)) (w.heap.size + 1) (.int .i64 0) (.int .i64 0) (.int .i64 0) (.int .i64 0) (.slice none 0 0) (.slice none 0 0) (.slice none 0 0) (.slice none 0 0) (.slice none 0 0)) := Wx.new (.int .i64 0) (.int .i64 0) (.int .i64 0) (.int .i64 0) (.slice none 0 0) (.slice none 0 0) (.slice none 0 0) (.slice none 0 0) (.slice none 0 0) (by simp)
  generalize ((w.alloc (Obj.cells #[.int .i64 X.turn, .int .i64 X.next, .int .i64 X.wide, .int .i64 X.high, .slice p1 X.gs.length q1, .slice p2 X.os.length q2, .slice p3 X.gold.length q3, .slice p4 X.us.length q4, .slice p5 X.qs.length q5] 29)).alloc (Obj.cells #[.int .i64 0, .int .i64 0, .int .i64 0, .int .i64 0, .slice none 0 0, .slice none 0 0, .slice none 0 0, .slice none 0 0, .slice none 0 0] 29)) = w0 at *
  obtain ⟨x0, x1, x2, x3, x4, x5, x6, x7, x8⟩ := X0.out.cells
  go_wp2_with fail
  refine (wcheck_any _ _ ks X w0 (K.out.1.below B0.out) K.out.2 (H.out.below B0.out)).mono ?_
  rintro e w1 ⟨r, rfl, hr, hb⟩
  obtain ⟨fw, hfw⟩ : ∃ f, Wd.wfault ks X = f := ⟨_, rfl⟩
  have FW : Hid (Wd.wfault ks X = fw) := hfw
  rw [hfw] at hr
  have B1 : Hid (Below w.heap.size w w1) := B0.out.trans (hb.mono B0.out.size)
  have X1 : Hid (Wx w1 (w.heap.size) (.int .i64 X.turn) (.int .i64 X.next) (.int .i64 X.wide) (.int .i64 X.high) (.slice p1 X.gs.length q1) (.slice p2 X.os.length q2) (.slice p3 X.gold.length q3) (.slice p4 X.us.length q4) (.slice p5 X.qs.length q5)) := X0.out.below hb X0.out.lt
  have Z1 : Hid (Wx w1 (w.heap.size + 1) (.int .i64 0) (.int .i64 0) (.int .i64 0) (.int .i64 0) (.slice none 0 0) (.slice none 0 0) (.slice none 0 0) (.slice none 0 0) (.slice none 0 0)) := Z0.out.below hb Z0.out.lt
  clear hb hfw x0 x1 x2 x3 x4 x5 x6 x7 x8 X0 B0 Z0
  rcases hr with ⟨rfl, rfl⟩ | ⟨hf, rfl⟩
  case inr =>
    have HF : Hid (fw ≠ 0) := hf
    clear hf
    obtain ⟨z0, z1, z2, z3, z4, z5, z6, z7, z8⟩ := Z1.out.cells
    obtain ⟨t0, t1, t2, t3, t4, t5, t6, t7, t8⟩ := Z1.out.thaws
    have KZ : Hid (Kp (w.heap.size + 1) w1 (((((((((w1.setCell ⟨w.heap.size + 1, 0, none⟩ (.int .i64 0)).setCell ⟨w.heap.size + 1, 1, none⟩ (.int .i64 0)).setCell ⟨w.heap.size + 1, 2, none⟩ (.int .i64 0)).setCell ⟨w.heap.size + 1, 3, none⟩ (.int .i64 0)).setCell ⟨w.heap.size + 1, 4, none⟩ (.slice none 0 0)).setCell ⟨w.heap.size + 1, 5, none⟩ (.slice none 0 0)).setCell ⟨w.heap.size + 1, 6, none⟩ (.slice none 0 0)).setCell ⟨w.heap.size + 1, 7, none⟩ (.slice none 0 0)).setCell ⟨w.heap.size + 1, 8, none⟩ (.slice none 0 0))) := put_kp _ _ _ _ _ _ _ _ _ _ _
    obtain ⟨y0, y1, y2, y3, y4, y5, y6, y7, y8⟩ := (Z1.out.put (.int .i64 0) (.int .i64 0) (.int .i64 0) (.int .i64 0) (.slice none 0 0) (.slice none 0 0) (.slice none 0 0) (.slice none 0 0) (.slice none 0 0)).cells
    go_wp2
    clear z0 z1 z2 z3 z4 z5 z6 z7 z8 t0 t1 t2 t3 t4 t5 t6 t7 t8
    generalize (((((((((w1.setCell ⟨w.heap.size + 1, 0, none⟩ (.int .i64 0)).setCell ⟨w.heap.size + 1, 1, none⟩ (.int .i64 0)).setCell ⟨w.heap.size + 1, 2, none⟩ (.int .i64 0)).setCell ⟨w.heap.size + 1, 3, none⟩ (.int .i64 0)).setCell ⟨w.heap.size + 1, 4, none⟩ (.slice none 0 0)).setCell ⟨w.heap.size + 1, 5, none⟩ (.slice none 0 0)).setCell ⟨w.heap.size + 1, 6, none⟩ (.slice none 0 0)).setCell ⟨w.heap.size + 1, 7, none⟩ (.slice none 0 0)).setCell ⟨w.heap.size + 1, 8, none⟩ (.slice none 0 0)) = w9 at *
    refine bodyPost_ret (v := .tuple #[.agg #[.int .i64 0, .int .i64 0, .int .i64 0, .int .i64 0, .slice none 0 0, .slice none 0 0, .slice none 0 0, .slice none 0 0, .slice none 0 0], .slice none 0 0, .iface 67 (.int .i64 fw)]) (by simp [results, Tryd.results5, go_sem, y0, y1, y2, y3, y4, y5, y6, y7, y8]) rfl ⟨_, _, _, rfl, by rw [FW.out]; exact Er.no HF.out, .inl ⟨by rw [FW.out]; exact HF.out, rfl, rfl⟩, KZ.out.below B1.out B1.out.size (by omega)⟩
  have WR : Hid (WRight ks X) := wright_of FW.out
  obtain ⟨Wn, Hn, e1, e2, G⟩ := WR.out.good
  have GD : Hid (Fd.Good Wn Hn X.gs X.os ∧ X.wide = (Wn : Nat) ∧ X.high = (Hn : Nat)) := ⟨G, e1, e2⟩
  clear e1 e2 G
  obtain ⟨x0, x1, x2, x3, x4, x5, x6, x7, x8⟩ := X1.out.cells
  go_wp2_with fail
  refine (copy_any _ X w1 (H.out.below B1.out) WR.out.len).mono ?_
  rintro e w2 ⟨cu, rfl, ⟨k1, k2, k3, k4, k5, rfl, ⟨o1, o2, o3, o4, o5⟩, -, -, d14, -, -, d24, -, d34, -, d45⟩, hb⟩
  obtain ⟨a1, r1, rfl⟩ := o1.len
  obtain ⟨a2, r2, rfl⟩ := o2.len
  obtain ⟨a3, r3, rfl⟩ := o3.len
  obtain ⟨a5, r5, rfl⟩ := o5.len
  obtain ⟨b1, hb1⟩ : ∃ z, w1.heap.size = z := ⟨_, rfl⟩
  rw [hb1] at o1 o2 o3 o4 o5
  have BS : Hid (w.heap.size + 1 < b1 ∧ b1 ≤ w2.heap.size) := ⟨by rw [← hb1]; exact Z1.out.lt, by rw [← hb1]; exact hb.size⟩
  have X2 : Hid (Wx w2 (w.heap.size) (.int .i64 X.turn) (.int .i64 X.next) (.int .i64 X.wide) (.int .i64 X.high) (.slice p1 X.gs.length q1) (.slice p2 X.os.length q2) (.slice p3 X.gold.length q3) (.slice p4 X.us.length q4) (.slice p5 X.qs.length q5)) := X1.out.below hb X1.out.lt
  have Z2 : Hid (Wx w2 (w.heap.size + 1) (.int .i64 0) (.int .i64 0) (.int .i64 0) (.int .i64 0) (.slice none 0 0) (.slice none 0 0) (.slice none 0 0) (.slice none 0 0) (.slice none 0 0)) := Z1.out.below hb Z1.out.lt
  have B2 : Hid (Below w.heap.size w w2) := B1.out.trans (hb.mono B1.out.size)
  clear hb hb1 x0 x1 x2 x3 x4 x5 x6 x7 x8 X1 Z1 B1
  obtain ⟨z0, z1, z2, z3, z4, z5, z6, z7, z8⟩ := X2.out.cells
  obtain ⟨t0, t1, t2, t3, t4, t5, t6, t7, t8⟩ := X2.out.thaws
  rcases o4.ub with ⟨rfl, hnil⟩ | ⟨g, r4, rest, rfl, hbg, hkc, hcm, hcl, hub⟩
  · -- nobody
    have KZ : Hid (Kp (w.heap.size) w2 (((((((((w2.setCell ⟨w.heap.size, 0, none⟩ (.int .i64 X.turn)).setCell ⟨w.heap.size, 1, none⟩ (.int .i64 X.next)).setCell ⟨w.heap.size, 2, none⟩ (.int .i64 X.wide)).setCell ⟨w.heap.size, 3, none⟩ (.int .i64 X.high)).setCell ⟨w.heap.size, 4, none⟩ (Value.slice a1 X.gs.length r1)).setCell ⟨w.heap.size, 5, none⟩ (Value.slice a2 X.os.length r2)).setCell ⟨w.heap.size, 6, none⟩ (Value.slice a3 X.gold.length r3)).setCell ⟨w.heap.size, 7, none⟩ (Value.slice none 0 0)).setCell ⟨w.heap.size, 8, none⟩ (Value.slice a5 X.qs.length r5))) := put_kp _ _ _ _ _ _ _ _ _ _ _
    have XE : Hid (Wx (((((((((w2.setCell ⟨w.heap.size, 0, none⟩ (.int .i64 X.turn)).setCell ⟨w.heap.size, 1, none⟩ (.int .i64 X.next)).setCell ⟨w.heap.size, 2, none⟩ (.int .i64 X.wide)).setCell ⟨w.heap.size, 3, none⟩ (.int .i64 X.high)).setCell ⟨w.heap.size, 4, none⟩ (Value.slice a1 X.gs.length r1)).setCell ⟨w.heap.size, 5, none⟩ (Value.slice a2 X.os.length r2)).setCell ⟨w.heap.size, 6, none⟩ (Value.slice a3 X.gold.length r3)).setCell ⟨w.heap.size, 7, none⟩ (Value.slice none 0 0)).setCell ⟨w.heap.size, 8, none⟩ (Value.slice a5 X.qs.length r5)) (w.heap.size) (.int .i64 X.turn) (.int .i64 X.next) (.int .i64 X.wide) (.int .i64 X.high) (Value.slice a1 X.gs.length r1) (Value.slice a2 X.os.length r2) (Value.slice a3 X.gold.length r3) (Value.slice none 0 0) (Value.slice a5 X.qs.length r5)) := X2.out.put (.int .i64 X.turn) (.int .i64 X.next) (.int .i64 X.wide) (.int .i64 X.high) (Value.slice a1 X.gs.length r1) (Value.slice a2 X.os.length r2) (Value.slice a3 X.gold.length r3) (Value.slice none 0 0) (Value.slice a5 X.qs.length r5)
    have NIL : Hid (X.us = []) := hnil
    have O2 : Hid (Ow w2 b1 (Value.slice a1 X.gs.length r1) X.gs ∧ Ow w2 b1 (Value.slice a2 X.os.length r2) X.os ∧ Ow w2 b1 (Value.slice a3 X.gold.length r3) X.gold ∧ Jbo w2 b1 (Value.slice a5 X.qs.length r5) X.qs) := ⟨o1, o2, o3, o5⟩
    clear o1 o2 o3 o4 o5 d14 d24 d34 d45 hnil
    go_upto_region 5 with fail
    clear z0 z1 z2 z3 z4 z5 z6 z7 z8 t0 t1 t2 t3 t4 t5 t6 t7 t8
    generalize (((((((((w2.setCell ⟨w.heap.size, 0, none⟩ (.int .i64 X.turn)).setCell ⟨w.heap.size, 1, none⟩ (.int .i64 X.next)).setCell ⟨w.heap.size, 2, none⟩ (.int .i64 X.wide)).setCell ⟨w.heap.size, 3, none⟩ (.int .i64 X.high)).setCell ⟨w.heap.size, 4, none⟩ (Value.slice a1 X.gs.length r1)).setCell ⟨w.heap.size, 5, none⟩ (Value.slice a2 X.os.length r2)).setCell ⟨w.heap.size, 6, none⟩ (Value.slice a3 X.gold.length r3)).setCell ⟨w.heap.size, 7, none⟩ (Value.slice none 0 0)).setCell ⟨w.heap.size, 8, none⟩ (Value.slice a5 X.qs.length r5)) = w3 at *
    have ZE : Hid (Wx w3 (w.heap.size + 1) (.int .i64 0) (.int .i64 0) (.int .i64 0) (.int .i64 0) (.slice none 0 0) (.slice none 0 0) (.slice none 0 0) (.slice none 0 0) (.slice none 0 0)) := Z2.out.kp KZ.out (by omega)
    have BE : Hid (Below w.heap.size w w3) := KZ.out.below B2.out B2.out.size (Nat.le_refl _)
    have O3 : Hid (Ow w3 b1 (Value.slice a1 X.gs.length r1) X.gs ∧ Ow w3 b1 (Value.slice a2 X.os.length r2) X.os ∧ Ow w3 b1 (Value.slice a3 X.gold.length r3) X.gold ∧ Jbo w3 b1 (Value.slice a5 X.qs.length r5) X.qs) := by
      have h := BS.out.1
      exact ⟨O2.out.1.kp KZ.out (by omega), O2.out.2.1.kp KZ.out (by omega), O2.out.2.2.1.kp KZ.out (by omega), O2.out.2.2.2.kp KZ.out (by omega)⟩
    clear KZ X2 Z2 B2 O2
    obtain ⟨-, -, -, -, -, -, -, w7, -⟩ := XE.out.cells
    go_upto_region 7 with fail
    clear w7
    refine wp_loop_rounds 1 ?_
    rw [rounds_succ]
    obtain ⟨x0, x1, x2, x3, x4, x5, x6, x7, x8⟩ := XE.out.cells
    obtain ⟨z0, z1, z2, z3, z4, z5, z6, z7, z8⟩ := ZE.out.cells
    obtain ⟨t0, t1, t2, t3, t4, t5, t6, t7, t8⟩ := ZE.out.thaws
    have KZ : Hid (Kp (w.heap.size + 1) w3 (((((((((w3.setCell ⟨w.heap.size + 1, 0, none⟩ (.int .i64 X.turn)).setCell ⟨w.heap.size + 1, 1, none⟩ (.int .i64 X.next)).setCell ⟨w.heap.size + 1, 2, none⟩ (.int .i64 X.wide)).setCell ⟨w.heap.size + 1, 3, none⟩ (.int .i64 X.high)).setCell ⟨w.heap.size + 1, 4, none⟩ (Value.slice a1 X.gs.length r1)).setCell ⟨w.heap.size + 1, 5, none⟩ (Value.slice a2 X.os.length r2)).setCell ⟨w.heap.size + 1, 6, none⟩ (Value.slice a3 X.gold.length r3)).setCell ⟨w.heap.size + 1, 7, none⟩ (Value.slice none 0 0)).setCell ⟨w.heap.size + 1, 8, none⟩ (Value.slice a5 X.qs.length r5))) := put_kp _ _ _ _ _ _ _ _ _ _ _
    obtain ⟨y0, y1, y2, y3, y4, y5, y6, y7, y8⟩ := (ZE.out.put (.int .i64 X.turn) (.int .i64 X.next) (.int .i64 X.wide) (.int .i64 X.high) (Value.slice a1 X.gs.length r1) (Value.slice a2 X.os.length r2) (Value.slice a3 X.gold.length r3) (Value.slice none 0 0) (Value.slice a5 X.qs.length r5)).cells
    go_wp2
    clear x0 x1 x2 x3 x4 x5 x6 x7 x8 z0 z1 z2 z3 z4 z5 z6 z7 z8 t0 t1 t2 t3 t4 t5 t6 t7 t8
    generalize (((((((((w3.setCell ⟨w.heap.size + 1, 0, none⟩ (.int .i64 X.turn)).setCell ⟨w.heap.size + 1, 1, none⟩ (.int .i64 X.next)).setCell ⟨w.heap.size + 1, 2, none⟩ (.int .i64 X.wide)).setCell ⟨w.heap.size + 1, 3, none⟩ (.int .i64 X.high)).setCell ⟨w.heap.size + 1, 4, none⟩ (Value.slice a1 X.gs.length r1)).setCell ⟨w.heap.size + 1, 5, none⟩ (Value.slice a2 X.os.length r2)).setCell ⟨w.heap.size + 1, 6, none⟩ (Value.slice a3 X.gold.length r3)).setCell ⟨w.heap.size + 1, 7, none⟩ (Value.slice none 0 0)).setCell ⟨w.heap.size + 1, 8, none⟩ (Value.slice a5 X.qs.length r5)) = wz at *
    refine bodyPost_ret (v := .tuple #[.agg #[.int .i64 X.turn, .int .i64 X.next, .int .i64 X.wide, .int .i64 X.high, Value.slice a1 X.gs.length r1, Value.slice a2 X.os.length r2, Value.slice a3 X.gold.length r3, Value.slice none 0 0, Value.slice a5 X.qs.length r5], .slice none 0 0, .nilIface]) (by simp [results, Tryd.results5, go_sem, y0, y1, y2, y3, y4, y5, y6, y7, y8]) rfl ⟨_, _, _, rfl, by rw [FW.out]; exact Er.nil, .inr ⟨FW.out, Wn, Hn, GD.out.2.1, GD.out.2.2, GD.out.1, X.us, [], .done (by rw [NIL.out]; rfl), rfl, ?_, Evo.nil _ _⟩, KZ.out.below BE.out BE.out.size (by omega)⟩
    have h := BS.out.1
    exact ⟨_, _, _, _, _, rfl, (O3.out.1.kp KZ.out (by omega)).mono (by omega), (O3.out.2.1.kp KZ.out (by omega)).mono (by omega), (O3.out.2.2.1.kp KZ.out (by omega)).mono (by omega), by rw [NIL.out]; exact Uno.nil _ _, (O3.out.2.2.2.kp KZ.out (by omega)).mono (by omega)⟩
  have KZ : Hid (Kp (w.heap.size) w2 (((((((((w2.setCell ⟨w.heap.size, 0, none⟩ (.int .i64 X.turn)).setCell ⟨w.heap.size, 1, none⟩ (.int .i64 X.next)).setCell ⟨w.heap.size, 2, none⟩ (.int .i64 X.wide)).setCell ⟨w.heap.size, 3, none⟩ (.int .i64 X.high)).setCell ⟨w.heap.size, 4, none⟩ (Value.slice a1 X.gs.length r1)).setCell ⟨w.heap.size, 5, none⟩ (Value.slice a2 X.os.length r2)).setCell ⟨w.heap.size, 6, none⟩ (Value.slice a3 X.gold.length r3)).setCell ⟨w.heap.size, 7, none⟩ (Value.slice (some ⟨g, 0, none⟩) X.us.length r4)).setCell ⟨w.heap.size, 8, none⟩ (Value.slice a5 X.qs.length r5))) := put_kp _ _ _ _ _ _ _ _ _ _ _
  have X3 : Hid (Wx (((((((((w2.setCell ⟨w.heap.size, 0, none⟩ (.int .i64 X.turn)).setCell ⟨w.heap.size, 1, none⟩ (.int .i64 X.next)).setCell ⟨w.heap.size, 2, none⟩ (.int .i64 X.wide)).setCell ⟨w.heap.size, 3, none⟩ (.int .i64 X.high)).setCell ⟨w.heap.size, 4, none⟩ (Value.slice a1 X.gs.length r1)).setCell ⟨w.heap.size, 5, none⟩ (Value.slice a2 X.os.length r2)).setCell ⟨w.heap.size, 6, none⟩ (Value.slice a3 X.gold.length r3)).setCell ⟨w.heap.size, 7, none⟩ (Value.slice (some ⟨g, 0, none⟩) X.us.length r4)).setCell ⟨w.heap.size, 8, none⟩ (Value.slice a5 X.qs.length r5)) (w.heap.size) (.int .i64 X.turn) (.int .i64 X.next) (.int .i64 X.wide) (.int .i64 X.high) (Value.slice a1 X.gs.length r1) (Value.slice a2 X.os.length r2) (Value.slice a3 X.gold.length r3) (Value.slice (some ⟨g, 0, none⟩) X.us.length r4) (Value.slice a5 X.qs.length r5)) := X2.out.put (.int .i64 X.turn) (.int .i64 X.next) (.int .i64 X.wide) (.int .i64 X.high) (Value.slice a1 X.gs.length r1) (Value.slice a2 X.os.length r2) (Value.slice a3 X.gold.length r3) (Value.slice (some ⟨g, 0, none⟩) X.us.length r4) (Value.slice a5 X.qs.length r5)
  have O2 : Hid (Ow w2 b1 (Value.slice a1 X.gs.length r1) X.gs ∧ Ow w2 b1 (Value.slice a2 X.os.length r2) X.os ∧ Ow w2 b1 (Value.slice a3 X.gold.length r3) X.gold ∧ Jbo w2 b1 (Value.slice a5 X.qs.length r5) X.qs ∧ Ub w2 g X.us rest) := ⟨o1, o2, o3, o5, hub⟩
  have DD : Hid ((∀ b, ((Value.slice a1 X.gs.length r1)).ownBlock = some b → some g ≠ some b) ∧ (∀ b, ((Value.slice a2 X.os.length r2)).ownBlock = some b → some g ≠ some b) ∧ (∀ b, ((Value.slice a3 X.gold.length r3)).ownBlock = some b → some g ≠ some b) ∧ (∀ b, ((Value.slice a5 X.qs.length r5)).ownBlock = some b → some g ≠ some b)) := ⟨fun b h e => d14 b h e, fun b h e => d24 b h e, fun b h e => d34 b h e, fun b h e => d45 b e h⟩
  have CP : Hid (b1 ≤ g ∧ X.us.length ≤ r4 ∧ r4 ≤ maxLen ∧ X.us.length * 8 + rest.length = r4 * 8) := ⟨hbg, hkc, hcm, hcl⟩
  have hr4 : r4 ≤ 9223372036854775807 := by unfold maxLen at hcm; omega
  have hr4' : X.us.length ≤ r4 := hkc
  have hul : X.us.length ≤ 40 := WR.out.ul
  clear o1 o2 o3 o4 o5 d14 d24 d34 d45 hbg hkc hcm hcl hub
  go_upto_region 5 with fail
  clear z0 z1 z2 z3 z4 z5 z6 z7 z8 t0 t1 t2 t3 t4 t5 t6 t7 t8
  generalize (((((((((w2.setCell ⟨w.heap.size, 0, none⟩ (.int .i64 X.turn)).setCell ⟨w.heap.size, 1, none⟩ (.int .i64 X.next)).setCell ⟨w.heap.size, 2, none⟩ (.int .i64 X.wide)).setCell ⟨w.heap.size, 3, none⟩ (.int .i64 X.high)).setCell ⟨w.heap.size, 4, none⟩ (Value.slice a1 X.gs.length r1)).setCell ⟨w.heap.size, 5, none⟩ (Value.slice a2 X.os.length r2)).setCell ⟨w.heap.size, 6, none⟩ (Value.slice a3 X.gold.length r3)).setCell ⟨w.heap.size, 7, none⟩ (Value.slice (some ⟨g, 0, none⟩) X.us.length r4)).setCell ⟨w.heap.size, 8, none⟩ (Value.slice a5 X.qs.length r5)) = w3 at *
  have Z3 : Hid (Wx w3 (w.heap.size + 1) (.int .i64 0) (.int .i64 0) (.int .i64 0) (.int .i64 0) (.slice none 0 0) (.slice none 0 0) (.slice none 0 0) (.slice none 0 0) (.slice none 0 0)) := Z2.out.kp KZ.out (by omega)
  have B3 : Hid (Below w.heap.size w w3) := KZ.out.below B2.out B2.out.size (Nat.le_refl _)
  have O3 : Hid (Ow w3 b1 (Value.slice a1 X.gs.length r1) X.gs ∧ Ow w3 b1 (Value.slice a2 X.os.length r2) X.os ∧ Ow w3 b1 (Value.slice a3 X.gold.length r3) X.gold ∧ Jbo w3 b1 (Value.slice a5 X.qs.length r5) X.qs ∧ Ub w3 g X.us rest) := by
    have h := BS.out.1
    refine ⟨O2.out.1.kp KZ.out (by omega), O2.out.2.1.kp KZ.out (by omega), O2.out.2.2.1.kp KZ.out (by omega), O2.out.2.2.2.1.kp KZ.out (by omega), ?_⟩
    have h9 := O2.out.2.2.2.2
    unfold Ub at *
    rw [KZ.out.block g (lt_of_block h9) (by have := CP.out.1; omega)]
    exact h9
  clear KZ X2 Z2 B2 O2
  -- what stands in any world in which that block alone has turned
  have ST : Hid (∀ V us', us'.length = X.us.length → Kp g w3 V → Ub V g us' rest → Wl V (.agg #[.int .i64 X.turn, .int .i64 X.next, .int .i64 X.wide, .int .i64 X.high, Value.slice a1 X.gs.length r1, Value.slice a2 X.os.length r2, Value.slice a3 X.gold.length r3, Value.slice (some ⟨g, 0, none⟩) X.us.length r4, Value.slice a5 X.qs.length r5]) { X with us := us' } ∧ Kl V (.slice pk ks.length qk) ks ∧ Sd V ∧ Wx V (w.heap.size) (.int .i64 X.turn) (.int .i64 X.next) (.int .i64 X.wide) (.int .i64 X.high) (Value.slice a1 X.gs.length r1) (Value.slice a2 X.os.length r2) (Value.slice a3 X.gold.length r3) (Value.slice (some ⟨g, 0, none⟩) X.us.length r4) (Value.slice a5 X.qs.length r5) ∧ Wx V (w.heap.size + 1) (.int .i64 0) (.int .i64 0) (.int .i64 0) (.int .i64 0) (.slice none 0 0) (.slice none 0 0) (.slice none 0 0) (.slice none 0 0) (.slice none 0 0) ∧ Below w.heap.size w V ∧ Ow V b1 (Value.slice a1 X.gs.length r1) X.gs ∧ Ow V b1 (Value.slice a2 X.os.length r2) X.os ∧ Ow V b1 (Value.slice a3 X.gold.length r3) X.gold ∧ Jbo V b1 (Value.slice a5 X.qs.length r5) X.qs) := fun V us' hl hk hu => by
    have hb : Below w.heap.size w V := hk.below B3.out B3.out.size (by have := CP.out.1; have := BS.out.1; omega)
    have o1 : Ow V b1 (Value.slice a1 X.gs.length r1) X.gs := own_gb O3.out.1 (gb_kp hk) DD.out.1
    have o2 : Ow V b1 (Value.slice a2 X.os.length r2) X.os := own_gb O3.out.2.1 (gb_kp hk) DD.out.2.1
    have o3 : Ow V b1 (Value.slice a3 X.gold.length r3) X.gold := own_gb O3.out.2.2.1 (gb_kp hk) DD.out.2.2.1
    have o5 : Jbo V b1 (Value.slice a5 X.qs.length r5) X.qs := own_gb O3.out.2.2.2.1 (gb_kp hk) DD.out.2.2.2
    have hu' := hu.uno (base := b1) (cap := r4) CP.out.1 (by rw [hl]; exact CP.out.2.1) CP.out.2.2.1 (by rw [hl]; exact CP.out.2.2.2)
    rw [hl] at hu'
    exact ⟨⟨_, _, _, _, _, rfl, o1.ro, o2.ro, o3.ro, hu'.l, o5.l⟩, K.out.1.below hb, S.out.below hb, X3.out.kp hk (by have := CP.out.1; have := BS.out.1; omega), Z3.out.kp hk (by have := CP.out.1; have := BS.out.1; omega), hb, o1, o2, o3, o5⟩
  obtain ⟨-, -, -, -, -, -, -, w7, -⟩ := X3.out.cells
  go_upto_region 7 with fail
  clear w7
  have GL : Hid (g < w3.heap.size) := O3.out.2.2.2.2.lt
  go_loopw [8, 25] (fun v8 v25 V => ∃ (n : Nat) (us1 : List UnV) (evs : List EvV) (ev : Value), ev = v8 ∧ v25 = .int .i64 (n : Nat) ∧ n ≤ X.us.length ∧ Alike ks (Wn * Hn) X.us us1 ∧ Ub V g us1 rest ∧ Evo V w3.heap.size ev evs ∧ evs.length ≤ 4 * n ∧ Kp g w3 V ∧ (∀ evs' us', Moves ks X Wn Hn n us1 evs' us' → Moves ks X Wn Hn 0 X.us (evs ++ evs') us')) (fun _ v25 _ => X.us.length - (intOf v25).toNat)
  case atStart => exact ⟨0, X.us, [], _, rfl, rfl, Nat.zero_le _, ⟨rfl, fun j v hj => ⟨v, hj, rfl, rfl, right_fits WR.out GD.out.1 v (List.mem_of_getElem? hj)⟩⟩, O3.out.2.2.2.2, Evo.nil _ _, Nat.le_refl _, Kp.refl _ _, fun _ _ h => h⟩
  case round =>
    obtain ⟨n, us1, evs, ev, rfl, rfl, hn, hal, hub, hev, hel, hkp, hmo⟩ := hrel
    have AL : Hid (Alike ks (Wn * Hn) X.us us1) := hal
    have U4 : Hid (Ub wr g us1 rest) := hub
    have E4 : Hid (Evo wr w3.heap.size ev evs ∧ evs.length ≤ 4 * n) := ⟨hev, hel⟩
    have P4 : Hid (Kp g w3 wr) := hkp
    have MO : Hid (∀ evs' us', Moves ks X Wn Hn n us1 evs' us' → Moves ks X Wn Hn 0 X.us (evs ++ evs') us') := hmo
    have A4 := ST.out wr us1 hal.1 hkp hub
    obtain ⟨-, -, -, ax, az, ab, ao1, ao2, ao3, ao5⟩ := A4
    clear hal hub hev hel hkp hmo
    by_cases h0 : n = X.us.length
    · subst h0
      have hnl : ¬ (((X.us.length : Nat) : Int) < (X.us.length : Nat)) := by omega
      have XE : Hid (Wx wr (w.heap.size) (.int .i64 X.turn) (.int .i64 X.next) (.int .i64 X.wide) (.int .i64 X.high) (Value.slice a1 X.gs.length r1) (Value.slice a2 X.os.length r2) (Value.slice a3 X.gold.length r3) (Value.slice (some ⟨g, 0, none⟩) X.us.length r4) (Value.slice a5 X.qs.length r5)) := ax
      have ZE : Hid (Wx wr (w.heap.size + 1) (.int .i64 0) (.int .i64 0) (.int .i64 0) (.int .i64 0) (.slice none 0 0) (.slice none 0 0) (.slice none 0 0) (.slice none 0 0) (.slice none 0 0)) := az
      have BE : Hid (Below w.heap.size w wr) := ab
      have OE : Hid (Ow wr b1 (Value.slice a1 X.gs.length r1) X.gs ∧ Ow wr b1 (Value.slice a2 X.os.length r2) X.os ∧ Ow wr b1 (Value.slice a3 X.gold.length r3) X.gold ∧ Jbo wr b1 (Value.slice a5 X.qs.length r5) X.qs) := ⟨ao1, ao2, ao3, ao5⟩
      have UE : Hid (Uno wr b1 (Value.slice (some ⟨g, 0, none⟩) X.us.length r4) us1) := by
        have hl := AL.out.1
        have := U4.out.uno (base := b1) (cap := r4) CP.out.1 (by rw [hl]; exact CP.out.2.1) CP.out.2.2.1 (by rw [hl]; exact CP.out.2.2.2)
        rw [hl] at this
        exact this
      have FIN : Hid (Moves ks X Wn Hn 0 X.us evs us1) := by
        have := MO.out [] us1 (.done AL.out.1.symm)
        rw [List.append_nil] at this
        exact this
      have B13 : Hid (b1 ≤ w3.heap.size) := by have := CP.out.1; have := GL.out; unfold Hid; omega
      clear ax az ab ao1 ao2 ao3 ao5
      obtain ⟨x0, x1, x2, x3, x4, x5, x6, x7, x8⟩ := XE.out.cells
      obtain ⟨z0, z1, z2, z3, z4, z5, z6, z7, z8⟩ := ZE.out.cells
      obtain ⟨t0, t1, t2, t3, t4, t5, t6, t7, t8⟩ := ZE.out.thaws
      have KZ : Hid (Kp (w.heap.size + 1) wr (((((((((wr.setCell ⟨w.heap.size + 1, 0, none⟩ (.int .i64 X.turn)).setCell ⟨w.heap.size + 1, 1, none⟩ (.int .i64 X.next)).setCell ⟨w.heap.size + 1, 2, none⟩ (.int .i64 X.wide)).setCell ⟨w.heap.size + 1, 3, none⟩ (.int .i64 X.high)).setCell ⟨w.heap.size + 1, 4, none⟩ (Value.slice a1 X.gs.length r1)).setCell ⟨w.heap.size + 1, 5, none⟩ (Value.slice a2 X.os.length r2)).setCell ⟨w.heap.size + 1, 6, none⟩ (Value.slice a3 X.gold.length r3)).setCell ⟨w.heap.size + 1, 7, none⟩ (Value.slice (some ⟨g, 0, none⟩) X.us.length r4)).setCell ⟨w.heap.size + 1, 8, none⟩ (Value.slice a5 X.qs.length r5))) := put_kp _ _ _ _ _ _ _ _ _ _ _
      obtain ⟨y0, y1, y2, y3, y4, y5, y6, y7, y8⟩ := (ZE.out.put (.int .i64 X.turn) (.int .i64 X.next) (.int .i64 X.wide) (.int .i64 X.high) (Value.slice a1 X.gs.length r1) (Value.slice a2 X.os.length r2) (Value.slice a3 X.gold.length r3) (Value.slice (some ⟨g, 0, none⟩) X.us.length r4) (Value.slice a5 X.qs.length r5)).cells
      go_wp2
      clear x0 x1 x2 x3 x4 x5 x6 x7 x8 z0 z1 z2 z3 z4 z5 z6 z7 z8 t0 t1 t2 t3 t4 t5 t6 t7 t8
      generalize (((((((((wr.setCell ⟨w.heap.size + 1, 0, none⟩ (.int .i64 X.turn)).setCell ⟨w.heap.size + 1, 1, none⟩ (.int .i64 X.next)).setCell ⟨w.heap.size + 1, 2, none⟩ (.int .i64 X.wide)).setCell ⟨w.heap.size + 1, 3, none⟩ (.int .i64 X.high)).setCell ⟨w.heap.size + 1, 4, none⟩ (Value.slice a1 X.gs.length r1)).setCell ⟨w.heap.size + 1, 5, none⟩ (Value.slice a2 X.os.length r2)).setCell ⟨w.heap.size + 1, 6, none⟩ (Value.slice a3 X.gold.length r3)).setCell ⟨w.heap.size + 1, 7, none⟩ (Value.slice (some ⟨g, 0, none⟩) X.us.length r4)).setCell ⟨w.heap.size + 1, 8, none⟩ (Value.slice a5 X.qs.length r5)) = wz at *
      refine bodyPost_ret (v := .tuple #[.agg #[.int .i64 X.turn, .int .i64 X.next, .int .i64 X.wide, .int .i64 X.high, Value.slice a1 X.gs.length r1, Value.slice a2 X.os.length r2, Value.slice a3 X.gold.length r3, Value.slice (some ⟨g, 0, none⟩) X.us.length r4, Value.slice a5 X.qs.length r5], ev, .nilIface]) (by simp [results, Tryd.results5, go_sem, y0, y1, y2, y3, y4, y5, y6, y7, y8]) rfl ⟨_, _, _, rfl, by rw [FW.out]; exact Er.nil, .inr ⟨FW.out, Wn, Hn, GD.out.2.1, GD.out.2.2, GD.out.1, us1, evs, FIN.out, AL.out.1, ?_, ?_⟩, KZ.out.below BE.out BE.out.size (by omega)⟩
      · have h := BS.out.1
        exact ⟨_, _, _, _, _, rfl, (OE.out.1.kp KZ.out (by omega)).mono (by omega), (OE.out.2.1.kp KZ.out (by omega)).mono (by omega), (OE.out.2.2.1.kp KZ.out (by omega)).mono (by omega), (UE.out.kp KZ.out (by omega)).mono (by omega), (OE.out.2.2.2.kp KZ.out (by omega)).mono (by omega)⟩
      · have h := BS.out.1
        have h' := B13.out
        exact (E4.out.1.kp9 KZ.out (by omega)).mono (by omega)
    · have hnl : n < X.us.length := by omega
      have hni : ((n : Nat) : Int) < (X.us.length : Nat) := by omega
      have hn1 : n < us1.length := by rw [AL.out.1]; exact hnl
      obtain ⟨u, hu⟩ : ∃ u, us1[n]? = some u := ⟨_, List.getElem?_eq_getElem hn1⟩
      obtain ⟨u0, hu0, huk, hid0, hfit, hgoal⟩ := AL.out.2 n u hu
      obtain ⟨k, f0⟩ := WR.out.fine hu0
      have hkk : ks[u.kind.toNat]? = some k := by rw [huk]; exact f0.kk
      have hsp := kind_nums WR.out.kinds (List.mem_of_getElem? hkk)
      have UH : Hid (us1[n]? = some u ∧ ks[u.kind.toNat]? = some k ∧ Fit ks (Wn * Hn) u ∧ (0 ≤ u.goal ∧ u.goal < (Wn * Hn : Nat)) ∧ (0 ≤ k.n4 ∧ k.n4 ≤ 4)) := ⟨hu, hkk, hfit, hgoal, hsp.2.2.1, hsp.2.2.2.1⟩
      have WN : IntKind.i64.wrap ((n : Nat) + 1 : Int) = ((n : Nat) : Int) + 1 := by rw [IntKind.wrap_i64]; omega
      have BE : Hid (Below w.heap.size w wr) := ab
      obtain ⟨x0, x1, x2, x3, x4, x5, x6, x7, x8⟩ := ax.cells
      have WK : Hid (Calls Tryd.prog 18 #[.slice pk ks.length qk, .agg #[.int .i64 X.turn, .int .i64 X.next, .int .i64 X.wide, .int .i64 X.high, Value.slice a1 X.gs.length r1, Value.slice a2 X.os.length r2, Value.slice a3 X.gold.length r3, Value.slice (some ⟨g, 0, none⟩) X.us.length r4, Value.slice a5 X.qs.length r5], .pointer (some ⟨g, n * 8, none⟩)] wr fun e w' => ∃ v us' cells, e = .returned v ∧ Ow w' wr.heap.size v cells ∧ Goes ks X Wn Hn k n us1 k.n4 cells us' ∧ Ub w' g us' rest ∧ Kp g wr w' ∧ cells.length ≤ 4 ∧ (∃ a, us' = us1.set n { u with at_ := a } ∧ 0 ≤ a ∧ a < (Wn * Hn : Nat))) := by
        have h := walk_any (.slice pk ks.length qk) ks X us1 (Value.slice a1 X.gs.length r1) (Value.slice a2 X.os.length r2) (Value.slice a3 X.gold.length r3) (Value.slice a5 X.qs.length r5) g r4 n rest u k Wn Hn wr (K.out.1.below BE.out) (S.out.below BE.out) GD.out.1 GD.out.2.1 GD.out.2.2 (fun V us' hl hk hu => by
          have h9 := ST.out V us' (by rw [hl, AL.out.1]) (P4.out.trans hk) hu
          rw [AL.out.1]
          exact ⟨h9.1, h9.2.1, h9.2.2.1⟩) U4.out UH.out.1 UH.out.2.1 (by rw [AL.out.1]; exact hul) AL.out.fits UH.out.2.2.2.1 UH.out.2.2.2.2
        rw [AL.out.1] at h
        exact h
      clear ax az ab ao1 ao2 ao3 ao5 hu hu0 huk hid0 hfit hgoal f0 hkk hsp
      go_wp2_with fail
      refine Calls.mono WK.out ?_
      rintro e v2 ⟨cv, us2, cells, rfl, hoc, hgo, hub2, hkp2, hc4, a, hus2, ha⟩
      obtain ⟨u2, hu2⟩ : ∃ v : UnV, { u with at_ := a } = v := ⟨_, rfl⟩
      have hi2 : us2[n]? = some u2 := by rw [hus2, hu2, List.getElem?_set_self hn1]
      have H2 : Hid (us2[n]? = some u2 ∧ us2.length = X.us.length ∧ Alike ks (Wn * Hn) X.us us2 ∧ u2.id = u.id ∧ u2.kind = u.kind ∧ Fit ks (Wn * Hn) u2 ∧ (0 ≤ u2.goal ∧ u2.goal < (Wn * Hn : Nat)) ∧ n < us2.length) := by
        have hf : Fit ks (Wn * Hn) u2 := by rw [← hu2]; exact ⟨UH.out.2.2.1.1, ha⟩
        have hg2 : 0 ≤ u2.goal ∧ u2.goal < (Wn * Hn : Nat) := by rw [← hu2]; exact UH.out.2.2.2.1
        have hal2 : Alike ks (Wn * Hn) X.us us2 := by rw [hus2, hu2]; exact AL.out.set UH.out.1 (by rw [← hu2]) (by rw [← hu2]) hf hg2
        exact ⟨hi2, hal2.1, hal2, by rw [← hu2], by rw [← hu2], hf, hg2, (List.getElem?_eq_some_iff.1 hi2).1⟩
      obtain ⟨ac, cc, rfl⟩ := hoc.len
      obtain ⟨bo, hbo⟩ : ∃ z, wr.heap.size = z := ⟨_, rfl⟩
      rw [hbo] at hoc
      have OC : Hid (Ow v2 bo (.slice ac cells.length cc) cells) := hoc
      have GO : Hid (Goes ks X Wn Hn k n us1 k.n4 cells us2 ∧ cells.length ≤ 4) := ⟨hgo, hc4⟩
      have U5 : Hid (Ub v2 g us2 rest) := hub2
      have P5 : Hid (Kp g w3 v2) := P4.out.trans hkp2
      have E5 : Hid (Evo v2 w3.heap.size ev evs) := E4.out.1.kp9 hkp2 GL.out
      have DE : Hid (∀ b, ev.ownBlock = some b → (Value.slice ac cells.length cc).ownBlock ≠ some b) := fun b h1 h2 => by
        have := (E4.out.1.block b h1).2
        have := (hoc.block b h2).1
        omega
      have EL : Hid (evs.length ≤ 4 * n) := E4.out.2
      have hcc : cells.length ≤ cc ∧ cc ≤ 9223372036854775807 := by
        obtain ⟨a9, c9, h9, h8, h7, -⟩ := hoc.ro
        injection h9 with _ _ h9
        subst h9
        exact ⟨h8, h7⟩
      obtain ⟨hcc1, hcc2⟩ := hcc
      clear hoc hgo hub2 hkp2 hus2 ha hu2 hi2 hbo x0 x1 x2 x3 x4 x5 x6 x7 x8 WK U4 P4 E4 BE
      generalize wr = wo at *
      go_upto_region 11 with fail
      go_loopw [8, 37] (fun v8 v37 V => ∃ (m : Nat) (ev' : Value), ev' = v8 ∧ v37 = .int .i64 (m : Nat) ∧ m ≤ cells.length ∧ Ub V g us2 rest ∧ Evo V w3.heap.size ev' (evs ++ (cells.take m).map (fun c => (⟨1, u.id, c⟩ : EvV))) ∧ Kp g w3 V ∧ Ow V bo (.slice ac cells.length cc) cells ∧ (∀ b, ev'.ownBlock = some b → (Value.slice ac cells.length cc).ownBlock ≠ some b)) (fun _ v37 _ => cells.length - (intOf v37).toNat)
      case atStart => exact ⟨0, _, rfl, rfl, Nat.zero_le _, U5.out, by simpa using E5.out, P5.out, OC.out, DE.out⟩
      case round =>
        obtain ⟨m, ev', rfl, rfl, hm, hub, hev, hkp, hoc, hde⟩ := hrel
        have U6 : Hid (Ub wr g us2 rest) := hub
        have E6 : Hid (Evo wr w3.heap.size ev' (evs ++ (cells.take m).map (fun c => (⟨1, u.id, c⟩ : EvV)))) := hev
        have P6 : Hid (Kp g w3 wr) := hkp
        have O6 : Hid (Ow wr bo (.slice ac cells.length cc) cells) := hoc
        have D6 : Hid (∀ b, ev'.ownBlock = some b → (Value.slice ac cells.length cc).ownBlock ≠ some b) := hde
        clear hub hev hkp hoc hde U5 E5 P5 OC DE
        obtain ⟨y0, y1, y2, y3, y4, y5, y6, y7⟩ := U6.out.unc H2.out.1
        by_cases h0 : m = cells.length
        · subst h0
          have hml : ¬ (((cells.length : Nat) : Int) < (cells.length : Nat)) := by omega
          rw [List.take_of_length_le (Nat.le_refl _)] at E6
          obtain ⟨evs2, hevs2⟩ : ∃ l, evs ++ cells.map (fun c => (⟨1, u.id, c⟩ : EvV)) = l := ⟨_, rfl⟩
          rw [hevs2] at E6
          have EL2 : Hid (evs2.length ≤ 4 * (n + 1)) := by
            unfold Hid
            rw [← hevs2, List.length_append, List.length_map]
            have := EL.out
            have := GO.out.2
            omega
          have MO2 : Hid (∀ evs' us', Moves ks X Wn Hn (n + 1) (us2.set n (ends u2)) evs' us' → Moves ks X Wn Hn 0 X.us (evs2 ++ evs') us') := fun evs' us' h => by
            have := MO.out (cells.map (fun c => (⟨1, u.id, c⟩ : EvV)) ++ evs') us' (.unit UH.out.1 UH.out.2.1 GO.out.1 H2.out.1 h)
            rw [← List.append_assoc, hevs2] at this
            exact this
          clear hevs2
          have SELF : Hid (us2.set n u2 = us2) := by
            unfold Hid
            obtain ⟨h2, h3⟩ := List.getElem?_eq_some_iff.1 H2.out.1
            rw [← h3, List.set_getElem_self]
          go_upto_region 15 with fail
          by_cases ht : u2.task = 1
          · have ht' : (u2.task == 1) = true := by rw [ht]; rfl
            have C5 : Hid (∀ V, Below wr.heap.size wr V → Unc V ⟨g, n * 8, none⟩ u2) := fun V hb => (U6.out.below hb U6.out.lt).unc H2.out.1
            clear y0 y1 y2 y3 y4 y5 y6 y7
            by_cases hg : u2.at_ = u2.goal
            · have hg' : (u2.at_ == u2.goal) = true := by rw [hg]; simp
              have EN : Hid (ends u2 = { u2 with task := 0, goal := 0 }) := by unfold Hid ends; rw [if_pos ⟨ht, hg⟩]
              clear ht hg
              refine wp_region_two [(true, 0), (true, 1), (true, 2), (true, 3), (true, 4), (true, 5), (true, 6), (true, 7), (true, 8), (true, 9), (true, 10), (true, 11), (true, 12), (true, 13), (true, 14)] [(false, 15)] (fun V => Unc V ⟨g, n * 8, none⟩ u2) (by kernel_rfl) (by kernel_rfl) (by kernel_rfl) (by decide +kernel) (by decide +kernel) (C5.out _ ((Below.refl _ _).drew)) ?_
              have D1 : Hid (Below wr.heap.size wr { wr with drawn := wr.drawn + 1 }) := (Below.refl _ _).drew
              generalize ({ wr with drawn := wr.drawn + 1 } : World) = v7 at *
              refine headT_read rfl (.pointer (some ⟨g, n * 8, none⟩)) (by go_simp) (fun V hV => by go_simp) ?_
              go_simp
              refine headT_read rfl (.pointer (some ⟨g, n * 8, none⟩)) (by go_simp) (fun V hV => by go_simp) ?_
              go_simp
              refine headT_read rfl (.pointer (some ⟨g, n * 8 + 6, none⟩)) (by go_simp) (fun V hV => by go_simp) ?_
              go_simp
              refine headT_read rfl (.int .i64 u2.task) (by go_simp) (fun V hV => by obtain ⟨y0, y1, y2, y3, y4, y5, y6, y7⟩ := hV; go_simp) ?_
              go_simp
              refine headT_read rfl (.bool true) (by go_simp) (fun V hV => by go_simp) ?_
              go_simp
              refine headT_read rfl (.bool true) (by go_simp) (fun V hV => by go_simp) ?_
              go_simp
              refine headT_read rfl (.pointer (some ⟨g, n * 8, none⟩)) (by go_simp) (fun V hV => by go_simp) ?_
              go_simp
              refine headT_read rfl (.pointer (some ⟨g, n * 8, none⟩)) (by go_simp) (fun V hV => by go_simp) ?_
              go_simp
              refine headT_read rfl (.pointer (some ⟨g, n * 8 + 3, none⟩)) (by go_simp) (fun V hV => by go_simp) ?_
              go_simp
              refine headT_read rfl (.int .i64 u2.at_) (by go_simp) (fun V hV => by obtain ⟨y0, y1, y2, y3, y4, y5, y6, y7⟩ := hV; go_simp) ?_
              go_simp
              refine headT_read rfl (.pointer (some ⟨g, n * 8, none⟩)) (by go_simp) (fun V hV => by go_simp) ?_
              go_simp
              refine headT_read rfl (.pointer (some ⟨g, n * 8, none⟩)) (by go_simp) (fun V hV => by go_simp) ?_
              go_simp
              refine headT_read rfl (.pointer (some ⟨g, n * 8 + 7, none⟩)) (by go_simp) (fun V hV => by go_simp) ?_
              go_simp
              refine headT_read rfl (.int .i64 u2.goal) (by go_simp) (fun V hV => by obtain ⟨y0, y1, y2, y3, y4, y5, y6, y7⟩ := hV; go_simp) ?_
              go_simp
              refine headT_read rfl (.bool true) (by go_simp) (fun V hV => by go_simp) ?_
              go_simp
              unfold wpHeadT
              refine sched_value rfl (.bool true) v7 (by go_simp) (by go_simp) trivial ?_
              go_simp
              unfold wpSched
              have U7 : Hid (Ub v7 g us2 rest) := U6.out.below D1.out U6.out.lt
              have c6 := (U7.out.unc H2.out.1).c6
              have t6 := U7.out.thaw (n * 8 + 6)
              have U8 : Hid (Ub (v7.setCell ⟨g, n * 8 + 6, none⟩ (.int .i64 0)) g (us2.set n { u2 with task := 0 }) rest) := U7.out.set6 H2.out.1 0
              have hs8 : (us2.set n { u2 with task := 0 })[n]? = some { u2 with task := 0 } := List.getElem?_set_self H2.out.2.2.2.2.2.2.2
              have c7 := (U8.out.unc hs8).c7
              have t7 := U8.out.thaw (n * 8 + 7)
              have U9 : Hid (Ub ((v7.setCell ⟨g, n * 8 + 6, none⟩ (.int .i64 0)).setCell ⟨g, n * 8 + 7, none⟩ (.int .i64 0)) g (us2.set n { u2 with task := 0, goal := 0 }) rest) := by
                have := U8.out.set7 hs8 0
                rw [List.set_set] at this
                exact this
              have K9 : Hid (Kp g v7 ((v7.setCell ⟨g, n * 8 + 6, none⟩ (.int .i64 0)).setCell ⟨g, n * 8 + 7, none⟩ (.int .i64 0))) := (Kp.set _ _ _).trans (Kp.set _ _ _)
              clear hs8
              go_upto_region 17 with fail
              clear c6 t6 c7 t7 U8 U7
              generalize ((v7.setCell ⟨g, n * 8 + 6, none⟩ (.int .i64 0)).setCell ⟨g, n * 8 + 7, none⟩ (.int .i64 0)) = v9 at *
              have P9 : Hid (Kp g w3 v9) := (P6.out.trans (Kp.of D1.out)).trans K9.out
              have E9 : Hid (Evo v9 w3.heap.size ev' evs2) := (E6.out.below D1.out).kp9 K9.out GL.out
              have AL9 : Hid (Alike ks (Wn * Hn) X.us (us2.set n { u2 with task := 0, goal := 0 })) := H2.out.2.2.1.set H2.out.1 rfl rfl ⟨H2.out.2.2.2.2.2.1.1, H2.out.2.2.2.2.2.1.2⟩ ⟨Int.le_refl _, by have := H2.out.2.2.2.2.2.2.1; show (0 : Int) < _; omega⟩
              rw [EN.out] at MO2
              clear ht' hg'
              go_wp2
              go_round
              case rel => exact ⟨n + 1, _, evs2, _, rfl, by go_num, by omega, AL9.out, U9.out, E9.out, EL2.out, P9.out, MO2.out⟩
              case measure => simp [intOf]; omega
            · have hg' : (u2.at_ == u2.goal) = false := by rw [beq_eq_false_iff_ne]; exact hg
              have EN : Hid (ends u2 = u2) := by unfold Hid ends; rw [if_neg (fun h => hg h.2)]
              clear ht hg
              refine wp_region_two [(true, 0), (true, 1), (true, 2), (true, 3), (true, 4), (true, 5), (true, 6), (true, 7), (true, 8), (true, 9), (true, 10), (true, 11), (true, 12), (true, 13), (true, 14)] [(false, 15)] (fun V => Unc V ⟨g, n * 8, none⟩ u2) (by kernel_rfl) (by kernel_rfl) (by kernel_rfl) (by decide +kernel) (by decide +kernel) (C5.out _ ((Below.refl _ _).drew)) ?_
              have D1 : Hid (Below wr.heap.size wr { wr with drawn := wr.drawn + 1 }) := (Below.refl _ _).drew
              generalize ({ wr with drawn := wr.drawn + 1 } : World) = v7 at *
              refine headT_read rfl (.pointer (some ⟨g, n * 8, none⟩)) (by go_simp) (fun V hV => by go_simp) ?_
              go_simp
              refine headT_read rfl (.pointer (some ⟨g, n * 8, none⟩)) (by go_simp) (fun V hV => by go_simp) ?_
              go_simp
              refine headT_read rfl (.pointer (some ⟨g, n * 8 + 6, none⟩)) (by go_simp) (fun V hV => by go_simp) ?_
              go_simp
              refine headT_read rfl (.int .i64 u2.task) (by go_simp) (fun V hV => by obtain ⟨y0, y1, y2, y3, y4, y5, y6, y7⟩ := hV; go_simp) ?_
              go_simp
              refine headT_read rfl (.bool true) (by go_simp) (fun V hV => by go_simp) ?_
              go_simp
              refine headT_read rfl (.bool true) (by go_simp) (fun V hV => by go_simp) ?_
              go_simp
              refine headT_read rfl (.pointer (some ⟨g, n * 8, none⟩)) (by go_simp) (fun V hV => by go_simp) ?_
              go_simp
              refine headT_read rfl (.pointer (some ⟨g, n * 8, none⟩)) (by go_simp) (fun V hV => by go_simp) ?_
              go_simp
              refine headT_read rfl (.pointer (some ⟨g, n * 8 + 3, none⟩)) (by go_simp) (fun V hV => by go_simp) ?_
              go_simp
              refine headT_read rfl (.int .i64 u2.at_) (by go_simp) (fun V hV => by obtain ⟨y0, y1, y2, y3, y4, y5, y6, y7⟩ := hV; go_simp) ?_
              go_simp
              refine headT_read rfl (.pointer (some ⟨g, n * 8, none⟩)) (by go_simp) (fun V hV => by go_simp) ?_
              go_simp
              refine headT_read rfl (.pointer (some ⟨g, n * 8, none⟩)) (by go_simp) (fun V hV => by go_simp) ?_
              go_simp
              refine headT_read rfl (.pointer (some ⟨g, n * 8 + 7, none⟩)) (by go_simp) (fun V hV => by go_simp) ?_
              go_simp
              refine headT_read rfl (.int .i64 u2.goal) (by go_simp) (fun V hV => by obtain ⟨y0, y1, y2, y3, y4, y5, y6, y7⟩ := hV; go_simp) ?_
              go_simp
              refine headT_read rfl (.bool false) (by go_simp) (fun V hV => by go_simp) ?_
              go_simp
              unfold wpHeadT
              refine sched_value rfl (.bool false) v7 (by go_simp) (by go_simp) trivial ?_
              go_simp
              unfold wpSched
              have U9 : Hid (Ub v7 g us2 rest) := U6.out.below D1.out U6.out.lt
              have P9 : Hid (Kp g w3 v7) := P6.out.trans (Kp.of D1.out)
              have E9 : Hid (Evo v7 w3.heap.size ev' evs2) := E6.out.below D1.out
              rw [EN.out, SELF.out] at MO2
              clear ht' hg'
              go_wp2
              go_round
              case rel => exact ⟨n + 1, us2, evs2, _, rfl, by go_num, by omega, H2.out.2.2.1, U9.out, E9.out, EL2.out, P9.out, MO2.out⟩
              case measure => simp [intOf]; omega
          · have ht' : (u2.task == 1) = false := by rw [beq_eq_false_iff_ne]; exact ht
            have EN : Hid (ends u2 = u2) := by unfold Hid ends; rw [if_neg (fun h => ht h.1)]
            rw [EN.out, SELF.out] at MO2
            clear ht
            go_quiet (fail)
            clear y0 y1 y2 y3 y4 y5 y6 y7
            go_wp2
            go_round
            case rel => exact ⟨n + 1, us2, evs2, _, rfl, by go_num, by omega, H2.out.2.2.1, U6.out.below (B := wr.heap.size) ⟨rfl, rfl, rfl, Nat.le_refl _, fun _ _ => rfl⟩ U6.out.lt, E6.out.below ⟨rfl, rfl, rfl, Nat.le_refl _, fun _ _ => rfl⟩, EL2.out, P6.out.trans (Kp.of ⟨rfl, rfl, rfl, Nat.le_refl _, fun _ _ => rfl⟩), MO2.out⟩
            case measure => simp [intOf]; omega
        · have hml : m < cells.length := by omega
          have hmi : ((m : Nat) : Int) < (cells.length : Nat) := by omega
          obtain ⟨x, hx⟩ : ∃ x, cells[m]? = some x := ⟨_, List.getElem?_eq_getElem hml⟩
          obtain ⟨a9, c9, h9, -, -, hcl⟩ := O6.out.ro
          obtain ⟨xc, hxc, -, hcc9⟩ := hcl (by intro h; rw [h] at hml; simp at hml)
          injection h9 with h91 h92 h93
          subst h91
          subst hxc
          have cx := hcc9 m x hx
          have WM : IntKind.i64.wrap ((m : Nat) + 1 : Int) = ((m : Nat) : Int) + 1 := by rw [IntKind.wrap_i64]; have := GO.out.2; omega
          obtain ⟨fs, hfs⟩ : ∃ l, evs ++ (cells.take m).map (fun c => (⟨1, u.id, c⟩ : EvV)) = l := ⟨_, rfl⟩
          have NX : Hid (evs ++ (cells.take (m + 1)).map (fun c => (⟨1, u.id, c⟩ : EvV)) = fs ++ [⟨1, u.id, x⟩]) := by
            unfold Hid
            obtain ⟨q1', q2'⟩ := List.getElem?_eq_some_iff.1 hx
            rw [List.take_succ_eq_append_getElem q1', q2', List.map_append, ← List.append_assoc, hfs]
            rfl
          have FSL : Hid (fs.length ≤ 1000) := by
            unfold Hid
            rw [← hfs, List.length_append, List.length_map, List.length_take]
            have := EL.out
            have := GO.out.2
            omega
          rw [hfs] at E6
          rw [H2.out.2.2.2.1] at y0
          clear hcl h92 h93 hcc9 hx hfs
          have BA : Hid (Below wr.heap.size wr (wr.alloc (Obj.cells #[.int .i64 1, .int .i64 u.id, .int .i64 x] 45))) := (Below.refl _ _).alloc (Nat.le_refl _) _
          have EC : Hid (Evc (wr.alloc (Obj.cells #[.int .i64 1, .int .i64 u.id, .int .i64 x] 45)) ⟨wr.heap.size, 0, none⟩ (⟨1, u.id, x⟩ : EvV)) := Evc.mk' (⟨1, u.id, x⟩ : EvV) rfl
          have E7 : Hid (Evo (wr.alloc (Obj.cells #[.int .i64 1, .int .i64 u.id, .int .i64 x] 45)) w3.heap.size ev' fs) := E6.out.below BA.out
          have SZ : Hid (w3.heap.size ≤ (wr.alloc (Obj.cells #[.int .i64 1, .int .i64 u.id, .int .i64 x] 45)).heap.size) := Nat.le_trans P6.out.size BA.out.size
          go_wp2_with (at_builtin; refine app_ev _ rfl _ _ rfl w3.heap.size _ fs rfl E7.out _ (⟨1, u.id, x⟩ : EvV) rfl EC.out (by have := FSL.out; omega) SZ.out ?_)
          intro gg gc v8 o8 g8 s8 _
          have E8 : Hid (Evo v8 w3.heap.size (.slice (some ⟨gg, 0, none⟩) (fs.length + 1) gc) (fs ++ [⟨1, u.id, x⟩])) := o8
          have P8 : Hid (Kp g w3 v8) := kp_gb (P6.out.trans (Kp.of BA.out)) g8 (fun b hb => (E7.out.block b hb).1)
          have U8 : Hid (Ub v8 g us2 rest) := by
            have h6 := U6.out.below BA.out U6.out.lt
            unfold Ub at h6
            unfold Hid Ub
            rw [g8.block g (lt_of_block h6) (fun e => by have := (E7.out.block g e.symm).1; have := GL.out; omega)]
            exact h6
          have O8 : Hid (Ow v8 bo (.slice (some xc) cells.length cc) cells) := own_gb (Ow.below O6.out BA.out) g8 (fun b h1 h2 => D6.out b h2 h1)
          have D8 : Hid (∀ b, (Value.slice (some ⟨gg, 0, none⟩) (fs.length + 1) gc).ownBlock = some b → (Value.slice (some xc) cells.length cc).ownBlock ≠ some b) := fun b h1 h2 => by
            have hgb : gg = b := by injection h1
            rcases s8 with s8 | s8
            · exact D6.out gg s8 (by rw [hgb]; exact h2)
            · have := (O6.out.block b h2).2
              have hw : gg = wr.heap.size + 1 := s8.trans (by simp)
              omega
          clear o8 g8 s8 BA EC E7 SZ y0 y1 y2 y3 y4 y5 y6 y7 cx
          go_wp2
          go_round
          case rel => exact ⟨m + 1, _, rfl, by go_num, by omega, U8.out, by rw [NX.out]; exact E8.out, P8.out, O8.out, D8.out⟩
          case measure => simp [intOf]; omega
end Go.Proofs.YtagnjmellcibhaaDoor

namespace Go.Proofs.YtagnjmellcibhaaDoor
open Wy
set_option linter.unusedVariables false

theorem far_self {nb : Nat → List Int} {st : Nat → Nat → Int} {t n : Nat} {l : List Int} (h : IsFar nb st t n l) (ht : t < n) : l.getD t 0 = 0 := by
  have hl : t < l.length := by rw [h.1]; exact ht
  have h1 := h.2 t _ (List.getElem?_eq_getElem hl)
  rw [List.getD_eq_getElem?_getD, List.getElem?_eq_getElem hl]
  show l[t] = 0
  rcases h1 with ⟨-, h1⟩ | ⟨h1, h2⟩
  · exact absurd Way.here (h1 0)
  · have := h2 0 Way.here
    have := h1.nonneg
    omega
/-- who rests wishes to be where it is. -/
theorem wish_rest {ks : List KV} {X : WV} {Wn Hn : Nat} {u : UnV} {k : KV} {c : Nat} (h : WishSays ks X Wn Hn u k c) (ht : u.task = 0) : u.at_ = (c : Nat) := by
  obtain ⟨an, bn, l, ha, haim, -, -, hh⟩ := h
  have hb : (bn : Int) = u.at_ := by
    rcases haim with ⟨-, h⟩ | ⟨h, -⟩ | ⟨h, -⟩
    · exact h
    · exact absurd ht h
    · rw [ht] at h; cases h
  rcases hh with ⟨-, rfl⟩ | ⟨-, h⟩
  · exact ha
  · rcases h with ⟨-, rfl⟩ | ⟨h, -⟩
    · exact ha
    · exact absurd (by omega) h
theorem goes_rest {ks : List KV} {X : WV} {Wn Hn : Nat} {k : KV} {i : Nat} {us us' : List UnV} {left : Int} {cells : List Int} {u : UnV} (hu : us[i]? = some u) (ht : u.task = 0) (h : Goes ks X Wn Hn k i us left cells us') : cells = [] ∧ us' = us := by
  cases h with
  | stop => exact ⟨rfl, rfl⟩
  | step hu' hw hg h1 h2 h3 =>
    rw [hu] at hu'
    injection hu' with hu'
    subst hu'
    have := List.any_eq_false.1 h2 u (List.mem_of_getElem? hu)
    rw [wish_rest hw ht] at this
    simp at this
theorem ends_rest {u : UnV} (ht : u.task = 0) : ends u = u := by
  unfold ends
  rw [if_neg]
  rintro ⟨h, -⟩
  rw [ht] at h; cases h
theorem moves_rest {ks : List KV} {X : WV} {Wn Hn : Nat} {n : Nat} {us us' : List UnV} {evs : List EvV} (h : Moves ks X Wn Hn n us evs us') : (∀ u ∈ us, u.task = 0) → evs = [] ∧ us' = us := by
  induction h with
  | done h => intro _; exact ⟨rfl, rfl⟩
  | unit hu hk hg h1 hm ih =>
    intro hr
    have htu := hr _ (List.mem_of_getElem? hu)
    obtain ⟨rfl, rfl⟩ := goes_rest hu htu hg
    rw [hu] at h1
    injection h1 with h1
    subst h1
    obtain ⟨hi, e⟩ := List.getElem?_eq_some_iff.1 hu
    rw [ends_rest htu, ← e, List.set_getElem_self] at ih
    obtain ⟨rfl, rfl⟩ := ih hr
    exact ⟨rfl, rfl⟩
/-- all rest. -/
def rst (u : UnV) : UnV := { u with task := 0, goal := 0 }
def restW (X : WV) : WV := { X with us := X.us.map rst }
def restN (us : List UnV) (n : Nat) : List UnV := (us.take n).map rst ++ us.drop n
theorem restN_zero (us : List UnV) : restN us 0 = us := by simp [restN]
theorem restN_all (us : List UnV) : restN us us.length = us.map rst := by simp [restN]
theorem restN_len (us : List UnV) (n : Nat) : (restN us n).length = us.length := by
  unfold restN
  rw [List.length_append, List.length_map, List.length_take, List.length_drop]
  omega
theorem restN_at {us : List UnV} {n : Nat} {u : UnV} (hu : us[n]? = some u) : (restN us n)[n]? = some u := by
  have hn : n < us.length := (List.getElem?_eq_some_iff.1 hu).1
  unfold restN
  have h1 : ((us.take n).map rst).length = n := by rw [List.length_map, List.length_take]; omega
  rw [List.getElem?_append_right (by omega), h1, Nat.sub_self, List.getElem?_drop, Nat.add_zero]
  exact hu
theorem restN_next {us : List UnV} {n : Nat} {u : UnV} (hu : us[n]? = some u) : (restN us n).set n (rst u) = restN us (n + 1) := by
  obtain ⟨hn, e1⟩ := List.getElem?_eq_some_iff.1 hu
  have h1 : ((us.take n).map rst).length = n := by rw [List.length_map, List.length_take]; omega
  unfold restN
  rw [List.set_append_right _ _ (by omega), h1, Nat.sub_self, List.drop_eq_getElem_cons hn, List.set_cons_zero, List.take_succ_eq_append_getElem hn, e1, List.map_append]
  simp
theorem rest_right {ks : List KV} {X : WV} (h : WRight ks X) : Wd.wfault ks (restW X) = 0 := by
  obtain ⟨Wm, Hm, e1, e2, G⟩ := h.good
  have hgp : 0 < X.gs.length := by rw [G.gl]; exact Nat.mul_pos G.w1 G.h1
  refine Wd.wfault_zero h.kinds (by show Fd.fault X.wide X.high X.gs X.os = 0; rw [e1, e2]; exact Fd.fault_good G) h.nums (by show (X.us.map rst).length ≤ 40; rw [List.length_map]; exact h.ul) ?_ h.ql ?_
  · intro i y hy
    have hy' : (X.us.map rst)[i]? = some y := hy
    rw [List.getElem?_map] at hy'
    cases hu : X.us[i]? with
    | none => rw [hu] at hy'; cases hy'
    | some u =>
      rw [hu] at hy'
      injection hy' with hy'
      subst hy'
      obtain ⟨k, f⟩ := h.fine hu
      refine ⟨k, f.id1, f.id2, ?_, f.p, f.k0, f.kk, f.life, f.load, ⟨Int.le_refl _, by show (0 : Int) ≤ 2; decide⟩, f.at_, ⟨Int.le_refl _, by show (0 : Int) < _; exact Int.ofNat_lt.2 hgp⟩, ?_, .inl rfl⟩
      · show Wd.notAbove (X.us.map rst) i (rst u) = false
        have hup := f.up
        cases i with
        | zero => rfl
        | succ i =>
          simp only [Wd.notAbove] at hup ⊢
          rw [List.getElem?_map]
          cases hx : X.us[i]? with
          | none => rfl
          | some x =>
            rw [hx] at hup
            exact hup
      · have ho := f.opn
        show Wd.open_ X.gs ((X.us.map rst).take i) u.at_ k.f = true
        unfold Wd.open_ at ho ⊢
        rw [← List.map_take, List.any_map]
        exact ho
  · intro j hj
    have hx := h.job hj
    unfold Wd.jobFault at hx ⊢
    show (match (X.us.map rst).find? (fun u => u.id == j.unit) with | none => (6 : Int) | some u => _) = 0
    rw [List.find?_map]
    have hc : ((fun u : UnV => u.id == j.unit) ∘ rst) = (fun u : UnV => u.id == j.unit) := rfl
    rw [hc]
    cases hf : X.us.find? (fun u => u.id == j.unit) with
    | none => rw [hf] at hx; cases hx
    | some u => rw [hf] at hx; exact hx
/-- one that marches wishes to its Goal no further than it is. -/
theorem wish_march {ks : List KV} {X : WV} {Wn Hn : Nat} {u : UnV} {k : KV} {c an gn : Nat} {lf : List Int} (h : WishSays ks X Wn Hn u k c) (ht : u.task = 1) (ha : u.at_ = (an : Nat)) (hg : u.goal = (gn : Nat)) (han : an < Wn * Hn) (hgn : gn < Wn * Hn)
    (hl : IsFar (Fd.near Wn Hn) (fun _ j => (X.gs.map fun g => Fd.onto g k.f).getD j 0) gn (Wn * Hn) lf) : (lf.getD an 0 < 0 → c = an) ∧ (0 < lf.getD an 0 → lf.getD c 0 < lf.getD an 0) := by
  obtain ⟨an', bn, l, ha', haim, -, hl', hh⟩ := h
  have hb : (bn : Int) = u.goal := by
    rcases haim with ⟨h, -⟩ | ⟨-, -, h⟩ | ⟨h, -⟩
    · rw [ht] at h; cases h
    · exact h
    · rw [ht] at h; cases h
  obtain rfl : bn = gn := by omega
  obtain rfl : an' = an := by omega
  obtain rfl := IsFar.uniq hl'.1 hl
  rcases hh with ⟨h1, rfl⟩ | ⟨h1, h⟩
  · exact ⟨fun _ => rfl, fun h2 => by omega⟩
  · refine ⟨fun h2 => by omega, fun h2 => ?_⟩
    rcases h with ⟨rfl, -⟩ | ⟨-, h⟩
    · rw [far_self hl hgn] at h2; omega
    · have := h.is
      omega
end Go.Proofs.YtagnjmellcibhaaDoor

namespace Go.Proofs.YtagnjmellcibhaaDoor
set_option linter.unusedVariables false

theorem ids_next {ks : List KV} {X : WV} (h : WRight ks X) {i : Nat} {a b : UnV} (ha : X.us[i]? = some a) (hb : X.us[i + 1]? = some b) : a.id < b.id := by
  obtain ⟨k, f⟩ := h.fine hb
  have := f.up
  simp only [Wd.notAbove, ha, decide_eq_false_iff_not] at this
  omega
theorem ids_rise {ks : List KV} {X : WV} (h : WRight ks X) : ∀ (d i : Nat) (a b : UnV), X.us[i]? = some a → X.us[i + d + 1]? = some b → a.id < b.id
  | 0, i, a, b, ha, hb => ids_next h ha hb
  | d + 1, i, a, b, ha, hb => by
    have hl : i + d + 1 < X.us.length := by have := (List.getElem?_eq_some_iff.1 hb).1; omega
    have h1 := ids_rise h d i a _ ha (List.getElem?_eq_getElem hl)
    have h2 := ids_next h (List.getElem?_eq_getElem hl) (show X.us[i + d + 1 + 1]? = some b from hb)
    omega
theorem id_one {ks : List KV} {X : WV} (h : WRight ks X) {i j : Nat} {a b : UnV} (ha : X.us[i]? = some a) (hb : X.us[j]? = some b) (e : a.id = b.id) : i = j := by
  rcases Nat.lt_trichotomy i j with hl | hl | hl
  · have := ids_rise h (j - i - 1) i a b ha (by rw [show i + (j - i - 1) + 1 = j by omega]; exact hb)
    omega
  · exact hl
  · have := ids_rise h (i - j - 1) j b a hb (by rw [show j + (i - j - 1) + 1 = i by omega]; exact ha)
    omega
theorem fst_is {ks : List KV} {X : WV} (h : WRight ks X) {n : Nat} {u : UnV} {id r : Int} (hu : X.us[n]? = some u) (hi : u.id = id) (hr : FstU (fun o => o.id == id) X.us r) : r = n := by
  rcases hr with ⟨-, hr⟩ | ⟨k, y, rfl, hk, hy, -⟩
  · have := List.any_eq_false.1 hr u (List.mem_of_getElem? hu)
    simp [hi] at this
  · have hyi : y.id = id := by simpa using hy
    rw [id_one h hk hu (by rw [hyi, hi])]
end Go.Proofs.YtagnjmellcibhaaDoor

