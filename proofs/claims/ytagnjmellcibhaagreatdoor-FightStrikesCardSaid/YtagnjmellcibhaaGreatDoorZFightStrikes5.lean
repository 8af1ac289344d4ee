/- Slices of api.Event that the call itself makes, by append. · What stays where one block turns, or a list of one's own grows. · fight.target and fight.Target: whom a unit strikes. · fight.Target. · The reference's Target. · A block of integers that may be written. · make([]int, N) for few; one more event. -/
import Derived.Test.YtagnjmellcibhaaGreatDoorZFightStrikes4
import Derived.OwnWalk
import Derived.Deep.AppendLies
import Derived.Test.YtagnjmellcibhaaGreatDoorZFightStrikes1
import Derived.Test.YtagnjmellcibhaaGreatDoorZFightStrikes2
import Derived.Test.YtagnjmellcibhaaGreatDoorZFightStrikes3
import Derived.Laws.MakeOwn
namespace Go.Proofs.YtagnjmellcibhaaGreatDoor
open Go.RowKit
set_option linter.unusedVariables false

theorem info_ev : (Tryz.prog.info? 68).map (fun i => (i.zero, i.size, i.bytes)) = some (some (.agg #[.int .i64 0, .int .i64 0, .int .i64 0]), 3, 24) := by kernel_rfl
def EvV.cs (k : EvV) : List Value := [.int .i64 k.what, .int .i64 k.unit, .int .i64 k.arg]
theorem flat_ev : ∀ (ks : List EvV) (i j : Nat) (k : EvV), ks[i]? = some k → j < 3 → (ks.flatMap EvV.cs)[i * 3 + j]? = k.cs[j]?
  | [], i, j, k, h, _ => by simp at h
  | x :: ks, 0, j, k, h, hj => by
    simp at h
    subst h
    rw [List.flatMap_cons, List.getElem?_append_left (by simp [EvV.cs]; omega)]
    simp
  | x :: ks, i + 1, j, k, h, hj => by
    rw [List.flatMap_cons, List.getElem?_append_right (by simp [EvV.cs]; omega)]
    have : (i + 1) * 3 + j - (EvV.cs x).length = i * 3 + j := by simp [EvV.cs]; omega
    rw [this]
    exact flat_ev ks i j k (by simpa using h) hj
/-- v is a slice of them, in a block of its own from base on. -/
def Evo (w : World) (base : Nat) (v : Value) (ks : List EvV) : Prop := w.ownsRow base 68 3 v ks.length (ks.flatMap EvV.cs)
theorem Evo.nil (w : World) (base : Nat) : Evo w base (.slice none 0 0) [] := World.ownsRow_nil _ _ _ _
theorem Evo.below {w w' : World} {base : Nat} {v : Value} {ks : List EvV} (h : Evo w base v ks) (hb : Below w.heap.size w w') : Evo w' base v ks :=
  World.ownsRow.kept h (row := none) ⟨hb.os, hb.tape, hb.output, hb.size, fun k hk _ => hb.block k hk⟩ (by cases v.ownBlock <;> simp)
theorem Evo.kept {w w' : World} {base : Nat} {v : Value} {ks : List EvV} {row : Option Nat} (h : Evo w base v ks) (hg : w.grownBy w' row) (hne : v.ownBlock = none ∨ v.ownBlock ≠ row) : Evo w' base v ks := World.ownsRow.kept h hg hne
theorem Evo.alloc {w : World} {base : Nat} {v : Value} {ks : List EvV} (h : Evo w base v ks) (o : Obj) : Evo (w.alloc o) base v ks := World.ownsRow.alloc h o
theorem Evo.block {w : World} {base : Nat} {v : Value} {ks : List EvV} (h : Evo w base v ks) : ∀ k, v.ownBlock = some k → base ≤ k ∧ k < w.heap.size := World.ownsRow.lt h
theorem Evo.mono {w : World} {base base' : Nat} {v : Value} {ks : List EvV} (h : Evo w base v ks) (hb : base' ≤ base) : Evo w base' v ks := by
  refine ⟨h.1, ?_⟩
  rcases h.2 with h1 | ⟨g, cap, cur, h1, h2, h3⟩
  · exact .inl h1
  · exact .inr ⟨g, cap, cur, h1, Nat.le_trans hb h2, h3⟩
theorem Evo.l {w : World} {base : Nat} {v : Value} {ks : List EvV} (h : Evo w base v ks) : Evl w v ks := by
  rcases h.2 with ⟨hv, h0⟩ | ⟨g, cap, cur, hv, hb, hg, h1, h2, h3, h4⟩
  · exact ⟨none, 0, by rw [hv, h0], by omega, by omega, fun hn => absurd (List.length_eq_zero_iff.1 h0) hn⟩
  · refine ⟨_, cap, hv, h1, by unfold maxLen at h2; omega, fun _ => ⟨_, rfl, lt_of_block hg, fun i k hi => ?_⟩⟩
    have hil : i < ks.length := (List.getElem?_eq_some_iff.1 hi).1
    have h5 : w.ownsRow base 68 3 (.slice (some ⟨g, 0, none⟩) ks.length cap) ks.length (ks.flatMap EvV.cs) := by rw [← hv]; exact h
    have hc : ∀ j u, j < 3 → k.cs[j]? = some u → w.cell? ⟨g, i * 3 + j, none⟩ = some u := fun j u hj hu => by
      rw [h5.cellAt (i * 3 + j) (by omega), flat_ev ks i j k hi hj, hu]
    rw [Addr.add_lit, Nat.zero_add]
    exact ⟨hc 0 _ (by decide) rfl, hc 1 _ (by decide) rfl, hc 2 _ (by decide) rfl⟩
theorem Evo.len {w : World} {base : Nat} {v : Value} {ks : List EvV} (h : Evo w base v ks) : ∃ a c, v = .slice a ks.length c := by
  obtain ⟨a, c, h1, -⟩ := h.l
  exact ⟨a, c, h1⟩

/-- one more. -/
theorem app_ev {ops : Array Oper} {rest : List Oper} {o : Oper} {a : Act} {Q : Exit → Act → World → Prop} (w : World) (hgd : o.guard = none) (s x : Operand)
    (ho : o.op = .call { callee := .builtin .append, args := #[s, x], argTypes := #[31, 31] }) (base : Nat) (v : Value) (ks : List EvV) (hs : a.eval s = v) (hown : Evo w base v ks)
    (b : Nat) (d : EvV) (hx : a.eval x = .slice (some ⟨b, 0, none⟩) 1 1) (hd : Evc w ⟨b, 0, none⟩ d) (hl : ks.length ≤ 1000000) (hbase : base ≤ w.heap.size)
    (h : ∀ g cap w', Evo w' base (.slice (some ⟨g, 0, none⟩) (ks.length + 1) cap) (ks ++ [d]) → w.grownBy w' v.ownBlock → (v.ownBlock = some g ∨ g = w.heap.size) → g < w'.heap.size → wpList Tryz.prog ops Q rest (a.put o.dst (.slice (some ⟨g, 0, none⟩) (ks.length + 1) cap)) w') :
    wpList Tryz.prog ops Q (o :: rest) a w := by
  obtain ⟨i0, hi, hz0, hz1, hz2⟩ := info_parts info_ev
  refine wpList_append_lies w hgd s x 31 ho base 68 i0 (.agg #[.int .i64 0, .int .i64 0, .int .i64 0]) 3 24 Tryz.underlying31 hi hz0 hz1 hz2 rfl (by decide) v ks.length _ hs hown ⟨b, 0, none⟩ 1 1 d.cs hx rfl ?_ ?_ (by decide) (by unfold maxLen; omega) (by omega) hbase _ rfl ?_
  · intro j u hj
    have hjn : j < 3 := (List.getElem?_eq_some_iff.1 hj).1
    rw [Addr.add_lit, Nat.zero_add]
    match j, hjn, hj with
    | 0, _, hj => simp [EvV.cs] at hj; subst hj; exact hd.c0
    | 1, _, hj => simp [EvV.cs] at hj; subst hj; exact hd.c1
    | 2, _, hj => simp [EvV.cs] at hj; subst hj; exact hd.c2
  · intro u hu
    simp [EvV.cs] at hu
    rcases hu with rfl | rfl | rfl <;> rfl
  · intro g cap w' h1 h2 h3 h4
    refine h g cap w' ?_ h2 h3 h4
    unfold Evo
    rw [List.length_append, List.flatMap_append]
    simpa using h1
end Go.Proofs.YtagnjmellcibhaaGreatDoor

namespace Go.Proofs.YtagnjmellcibhaaGreatDoor
open Go.RowKit
set_option linter.unusedVariables false

theorem gb_trans {a b c : World} {r : Option Nat} (h : a.grownBy b r) (k : b.grownBy c r) : a.grownBy c r :=
  ⟨k.os.trans h.os, k.tape.trans h.tape, k.output.trans h.output, Nat.le_trans h.size k.size, fun i hi hr => (k.block i (Nat.lt_of_lt_of_le hi h.size) hr).trans (h.block i hi hr)⟩
theorem gb_below {a b : World} {r : Option Nat} (h : Below a.heap.size a b) : a.grownBy b r := ⟨h.os, h.tape, h.output, h.size, fun k hk _ => h.block k hk⟩
theorem gb_kp {a b : World} {z : Nat} (h : Kp z a b) : a.grownBy b (some z) := ⟨h.os, h.tape, h.output, h.size, fun k hk hn => h.block k hk (fun e => hn (by rw [e]))⟩
theorem kp_gb {z : Nat} {a b c : World} {r : Option Nat} (h : Kp z a b) (g : b.grownBy c r) (hr : ∀ k, r = some k → a.heap.size ≤ k) : Kp z a c :=
  ⟨g.os.trans h.os, g.tape.trans h.tape, g.output.trans h.output, Nat.le_trans h.size g.size, fun i hi hz => (g.block i (Nat.lt_of_lt_of_le hi h.size) (fun e => by have := hr i e.symm; omega)).trans (h.block i hi hz)⟩
theorem Evo.kp9 {w w' : World} {base z : Nat} {v : Value} {ks : List EvV} (h : Evo w base v ks) (k : Kp z w w') (hz : z < base) : Evo w' base v ks := owns_kp h k hz
theorem cell_kp9 {w w' : World} {z : Nat} {p : Addr} {u : Value} (h : w.cell? p = some u) (k : Kp z w w') (hz : p.block ≠ z) : w'.cell? p = some u := by
  rw [World.cell?_of_block (k.block p.block (cell_lt h) hz)]; exact h
theorem Bw.kp9 {w w' : World} {z y : Nat} {W : WV} {u1 u2 u3 u4 u5 : Value} (h : Bw w z W u1 u2 u3 u4 u5) (k : Kp y w w') (hn : z ≠ y) : Bw w' z W u1 u2 u3 u4 u5 :=
  ⟨cell_kp9 h.c0 k hn, cell_kp9 h.c1 k hn, cell_kp9 h.c2 k hn, cell_kp9 h.c3 k hn, cell_kp9 h.c4 k hn, cell_kp9 h.c5 k hn, cell_kp9 h.c6 k hn, cell_kp9 h.c7 k hn, cell_kp9 h.c8 k hn⟩
theorem Unc.kp9 {w w' : World} {z : Nat} {y : Addr} {u : UnV} (h : Unc w y u) (k : Kp z w w') (hn : y.block ≠ z) : Unc w' y u :=
  ⟨cell_kp9 h.c0 k hn, cell_kp9 h.c1 k hn, cell_kp9 h.c2 k hn, cell_kp9 h.c3 k hn, cell_kp9 h.c4 k hn, cell_kp9 h.c5 k hn, cell_kp9 h.c6 k hn, cell_kp9 h.c7 k hn⟩
theorem cell_gb {w w' : World} {r : Option Nat} {p : Addr} {u : Value} (h : w.cell? p = some u) (k : w.grownBy w' r) (hz : r ≠ some p.block) : w'.cell? p = some u := by
  rw [World.cell?_of_block (k.block p.block (cell_lt h) (fun e => hz e.symm))]; exact h
theorem Unc.gb {w w' : World} {r : Option Nat} {y : Addr} {u : UnV} (h : Unc w y u) (k : w.grownBy w' r) (hn : r ≠ some y.block) : Unc w' y u :=
  ⟨cell_gb h.c0 k hn, cell_gb h.c1 k hn, cell_gb h.c2 k hn, cell_gb h.c3 k hn, cell_gb h.c4 k hn, cell_gb h.c5 k hn, cell_gb h.c6 k hn, cell_gb h.c7 k hn⟩
theorem wx_bw {w : World} {z : Nat} {X : WV} {u1 u2 u3 u4 u5 : Value} (h : Wx w z (.int .i64 X.turn) (.int .i64 X.next) (.int .i64 X.wide) (.int .i64 X.high) u1 u2 u3 u4 u5) : Bw w z X u1 u2 u3 u4 u5 := by
  obtain ⟨h0, h1, h2, h3, h4, h5, h6, h7, h8⟩ := h.cells
  exact ⟨h0, h1, h2, h3, h4, h5, h6, h7, h8⟩
theorem own_low {w w' : World} {B base : Nat} {T : TypeId} {size : Nat} {u : Value} {n : Nat} {cs : List Value} (h : w.ownsRow base T size u n cs) (k : Below B w w') (hz : ∀ b, u.ownBlock = some b → b < B) : w'.ownsRow base T size u n cs := by
  refine ⟨h.1, ?_⟩
  rcases h.2 with h1 | ⟨g, cap, cur, h1, h2, h3, h4⟩
  · exact .inl h1
  · exact .inr ⟨g, cap, cur, h1, h2, (k.block g (hz g (by rw [h1]; rfl))).trans h3, h4⟩
theorem own_gb {w w' : World} {base : Nat} {T : TypeId} {size : Nat} {u : Value} {n : Nat} {cs : List Value} {r : Option Nat} (h : w.ownsRow base T size u n cs) (k : w.grownBy w' r) (hz : ∀ b, u.ownBlock = some b → r ≠ some b) : w'.ownsRow base T size u n cs := by
  refine ⟨h.1, ?_⟩
  rcases h.2 with h1 | ⟨g, cap, cur, h1, h2, h3, h4⟩
  · exact .inl h1
  · exact .inr ⟨g, cap, cur, h1, h2, (k.block g (lt_of_block h3) (fun e => hz g (by rw [h1]; rfl) e.symm)).trans h3, h4⟩
theorem kind_new {w : World} {z : Nat} (k : KV) (hz : w.heap.size = z) : Kc (w.alloc (Obj.cells #[.string k.b, .int .i64 k.n0, .int .i64 k.n1, .int .i64 k.n2, .int .i64 k.n3, .int .i64 k.n4, .int .i64 k.n5, .int .i64 k.n6, .int .i64 k.n7, .bool k.f, .bool k.t] 61)) ⟨z, 0, none⟩ k := by
  subst hz
  exact ⟨by simp, by simp, by simp, by simp, by simp, by simp, by simp, by simp, by simp, by simp, by simp⟩
theorem Kc.kp9 {w w' : World} {z : Nat} {y : Addr} {k : KV} (h : Kc w y k) (q : Kp z w w') (hn : y.block ≠ z) : Kc w' y k :=
  ⟨cell_kp9 h.c0 q hn, cell_kp9 h.c1 q hn, cell_kp9 h.c2 q hn, cell_kp9 h.c3 q hn, cell_kp9 h.c4 q hn, cell_kp9 h.c5 q hn, cell_kp9 h.c6 q hn, cell_kp9 h.c7 q hn, cell_kp9 h.c8 q hn, cell_kp9 h.c9 q hn, cell_kp9 h.c10 q hn⟩
theorem kc_of {w : World} {xk : Addr} {n q kn : Nat} {ks : List KV} {k : KV} (h : Kl w (.slice (some xk) n q) ks) (hk : ks[kn]? = some k) : Kc w (xk.add (kn * 11)) k := by
  obtain ⟨a, c, he, -, -, hc⟩ := h
  obtain ⟨x, hx, -, hxc⟩ := hc (by intro h; rw [h] at hk; simp at hk)
  injection he with he
  rw [← he] at hx
  injection hx with hx
  rw [hx]
  exact hxc kn k hk
end Go.Proofs.YtagnjmellcibhaaGreatDoor

namespace Go.Proofs.YtagnjmellcibhaaGreatDoor
open Go.RowKit
set_option linter.unusedVariables false

theorem field_id (m : UnV) (W : World) : (Instr.field 59 (.agg #[.int .i64 m.id, .int .i64 m.player, .int .i64 m.kind, .int .i64 m.at_, .int .i64 m.life, .int .i64 m.load, .int .i64 m.task, .int .i64 m.goal]) 0).run Tryz.prog W = .ok (.int .i64 m.id) W := by kernel_rfl
set_option maxRecDepth 100000 in
set_option maxHeartbeats 4000000 in
theorem target_any (vk vw : Value) (ks : List KV) (X : WV) (u : UnV) (Wn : Nat) (k : KV) (w : World) (hk : Kl w vk ks) (hw : Wl w vw X) (e1 : X.wide = (Wn : Nat)) (h1 : 0 < Wn) (h2 : Wn ≤ 12) (hl : X.us.length ≤ 1000000)
    (hu : InF u) (hk0 : 0 ≤ u.kind) (hk' : ks[u.kind.toNat]? = some k) (hus : ∀ h ∈ X.us, InF h ∧ 0 ≤ h.life ∧ h.life ≤ 1000000) :
    Calls Tryz.prog 42 #[vk, vw, u.val] w fun e w' => ∃ t, e = .returned (.int .i64 t) ∧ TgSays Wn u k X.us t ∧ Below w.heap.size w w' := by
  obtain ⟨kn, hkn⟩ : ∃ n : Nat, u.kind = n := ⟨u.kind.toNat, by omega⟩
  have hkk : ks[kn]? = some k := by rw [hkn, Int.toNat_natCast] at hk'; exact hk'
  have hkl : kn < ks.length := (List.getElem?_eq_some_iff.1 hkk).1
  have H : Hid (Wl w vw X) := hw
  have GD : Hid (X.wide = (Wn : Nat) ∧ 0 < Wn ∧ Wn ≤ 12 ∧ InF u ∧ X.us.length ≤ 1000000 ∧ ∀ h ∈ X.us, InF h ∧ 0 ≤ h.life ∧ h.life ≤ 1000000) := ⟨e1, h1, h2, hu, hl, hus⟩
  obtain ⟨p1, q1, p2, q2, p3, q3, p4, q4, p5, q5, rfl⟩ := wl_shape9 hw
  obtain ⟨pk, qk, rfl, ck1, ck2, kc⟩ := hk
  obtain ⟨xk, rfl, hxl, hxc⟩ := kc (by intro h; subst h; simp at hkl)
  have KK : Hid (Kc w (xk.add (kn * 11)) k ∧ (xk.add (kn * 11)).block < w.heap.size) := ⟨hxc kn k hkk, by rw [add_block]; exact hxl⟩
  have HE : Hid (u.kind = (kn : Nat)) := hkn
  clear hw e1 h1 h2 hl hu hk0 hk' hus hkn kc hxc hxl hkk
  unfold UnV.val
  go_enter Tryz.func42, Tryz.ntmps42
  go_upto_region 1 with fail
  have B0 : Hid (Below w.heap.size w ((w.alloc (Obj.cells #[.int .i64 X.turn, .int .i64 X.next, .int .i64 X.wide, .int .i64 X.high, .slice p1 X.gs.length q1, .slice p2 X.os.length q2, .slice p3 X.gold.length q3, .slice p4 X.us.length q4, .slice p5 X.qs.length q5] 29)).alloc (Obj.cells #[.int .i64 u.id, .int .i64 u.player, .int .i64 u.kind, .int .i64 u.at_, .int .i64 u.life, .int .i64 u.load, .int .i64 u.task, .int .i64 u.goal] 59))) := ((Below.refl _ _).alloc (Nat.le_refl _) _).alloc (by simp) _
  have T0 : Hid (Tb ((w.alloc (Obj.cells #[.int .i64 X.turn, .int .i64 X.next, .int .i64 X.wide, .int .i64 X.high, .slice p1 X.gs.length q1, .slice p2 X.os.length q2, .slice p3 X.gold.length q3, .slice p4 X.us.length q4, .slice p5 X.qs.length q5] 29)).alloc (Obj.cells #[.int .i64 u.id, .int .i64 u.player, .int .i64 u.kind, .int .i64 u.at_, .int .i64 u.life, .int .i64 u.load, .int .i64 u.task, .int .i64 u.goal] 59)) w.heap.size (w.heap.size + 1) X (.slice p1 X.gs.length q1) (.slice p2 X.os.length q2) (.slice p3 X.gold.length q3) (.slice p4 X.us.length q4) (.slice p5 X.qs.length q5) u) := ⟨(Bw.mk' X _ _ _ _ _ rfl).below ((Below.refl _ _).alloc (Nat.le_refl _) _) (by simp), Unc.mk' u (by simp)⟩
  have Z0 : Hid (((w.alloc (Obj.cells #[.int .i64 X.turn, .int .i64 X.next, .int .i64 X.wide, .int .i64 X.high, .slice p1 X.gs.length q1, .slice p2 X.os.length q2, .slice p3 X.gold.length q3, .slice p4 X.us.length q4, .slice p5 X.qs.length q5] 29)).alloc (Obj.cells #[.int .i64 u.id, .int .i64 u.player, .int .i64 u.kind, .int .i64 u.at_, .int .i64 u.life, .int .i64 u.load, .int .i64 u.task, .int .i64 u.goal] 59)).heap.size = w.heap.size + 2) := by unfold Hid; simp
  generalize ((w.alloc (Obj.cells #[.int .i64 X.turn, .int .i64 X.next, .int .i64 X.wide, .int .i64 X.high, .slice p1 X.gs.length q1, .slice p2 X.os.length q2, .slice p3 X.gold.length q3, .slice p4 X.us.length q4, .slice p5 X.qs.length q5] 29)).alloc (Obj.cells #[.int .i64 u.id, .int .i64 u.player, .int .i64 u.kind, .int .i64 u.at_, .int .i64 u.life, .int .i64 u.load, .int .i64 u.task, .int .i64 u.goal] 59)) = w0 at *
  obtain ⟨z0, z1, z2, z3, z4, z5, z6, z7, z8, z9, z10⟩ := KK.out.1.below B0.out KK.out.2
  obtain ⟨y0, y1, y2, y3, y4, y5, y6, y7⟩ := T0.out.u
  rw [HE.out] at y2
  go_upto_region 2 with fail
  have BK : Hid (Below w0.heap.size w0 (w0.alloc (Obj.cells #[.string k.b, .int .i64 k.n0, .int .i64 k.n1, .int .i64 k.n2, .int .i64 k.n3, .int .i64 k.n4, .int .i64 k.n5, .int .i64 k.n6, .int .i64 k.n7, .bool k.f, .bool k.t] 61))) := (Below.refl _ _).alloc (Nat.le_refl _) _
  have K1 : Hid (Kc (w0.alloc (Obj.cells #[.string k.b, .int .i64 k.n0, .int .i64 k.n1, .int .i64 k.n2, .int .i64 k.n3, .int .i64 k.n4, .int .i64 k.n5, .int .i64 k.n6, .int .i64 k.n7, .bool k.f, .bool k.t] 61)) ⟨w.heap.size + 2, 0, none⟩ k) := kind_new k Z0.out
  have Z1 : Hid ((w0.alloc (Obj.cells #[.string k.b, .int .i64 k.n0, .int .i64 k.n1, .int .i64 k.n2, .int .i64 k.n3, .int .i64 k.n4, .int .i64 k.n5, .int .i64 k.n6, .int .i64 k.n7, .bool k.f, .bool k.t] 61)).heap.size = w.heap.size + 3) := by have := Z0.out; unfold Hid; simp; omega
  rw [Z0.out]
  generalize (w0.alloc (Obj.cells #[.string k.b, .int .i64 k.n0, .int .i64 k.n1, .int .i64 k.n2, .int .i64 k.n3, .int .i64 k.n4, .int .i64 k.n5, .int .i64 k.n6, .int .i64 k.n7, .bool k.f, .bool k.t] 61)) = w1 at *
  have B1 : Hid (Below w.heap.size w w1) := B0.out.trans (BK.out.mono B0.out.size)
  have T1 : Hid (Tb w1 (w.heap.size) (w.heap.size + 1) X (.slice p1 X.gs.length q1) (.slice p2 X.os.length q2) (.slice p3 X.gold.length q3) (.slice p4 X.us.length q4) (.slice p5 X.qs.length q5) u) := T0.out.below BK.out T0.out.x.lt T0.out.u.lt
  clear z0 z1 z2 z3 z4 z5 z6 z7 z8 z9 z10 y0 y1 y2 y3 y4 y5 y6 y7 B0 BK T0 Z0
  have c2 : w1.cell? ⟨w.heap.size + 2, 2, none⟩ = some (.int .i64 k.n1) := by have := K1.out.c2; rw [Nat.zero_add] at this; exact this
  by_cases h0 : k.n1 = 0
  · have N1 : Hid (k.n1 = 0) := h0
    rw [h0] at c2
    go_wp2
    go_ret
    exact ⟨-1, rfl, .inl ⟨N1.out, rfl⟩, B1.out⟩
  have N1 : Hid (k.n1 ≠ 0) := h0
  have h0' : (k.n1 == 0) = false := by rw [beq_eq_false_iff_ne]; exact h0
  clear h0
  have sf : ∀ (a : Addr) (f : Fn) (x y : Array Value) (w : World) (m : Mode), (store a (.func f x y) m).run Tryz.prog w = stored Tryz.prog w a (.func f x y) m := fun a f x y w m => run_store _ w a _ m rfl
  go_upto_region 5 with fail
  clear sf
  have BF : Hid (Below w1.heap.size w1 (w1.alloc (Obj.cells #[.func (Fn.func 66) #[] #[.pointer (some ⟨w.heap.size, 0, none⟩), .pointer (some ⟨w.heap.size + 1, 0, none⟩)]] 99))) := (Below.refl _ _).alloc (Nat.le_refl _) _
  have F2 : Hid ((w1.alloc (Obj.cells #[.func (Fn.func 66) #[] #[.pointer (some ⟨w.heap.size, 0, none⟩), .pointer (some ⟨w.heap.size + 1, 0, none⟩)]] 99)).cell? ⟨w.heap.size + 3, 0, none⟩ = some (.func (Fn.func 66) #[] #[.pointer (some ⟨w.heap.size, 0, none⟩), .pointer (some ⟨w.heap.size + 1, 0, none⟩)])) := cell_of_new Z1.out rfl
  have Z2 : Hid (w.heap.size + 3 < (w1.alloc (Obj.cells #[.func (Fn.func 66) #[] #[.pointer (some ⟨w.heap.size, 0, none⟩), .pointer (some ⟨w.heap.size + 1, 0, none⟩)]] 99)).heap.size) := by have := Z1.out; unfold Hid; simp; omega
  rw [Z1.out]
  generalize (w1.alloc (Obj.cells #[.func (Fn.func 66) #[] #[.pointer (some ⟨w.heap.size, 0, none⟩), .pointer (some ⟨w.heap.size + 1, 0, none⟩)]] 99)) = w2 at *
  have B2 : Hid (Below w.heap.size w w2) := B1.out.trans (BF.out.mono B1.out.size)
  have T2 : Hid (Tb w2 (w.heap.size) (w.heap.size + 1) X (.slice p1 X.gs.length q1) (.slice p2 X.os.length q2) (.slice p3 X.gold.length q3) (.slice p4 X.us.length q4) (.slice p5 X.qs.length q5) u) := T1.out.below BF.out T1.out.x.lt T1.out.u.lt
  have K2 : Hid (w2.cell? ⟨w.heap.size + 2, 3, none⟩ = some (.int .i64 k.n2)) := by have := (K1.out.below BF.out K1.out.lt).c3; rw [Nat.zero_add] at this; exact this
  clear c2 B1 T1 K1 Z1 BF h0'
  obtain ⟨x0, x1, x2, x3, x4, x5, x6, x7, x8⟩ := T2.out.x
  have US : Hid (Unl w (.slice p4 X.us.length q4) X.us) := H.out.slices.2.2.2.1
  go_wp2_with fail
  refine (clone_any _ X.us w2 (US.out.below B2.out) GD.out.2.2.2.2.1).mono ?_
  rintro e w3 ⟨v, rfl, ho, hb⟩
  have O3 : Hid (Uno w3 w2.heap.size v X.us) := ho
  have B3 : Hid (Below w2.heap.size w2 w3) := hb
  have TT : Hid (∀ W, Below w2.heap.size w2 W → Tb W (w.heap.size) (w.heap.size + 1) X (.slice p1 X.gs.length q1) (.slice p2 X.os.length q2) (.slice p3 X.gold.length q3) (.slice p4 X.us.length q4) (.slice p5 X.qs.length q5) u ∧ W.cell? ⟨w.heap.size + 3, 0, none⟩ = some (.func (Fn.func 66) #[] #[.pointer (some ⟨w.heap.size, 0, none⟩), .pointer (some ⟨w.heap.size + 1, 0, none⟩)]) ∧ W.cell? ⟨w.heap.size + 2, 3, none⟩ = some (.int .i64 k.n2)) := fun W hW =>
    ⟨T2.out.below hW T2.out.x.lt T2.out.u.lt, by rw [hW.cell (p := ⟨w.heap.size + 3, 0, none⟩) Z2.out]; exact F2.out, by rw [hW.cell (p := ⟨w.heap.size + 2, 3, none⟩) (show w.heap.size + 2 < w2.heap.size by have := Z2.out; omega)]; exact K2.out⟩
  have PR : Hid (∀ W, Below w2.heap.size w2 W → ∀ h ∈ X.us, Calls Tryz.prog 68 (#[h.val] ++ #[.pointer (some ⟨w.heap.size + 1, 0, none⟩), .pointer (some ⟨w.heap.size + 3, 0, none⟩), .pointer (some ⟨w.heap.size + 2, 0, none⟩)]) W fun e w' => e = .returned (.bool (safeU Wn u k.n2 h)) ∧ Below W.heap.size W w') := fun W hW h hh =>
    safe_fg X u h Wn _ _ _ _ k.n2 _ _ _ _ _ W (TT.out W hW).1 (TT.out W hW).2.1 (TT.out W hW).2.2 GD.out.1 GD.out.2.1 GD.out.2.2.1 GD.out.2.2.2.1 (GD.out.2.2.2.2.2 h hh).1
  clear ho hb x0 x1 x2 x3 x4 x5 x6 x7 x8 F2 K2
  go_wp2_with fail
  refine (del_any 68 (by intro args w; go_simp) v #[.pointer (some ⟨w.heap.size + 1, 0, none⟩), .pointer (some ⟨w.heap.size + 3, 0, none⟩), .pointer (some ⟨w.heap.size + 2, 0, none⟩)] X.us (safeU Wn u k.n2) w3 w2.heap.size O3.out B3.out.size GD.out.2.2.2.2.1 (fun W hW h hh => PR.out W (B3.out.trans hW) h hh)).mono ?_
  rintro e w4 ⟨v4, rfl, ho, hb⟩
  have B4 : Hid (Below w2.heap.size w2 w4) := B3.out.trans hb
  have L4 : Hid (Unl w4 v4 (foesU Wn u k.n2 X.us)) := ho.l
  obtain ⟨a4, c4, rfl⟩ := ho.len
  obtain ⟨hs, hhs⟩ : ∃ hs, foesU Wn u k.n2 X.us = hs := ⟨_, rfl⟩
  have HS : Hid (foesU Wn u k.n2 X.us = hs) := hhs
  have e4 : (X.us.filter (fun o => !safeU Wn u k.n2 o)).length = hs.length := by rw [← hhs]; rfl
  rw [hhs, e4] at L4
  rw [e4]
  clear ho hb e4 hhs O3 B3 PR
  have BW : Hid (Below w.heap.size w w4) := B2.out.trans (B4.out.mono B2.out.size)
  cases hs with
  | nil =>
    simp only [List.length_nil]
    go_wp2
    go_ret
    exact ⟨-1, rfl, .inr (.inl ⟨N1.out, HS.out, rfl⟩), BW.out⟩
  | cons f0 tl =>
    have HM : Hid (∀ h ∈ f0 :: tl, h ∈ X.us) := fun h hh => by rw [← HS.out] at hh; exact (List.mem_filter.1 hh).1
    have TL : Hid (tl.length ≤ 1000000) := by
      have h1 : (foesU Wn u k.n2 X.us).length ≤ X.us.length := List.length_filter_le _ _
      rw [HS.out, List.length_cons] at h1
      have h2 := GD.out.2.2.2.2.1
      unfold Hid
      omega
    have hne : (((f0 :: tl).length : Nat) : Int) ≠ 0 := by rw [List.length_cons]; omega
    have hne' : ((((f0 :: tl).length : Nat) : Int) == 0) = false := by rw [beq_eq_false_iff_ne]; exact hne
    obtain ⟨n, hn⟩ : ∃ n, (f0 :: tl).length = n := ⟨_, rfl⟩
    have HN : Hid ((f0 :: tl).length = n) := hn
    rw [hn] at hne hne' ⊢
    clear hn
    have L5 : Hid (Unl w4 (.slice a4 n c4) (f0 :: tl)) := by rw [← HN.out]; exact L4.out
    clear L4
    go_upto_region 10 with fail
    have BX : Hid (∀ V, Below w2.heap.size w2 V → Bw V (w.heap.size) X (.slice p1 X.gs.length q1) (.slice p2 X.os.length q2) (.slice p3 X.gold.length q3) (.slice p4 X.us.length q4) (.slice p5 X.qs.length q5)) := fun V hV => (TT.out V hV).1.x
    refine wp_region_two [(true, 0), (true, 1), (true, 2), (false, 3), (true, 4), (false, 5)] [(false, 6)] (fun V => Bw V (w.heap.size) X (.slice p1 X.gs.length q1) (.slice p2 X.os.length q2) (.slice p3 X.gold.length q3) (.slice p4 X.us.length q4) (.slice p5 X.qs.length q5)) (by kernel_rfl) (by kernel_rfl) (by kernel_rfl) (by decide +kernel) (by decide +kernel) (BX.out _ B4.out.drew) ?_
    have B5 : Hid (Below w2.heap.size w2 { w4 with drawn := w4.drawn + 1 }) := B4.out.drew
    have L6 : Hid (Unl { w4 with drawn := w4.drawn + 1 } (.slice a4 n c4) (f0 :: tl)) := L5.out.below ((Below.refl _ _).drew)
    generalize ({ w4 with drawn := w4.drawn + 1 } : World) = w5 at *
    clear B4 L5 BW
    refine headT_read rfl (.agg #[.int .i64 X.turn, .int .i64 X.next, .int .i64 X.wide, .int .i64 X.high, .slice p1 X.gs.length q1, .slice p2 X.os.length q2, .slice p3 X.gold.length q3, .slice p4 X.us.length q4, .slice p5 X.qs.length q5]) (by go_simp) (fun V hV => by obtain ⟨x0, x1, x2, x3, x4, x5, x6, x7, x8⟩ := hV; go_simp) ?_
    go_simp
    refine headT_read rfl (.slice a4 n c4) (by go_simp) (fun V hV => by go_simp) ?_
    go_simp
    refine headT_read rfl (.func (Fn.func 70) #[] #[.pointer (some ⟨w.heap.size + 3, 0, none⟩)]) (by go_simp) (fun V hV => by go_simp) ?_
    go_simp
    refine headT_call rfl 72 #[.slice a4 n c4, .func (Fn.func 70) #[] #[.pointer (some ⟨w.heap.size + 3, 0, none⟩)]] (by go_simp) (by go_simp) ?_
    refine (min_gen 70 (by intro args w; go_simp) _ #[.pointer (some ⟨w.heap.size + 3, 0, none⟩)] f0 tl (keyU Wn u) (soonU Wn u) w5 L6.out TL.out (fun a ha b hb => soon_key (GD.out.2.2.2.2.2 a (HM.out a ha)).2 (GD.out.2.2.2.2.2 b (HM.out b hb)).2) (fun W hW a ha b hb => ?_)).mono ?_
    · have hWW := B5.out.trans (hW.mono B5.out.size)
      exact soon_fg X u a b Wn _ _ _ _ _ _ _ _ W (TT.out W hWW).1 (TT.out W hWW).2.1 GD.out.1 GD.out.2.1 GD.out.2.2.1 GD.out.2.2.2.1 (GD.out.2.2.2.2.2 a (HM.out a ha)).1 (GD.out.2.2.2.2.2 b (HM.out b hb)).1 (GD.out.2.2.2.2.2 a (HM.out a ha)).2 (GD.out.2.2.2.2.2 b (HM.out b hb)).2
    rintro e w6 ⟨rfl, hb⟩
    have B6 : Hid (Below w2.heap.size w2 w6) := B5.out.trans (hb.mono B5.out.size)
    refine ⟨_, rfl, BX.out _ B6.out, ?_⟩
    clear hb L6 B5
    obtain ⟨m, hm⟩ : ∃ m, minU (keyU Wn u) f0 tl = m := ⟨_, rfl⟩
    have MM : Hid (minU (keyU Wn u) f0 tl = m) := hm
    rw [hm]
    clear hm
    unfold UnV.val
    have hfi := fun W => field_id m W
    go_simp
    refine headT_read rfl (.int .i64 m.id) (by go_simp) (fun V hV => by go_simp) ?_
    go_simp
    refine headT_call rfl 37 #[.agg #[.int .i64 X.turn, .int .i64 X.next, .int .i64 X.wide, .int .i64 X.high, .slice p1 X.gs.length q1, .slice p2 X.os.length q2, .slice p3 X.gold.length q3, .slice p4 X.us.length q4, .slice p5 X.qs.length q5], .int .i64 m.id] (by go_simp) (by go_simp) ?_
    refine (wfind_any _ X m.id w6 (H.out.below (B2.out.trans (B6.out.mono B2.out.size)))).mono ?_
    rintro e w7 ⟨r, rfl, hf, hb⟩
    have B7 : Hid (Below w2.heap.size w2 w7) := B6.out.trans (hb.mono B6.out.size)
    have RR : Hid (TgSays Wn u k X.us r) := .inr (.inr ⟨N1.out, f0, tl, HS.out, by rw [MM.out]; exact hf⟩)
    refine ⟨_, rfl, BX.out _ B7.out, ?_⟩
    clear hb hf hfi
    go_simp
    refine sched_value rfl (.int .i64 r) w7 (by go_simp) (by go_simp) trivial ?_
    go_simp
    unfold wpSched
    go_wp2
    go_ret
    exact ⟨r, rfl, RR.out, B2.out.trans (B7.out.mono B2.out.size)⟩

end Go.Proofs.YtagnjmellcibhaaGreatDoor

namespace Go.Proofs.YtagnjmellcibhaaGreatDoor
open Go.RowKit
set_option linter.unusedVariables false

theorem right_fit {ks : List KV} {X : WV} (h : WRight ks X) : ∀ u ∈ X.us, InF u ∧ 0 ≤ u.life ∧ u.life ≤ 1000000 := by
  intro u hu
  obtain ⟨i, hi⟩ := List.mem_iff_getElem?.1 hu
  obtain ⟨k, f⟩ := h.fine hi
  obtain ⟨Wn, Hn, e1, e2, G⟩ := h.good
  have h1 := f.at_
  have h2 := f.life
  have h3 := kind_nums h.kinds (List.mem_of_getElem? f.kk)
  have h4 := G.gl
  have h5 := G.pos.2
  exact ⟨⟨h1.1, by omega⟩, by omega, by omega⟩
/-- what Target tells. -/
def TarSays (ks : List KV) (X : WV) (i t F : Int) : Prop :=
  (Wd.wfault ks X ≠ 0 ∧ F = Wd.wfault ks X ∧ t = 0) ∨ (Wd.wfault ks X = 0 ∧ ¬ (0 ≤ i ∧ i < (X.us.length : Int)) ∧ F = 6 ∧ t = 0)
  ∨ (Wd.wfault ks X = 0 ∧ F = 0 ∧ ∃ (n Wn : Nat) (u : UnV) (k : KV), i = n ∧ X.us[n]? = some u ∧ X.wide = (Wn : Nat) ∧ 0 < Wn ∧ Wn ≤ 12 ∧ ks[u.kind.toNat]? = some k ∧ TgSays Wn u k X.us t)
set_option maxRecDepth 100000 in
set_option maxHeartbeats 4000000 in
theorem Target_any (vk vw : Value) (ks : List KV) (X : WV) (i : Int) (w : World) (hk : Kl w vk ks) (hb : ∀ k ∈ ks, k.b.size ≤ 9223372036854775807) (hw : Wl w vw X) :
    Calls Tryz.prog 13 #[vk, vw, .int .i64 i] w fun e w' => ∃ t r F, e = .returned (.tuple #[.int .i64 t, r]) ∧ Er r F ∧ TarSays ks X i t F ∧ Below w.heap.size w w' := by
  have K : Hid (Kl w vk ks ∧ ∀ k ∈ ks, k.b.size ≤ 9223372036854775807) := ⟨hk, hb⟩
  have H : Hid (Wl w vw X) := hw
  obtain ⟨p1, q1, p2, q2, p3, q3, p4, q4, p5, q5, rfl⟩ := wl_shape9 hw
  obtain ⟨pk, qk, rfl, ck1, ck2, kc⟩ := hk
  clear hb hw kc
  go_enter Tryz.func13, Tryz.ntmps13
  go_upto_region 1 with fail
  have B0 : Hid (Below w.heap.size w (w.alloc (Obj.cells #[.int .i64 X.turn, .int .i64 X.next, .int .i64 X.wide, .int .i64 X.high, .slice p1 X.gs.length q1, .slice p2 X.os.length q2, .slice p3 X.gold.length q3, .slice p4 X.us.length q4, .slice p5 X.qs.length q5] 29))) := (Below.refl _ _).alloc (Nat.le_refl _) _
  have X0 : Hid (Bw (w.alloc (Obj.cells #[.int .i64 X.turn, .int .i64 X.next, .int .i64 X.wide, .int .i64 X.high, .slice p1 X.gs.length q1, .slice p2 X.os.length q2, .slice p3 X.gold.length q3, .slice p4 X.us.length q4, .slice p5 X.qs.length q5] 29)) w.heap.size X (.slice p1 X.gs.length q1) (.slice p2 X.os.length q2) (.slice p3 X.gold.length q3) (.slice p4 X.us.length q4) (.slice p5 X.qs.length q5)) := Bw.mk' X _ _ _ _ _ rfl
  generalize (w.alloc (Obj.cells #[.int .i64 X.turn, .int .i64 X.next, .int .i64 X.wide, .int .i64 X.high, .slice p1 X.gs.length q1, .slice p2 X.os.length q2, .slice p3 X.gold.length q3, .slice p4 X.us.length q4, .slice p5 X.qs.length q5] 29)) = w0 at *
  obtain ⟨x0, x1, x2, x3, x4, x5, x6, x7, x8⟩ := X0.out
  go_wp2_with fail
  refine (wcheck_any _ _ ks X w0 (K.out.1.below B0.out) K.out.2 (H.out.below B0.out)).mono ?_
  rintro e w1 ⟨r, rfl, hr, hb⟩
  obtain ⟨fw, hfw⟩ : ∃ f, Wd.wfault ks X = f := ⟨_, rfl⟩
  have FW : Hid (Wd.wfault ks X = fw) := hfw
  rw [hfw] at hr
  have B1 : Hid (Below w.heap.size w w1) := B0.out.trans (hb.mono B0.out.size)
  have X1 : Hid (Bw w1 w.heap.size X (.slice p1 X.gs.length q1) (.slice p2 X.os.length q2) (.slice p3 X.gold.length q3) (.slice p4 X.us.length q4) (.slice p5 X.qs.length q5)) := X0.out.below hb X0.out.lt
  clear hb hfw x0 x1 x2 x3 x4 x5 x6 x7 x8 X0 B0
  rcases hr with ⟨rfl, rfl⟩ | ⟨hf, rfl⟩
  case inr =>
    have HF : Hid (fw ≠ 0) := hf
    clear hf
    go_wp2
    go_ret2
    exact ⟨0, _, fw, rfl, Er.no HF.out, .inl (by rw [FW.out]; exact ⟨HF.out, rfl, rfl⟩), B1.out⟩
  obtain ⟨x0, x1, x2, x3, x4, x5, x6, x7, x8⟩ := X1.out
  by_cases hi0 : i < 0
  · go_wp2
    go_ret2
    exact ⟨0, _, 6, rfl, Er.no (by decide), .inr (.inl ⟨FW.out, by omega, rfl, rfl⟩), B1.out⟩
  by_cases hi1 : (X.us.length : Int) ≤ i
  · go_wp2
    go_ret2
    exact ⟨0, _, 6, rfl, Er.no (by decide), .inr (.inl ⟨FW.out, by omega, rfl, rfl⟩), B1.out⟩
  obtain ⟨i, rfl⟩ : ∃ n : Nat, i = n := ⟨i.toNat, by omega⟩
  have hil : i < X.us.length := by omega
  obtain ⟨u, hu⟩ : ∃ u, X.us[i]? = some u := ⟨_, List.getElem?_eq_getElem hil⟩
  have UI : Hid (X.us[i]? = some u) := hu
  have WR : Hid (WRight ks X) := wright_of FW.out
  obtain ⟨Wn, Hn, e1, e2, G⟩ := WR.out.good
  obtain ⟨k, fu⟩ := WR.out.fine hu
  have GD : Hid (X.wide = (Wn : Nat) ∧ 0 < Wn ∧ Wn ≤ 12 ∧ 0 ≤ u.kind ∧ ks[u.kind.toNat]? = some k) := ⟨e1, G.w1, G.w2, fu.k0.1, fu.kk⟩
  have FT : Hid (∀ h ∈ X.us, InF h ∧ 0 ≤ h.life ∧ h.life ≤ 1000000) := right_fit WR.out
  obtain ⟨pa, pc, he, -, -, hus⟩ := H.out.slices.2.2.2.1
  obtain ⟨xu, hxu, hxul, hxuc⟩ := hus (by intro h; rw [h] at hil; simp at hil)
  injection he with he1 he2 he3
  subst he1
  subst hxu
  have UK : Hid (Unc w (xu.add (i * 8)) u ∧ (xu.add (i * 8)).block < w.heap.size) := ⟨hxuc i u hu, by rw [add_block]; exact hxul⟩
  clear hus he2 he3 hxul hxuc e1 e2 G fu hu x0 x1 x2 x3 x4 x5 x6 x8 hi0 hi1
  go_upto_region 6 with fail
  clear x7
  have CB : Hid (∀ V, Below w.heap.size w V → Bw V w.heap.size X (.slice p1 X.gs.length q1) (.slice p2 X.os.length q2) (.slice p3 X.gold.length q3) (.slice (some xu) X.us.length q4) (.slice p5 X.qs.length q5) → Bw V w.heap.size X (.slice p1 X.gs.length q1) (.slice p2 X.os.length q2) (.slice p3 X.gold.length q3) (.slice (some xu) X.us.length q4) (.slice p5 X.qs.length q5) ∧ Unc V (xu.add (i * 8)) u) := fun V hb hx => ⟨hx, UK.out.1.below hb UK.out.2⟩
  refine wp_region_two [(true, 0), (true, 1), (true, 2), (true, 3), (true, 4), (true, 5), (true, 6), (false, 7)] [(true, 8), (false, 9)] (fun V => Bw V w.heap.size X (.slice p1 X.gs.length q1) (.slice p2 X.os.length q2) (.slice p3 X.gold.length q3) (.slice (some xu) X.us.length q4) (.slice p5 X.qs.length q5) ∧ Unc V (xu.add (i * 8)) u) (by kernel_rfl) (by kernel_rfl) (by kernel_rfl) (by decide +kernel) (by decide +kernel) (CB.out _ B1.out.drew (X1.out.below ((Below.refl _ _).drew) X1.out.lt)) ?_
  have X2 : Hid (Bw { w1 with drawn := w1.drawn + 1 } w.heap.size X (.slice p1 X.gs.length q1) (.slice p2 X.os.length q2) (.slice p3 X.gold.length q3) (.slice (some xu) X.us.length q4) (.slice p5 X.qs.length q5)) := X1.out.below ((Below.refl _ _).drew) X1.out.lt
  have B2 : Hid (Below w.heap.size w { w1 with drawn := w1.drawn + 1 }) := B1.out.drew
  generalize ({ w1 with drawn := w1.drawn + 1 } : World) = w2 at *
  clear X1 B1
  refine headT_read rfl (.slice pk ks.length qk) (by go_simp) (fun V hV => by go_simp) ?_
  go_simp
  refine headT_read rfl (.agg #[.int .i64 X.turn, .int .i64 X.next, .int .i64 X.wide, .int .i64 X.high, .slice p1 X.gs.length q1, .slice p2 X.os.length q2, .slice p3 X.gold.length q3, .slice (some xu) X.us.length q4, .slice p5 X.qs.length q5]) (by go_simp) (fun V hV => by obtain ⟨⟨x0, x1, x2, x3, x4, x5, x6, x7, x8⟩, ⟨y0, y1, y2, y3, y4, y5, y6, y7⟩⟩ := hV; go_simp) ?_
  go_simp
  refine headT_read rfl (.pointer (some ⟨w.heap.size, 7, none⟩)) (by go_simp) (fun V hV => by go_simp) ?_
  go_simp
  refine headT_read rfl (.slice (some xu) X.us.length q4) (by go_simp) (fun V hV => by obtain ⟨⟨x0, x1, x2, x3, x4, x5, x6, x7, x8⟩, ⟨y0, y1, y2, y3, y4, y5, y6, y7⟩⟩ := hV; go_simp) ?_
  go_simp
  refine headT_read rfl (.int .i64 (i : Nat)) (by go_simp) (fun V hV => by go_simp) ?_
  go_simp
  refine headT_read rfl (.pointer (some (xu.add (i * 8)))) (by go_simp) (fun V hV => by go_simp) ?_
  go_simp
  refine headT_read rfl (.agg #[.int .i64 u.id, .int .i64 u.player, .int .i64 u.kind, .int .i64 u.at_, .int .i64 u.life, .int .i64 u.load, .int .i64 u.task, .int .i64 u.goal]) (by go_simp) (fun V hV => by obtain ⟨⟨x0, x1, x2, x3, x4, x5, x6, x7, x8⟩, ⟨y0, y1, y2, y3, y4, y5, y6, y7⟩⟩ := hV; go_simp) ?_
  go_simp
  refine headT_call rfl 42 #[.slice pk ks.length qk, .agg #[.int .i64 X.turn, .int .i64 X.next, .int .i64 X.wide, .int .i64 X.high, .slice p1 X.gs.length q1, .slice p2 X.os.length q2, .slice p3 X.gold.length q3, .slice (some xu) X.us.length q4, .slice p5 X.qs.length q5], .agg #[.int .i64 u.id, .int .i64 u.player, .int .i64 u.kind, .int .i64 u.at_, .int .i64 u.life, .int .i64 u.load, .int .i64 u.task, .int .i64 u.goal]] (by go_simp) (by go_simp) ?_
  refine (target_any _ _ ks X u Wn k w2 (K.out.1.below B2.out) (H.out.below B2.out) GD.out.1 GD.out.2.1 GD.out.2.2.1 (by have := WR.out.ul; omega) (FT.out u (List.mem_of_getElem? UI.out)).1 GD.out.2.2.2.1 GD.out.2.2.2.2 FT.out).mono ?_
  rintro e w3 ⟨t, rfl, ht, hb⟩
  have TS : Hid (TgSays Wn u k X.us t) := ht
  have B3 : Hid (Below w.heap.size w w3) := B2.out.trans (hb.mono B2.out.size)
  refine ⟨_, rfl, CB.out _ B3.out (X2.out.below hb X2.out.lt), ?_⟩
  clear hb ht X2 B2
  go_simp
  refine sched_read rfl (.int .i64 t) (by go_simp) (fun V hV => by go_simp) ?_
  go_simp
  refine sched_value rfl .nilIface w3 (by go_simp) (by go_simp) trivial ?_
  go_simp
  unfold wpSched
  go_wp2
  go_ret2
  exact ⟨t, _, 0, rfl, .inl ⟨rfl, rfl⟩, .inr (.inr ⟨FW.out, rfl, i, Wn, u, k, rfl, UI.out, GD.out.1, GD.out.2.1, GD.out.2.2.1, GD.out.2.2.2.2, TS.out⟩), B3.out⟩
end Go.Proofs.YtagnjmellcibhaaGreatDoor

namespace Go.Proofs.YtagnjmellcibhaaGreatDoor
open Go.RowKit
set_option linter.unusedVariables false

set_option maxRecDepth 100000 in
set_option maxHeartbeats 8000000 in
theorem rtarget_any (vk vw : Value) (ks : List KV) (X : WV) (n0 Wn : Nat) (u : UnV) (k : KV) (w : World) (hk : Kl w vk ks) (hw : Wl w vw X) (hr : WRight ks X) (hui : X.us[n0]? = some u) (hwd : X.wide = (Wn : Nat)) (hkk : ks[u.kind.toNat]? = some k) :
    Calls Tryz.prog 12 #[vk, vw, .int .i64 (n0 : Nat)] w fun e w' => e = .returned (.int .i64 (tgt Wn u k X.us)) ∧ Below w.heap.size w w' := by
  have WR : Hid (WRight ks X) := hr
  have H : Hid (Wl w vw X) := hw
  have FT : Hid (∀ h ∈ X.us, InF h ∧ 0 ≤ h.life ∧ h.life ≤ 1000000) := right_fit hr
  obtain ⟨Wn', Hn, e1, e2, G⟩ := hr.good
  obtain rfl : Wn = Wn' := by omega
  have GG : Hid (Fd.Good Wn Hn X.gs X.os) := G
  have AT : Hid (∀ h ∈ X.us, ∃ c : Nat, h.at_ = c ∧ c < Wn * Hn ∧ c ≤ 144) := fun h hh => by
    obtain ⟨i, hi⟩ := List.mem_iff_getElem?.1 hh
    obtain ⟨k', f⟩ := hr.fine hi
    have h1 := f.at_
    have h2 := G.gl
    have h3 := (FT.out h hh).1.2
    exact ⟨h.at_.toNat, by omega, by omega, by omega⟩
  obtain ⟨k0, fu⟩ := hr.fine hui
  have KF : Hid (0 ≤ k.n1) := (kind_nums hr.kinds (List.mem_of_getElem? hkk)).2.2.2.2.1
  obtain ⟨an, han, han1, han2⟩ := AT.out u (List.mem_of_getElem? hui)
  obtain ⟨kn, hkn⟩ : ∃ n : Nat, u.kind = n := ⟨u.kind.toNat, by have := fu.k0.1; omega⟩
  have hk2 : ks[kn]? = some k := by rw [hkn, Int.toNat_natCast] at hkk; exact hkk
  have hkl : kn < ks.length := (List.getElem?_eq_some_iff.1 hk2).1
  have hil : n0 < X.us.length := (List.getElem?_eq_some_iff.1 hui).1
  have hul : X.us.length ≤ 40 := hr.ul
  have GD : Hid (X.wide = (Wn : Nat) ∧ X.high = (Hn : Nat) ∧ u.at_ = (an : Nat) ∧ an < Wn * Hn ∧ u.kind = (kn : Nat)) := ⟨e1, e2, han, han1, hkn⟩
  obtain ⟨p1, q1, p2, q2, p3, q3, p4, q4, p5, q5, rfl⟩ := wl_shape9 hw
  obtain ⟨pa, pc, he, -, -, hu⟩ := H.out.slices.2.2.2.1
  obtain ⟨xu, hxu, hxul, hxuc⟩ := hu (by intro h; rw [h] at hil; simp at hil)
  injection he with he1 he2 he3
  subst he1
  subst hxu
  obtain ⟨pk, qk, rfl, ck1, ck2, kc⟩ := hk
  obtain ⟨xk, hxk, hxl, hxc⟩ := kc (by intro h; subst h; simp at hkl)
  subst hxk
  have UC : Hid (∀ (i : Nat) k, X.us[i]? = some k → Unc w (xu.add (i * 8)) k) := hxuc
  have UL : Hid (xu.block < w.heap.size) := hxul
  have KK : Hid (Kc w (xk.add (kn * 11)) k ∧ (xk.add (kn * 11)).block < w.heap.size) := ⟨hxc kn k hk2, by rw [add_block]; exact hxl⟩
  have HI : Hid (X.us[n0]? = some u) := hui
  clear hu he2 he3 hxul hxuc hxl hxc hwd hkk hk2 kc han han1 han2 hkn fu G e1 e2 hui hr hw
  go_enter Tryz.func12, Tryz.ntmps12
  go_upto_region 1 with fail
  have B0 : Hid (Below w.heap.size w (w.alloc (Obj.cells #[.int .i64 X.turn, .int .i64 X.next, .int .i64 X.wide, .int .i64 X.high, .slice p1 X.gs.length q1, .slice p2 X.os.length q2, .slice p3 X.gold.length q3, .slice (some xu) X.us.length q4, .slice p5 X.qs.length q5] 29))) := (Below.refl _ _).alloc (Nat.le_refl _) _
  have X0 : Hid (Bw (w.alloc (Obj.cells #[.int .i64 X.turn, .int .i64 X.next, .int .i64 X.wide, .int .i64 X.high, .slice p1 X.gs.length q1, .slice p2 X.os.length q2, .slice p3 X.gold.length q3, .slice (some xu) X.us.length q4, .slice p5 X.qs.length q5] 29)) w.heap.size X (.slice p1 X.gs.length q1) (.slice p2 X.os.length q2) (.slice p3 X.gold.length q3) (.slice (some xu) X.us.length q4) (.slice p5 X.qs.length q5)) := Bw.mk' X _ _ _ _ _ rfl
  generalize (w.alloc (Obj.cells #[.int .i64 X.turn, .int .i64 X.next, .int .i64 X.wide, .int .i64 X.high, .slice p1 X.gs.length q1, .slice p2 X.os.length q2, .slice p3 X.gold.length q3, .slice (some xu) X.us.length q4, .slice p5 X.qs.length q5] 29)) = w0 at *
  obtain ⟨y0, y1, y2, y3, y4, y5, y6, y7⟩ := (UC.out n0 u HI.out).below B0.out (by rw [add_block]; exact UL.out)
  have x7 := X0.out.c7
  go_upto_region 2 with fail
  have BA : Hid (Below w0.heap.size w0 (w0.alloc (Obj.cells #[.int .i64 u.id, .int .i64 u.player, .int .i64 u.kind, .int .i64 u.at_, .int .i64 u.life, .int .i64 u.load, .int .i64 u.task, .int .i64 u.goal] 59))) := (Below.refl _ _).alloc (Nat.le_refl _) _
  obtain ⟨bu, hbu⟩ : ∃ z, w0.heap.size = z := ⟨_, rfl⟩
  have U1 : Hid (Unc (w0.alloc (Obj.cells #[.int .i64 u.id, .int .i64 u.player, .int .i64 u.kind, .int .i64 u.at_, .int .i64 u.life, .int .i64 u.load, .int .i64 u.task, .int .i64 u.goal] 59)) ⟨bu, 0, none⟩ u) := Unc.mk' u hbu
  rw [hbu]
  generalize (w0.alloc (Obj.cells #[.int .i64 u.id, .int .i64 u.player, .int .i64 u.kind, .int .i64 u.at_, .int .i64 u.life, .int .i64 u.load, .int .i64 u.task, .int .i64 u.goal] 59)) = w1 at *
  have B1 : Hid (Below w.heap.size w w1) := B0.out.trans (BA.out.mono B0.out.size)
  have X1 : Hid (Bw w1 w.heap.size X (.slice p1 X.gs.length q1) (.slice p2 X.os.length q2) (.slice p3 X.gold.length q3) (.slice (some xu) X.us.length q4) (.slice p5 X.qs.length q5)) := X0.out.below BA.out X0.out.lt
  clear y0 y1 y2 y3 y4 y5 y6 y7 x7 hbu BA B0 X0
  go_wp2
  go_loopw [8, 9, 10] (fun v8 v9 v10 V => ∃ (n : Nat) (best far : Int), v8 = .int .i64 best ∧ v9 = .int .i64 far ∧ v10 = .int .i64 (n : Nat) ∧ n ≤ X.us.length ∧ RBest Wn u k.n2 X.us n best far ∧ (k.n1 = 0 → best = -1) ∧ Below w1.heap.size w1 V) (fun _ _ v10 _ => X.us.length - (intOf v10).toNat)
  case atStart => exact ⟨0, -1, 0, rfl, rfl, rfl, Nat.zero_le _, RBest.start _ _ _ _ _, fun _ => rfl, Below.refl _ _⟩
  case round =>
    obtain ⟨n, best, far, rfl, rfl, rfl, hn, hR, hz, hB⟩ := hrel
    have RB : Hid (RBest Wn u k.n2 X.us n best far) := hR
    have ZB : Hid (k.n1 = 0 → best = -1) := hz
    have BR : Hid (Below w1.heap.size w1 wr) := hB
    have BB : Hid (Below w.heap.size w wr) := B1.out.trans (hB.mono B1.out.size)
    have XR : Hid (Bw wr w.heap.size X (.slice p1 X.gs.length q1) (.slice p2 X.os.length q2) (.slice p3 X.gold.length q3) (.slice (some xu) X.us.length q4) (.slice p5 X.qs.length q5)) := X1.out.below hB X1.out.lt
    have UR : Hid (Unc wr ⟨bu, 0, none⟩ u) := U1.out.below hB U1.out.lt
    clear hR hB hz
    have x7 := XR.out.c7
    have z2 := (KK.out.1.below BB.out KK.out.2).c2
    have u2 : wr.cell? ⟨bu, 2, none⟩ = some (.int .i64 (kn : Nat)) := by have := UR.out.c2; rw [Nat.zero_add, GD.out.2.2.2.2] at this; exact this
    by_cases h0 : n = X.us.length
    · have DN : Hid (best = tgt Wn u k X.us) := by
        by_cases hz : k.n1 = 0
        · exact (ZB.out hz).trans (tgt_none hz).symm
        · have := RB.out; rw [h0] at this; exact this.done WR.out hz
      subst h0
      clear RB ZB
      have hnl : ¬ (((X.us.length : Nat) : Int) < (X.us.length : Nat)) := by omega
      go_wp2
      go_ret
      exact ⟨by rw [DN.out]; rfl, BB.out⟩
    have hnl : n < X.us.length := by omega
    have hni : ((n : Nat) : Int) < (X.us.length : Nat) := by omega
    by_cases hz : k.n1 = 0
    · have DN : Hid (best = tgt Wn u k X.us) := (ZB.out hz).trans (tgt_none hz).symm
      clear RB ZB
      rw [hz] at z2
      go_wp2
      go_ret
      exact ⟨by rw [DN.out]; rfl, BB.out⟩
    have NZ : Hid (k.n1 ≠ 0) := hz
    have hpos : 0 < k.n1 := by have := KF.out; omega
    obtain ⟨x, hx⟩ : ∃ x, X.us[n]? = some x := ⟨_, List.getElem?_eq_getElem hnl⟩
    have HX : Hid (X.us[n]? = some x) := hx
    obtain ⟨cn, hcn, hcl, -⟩ := AT.out x (List.mem_of_getElem? hx)
    have CN : Hid (x.at_ = (cn : Nat) ∧ cn < Wn * Hn) := ⟨hcn, hcl⟩
    obtain ⟨f, hf⟩ : ∃ f, farN Wn an cn = f := ⟨_, rfl⟩
    have FF : Hid (farN Wn an cn = f) := hf
    have FU : Hid (farU Wn u x = f) := by unfold Hid farU; rw [GD.out.2.2.1, hcn]; exact hf
    have WN : IntKind.i64.wrap ((n : Nat) + 1 : Int) = ((n : Nat) : Int) + 1 := by rw [IntKind.wrap_i64]; omega
    obtain ⟨y0, y1, y2, y3, y4, y5, y6, y7⟩ := (UC.out n x hx).below BB.out (by rw [add_block]; exact UL.out)
    clear hx hcn hcl hf hz ZB
    go_upto_region 8 with fail
    have BA : Hid (Below wr.heap.size wr (wr.alloc (Obj.cells #[.int .i64 x.id, .int .i64 x.player, .int .i64 x.kind, .int .i64 x.at_, .int .i64 x.life, .int .i64 x.load, .int .i64 x.task, .int .i64 x.goal] 59))) := (Below.refl _ _).alloc (Nat.le_refl _) _
    obtain ⟨bx, hbx⟩ : ∃ z, wr.heap.size = z := ⟨_, rfl⟩
    have Q2 : Hid (Unc (wr.alloc (Obj.cells #[.int .i64 x.id, .int .i64 x.player, .int .i64 x.kind, .int .i64 x.at_, .int .i64 x.life, .int .i64 x.load, .int .i64 x.task, .int .i64 x.goal] 59)) ⟨bx, 0, none⟩ x) := Unc.mk' x hbx
    rw [hbx]
    generalize (wr.alloc (Obj.cells #[.int .i64 x.id, .int .i64 x.player, .int .i64 x.kind, .int .i64 x.at_, .int .i64 x.life, .int .i64 x.load, .int .i64 x.task, .int .i64 x.goal] 59)) = w2 at *
    have B2 : Hid (Below w.heap.size w w2) := BB.out.trans (BA.out.mono BB.out.size)
    have R2 : Hid (Below w1.heap.size w1 w2) := BR.out.trans (BA.out.mono BR.out.size)
    have U2 : Hid (Unc w2 ⟨bu, 0, none⟩ u) := UR.out.below BA.out UR.out.lt
    have X2 : Hid (Bw w2 w.heap.size X (.slice p1 X.gs.length q1) (.slice p2 X.os.length q2) (.slice p3 X.gold.length q3) (.slice (some xu) X.us.length q4) (.slice p5 X.qs.length q5)) := XR.out.below BA.out XR.out.lt
    clear y0 y1 y2 y3 y4 y5 y6 y7 x7 z2 u2 hbx BA BR BB UR XR
    have a3 : w2.cell? ⟨bx, 3, none⟩ = some (.int .i64 (cn : Nat)) := by have := Q2.out.c3; rw [Nat.zero_add, CN.out.1] at this; exact this
    have u3 : w2.cell? ⟨bu, 3, none⟩ = some (.int .i64 (an : Nat)) := by have := U2.out.c3; rw [Nat.zero_add, GD.out.2.2.1] at this; exact this
    obtain ⟨-, -, f2, f3, f4, f5, -, -, -⟩ := X2.out
    have FL : Hid (Fl w2 (.agg #[.int .i64 X.wide, .int .i64 X.high, .slice p1 X.gs.length q1, .slice p2 X.os.length q2]) Wn Hn X.gs X.os) := by
      have := fl_of (H.out.below B2.out)
      rw [GD.out.1, GD.out.2.1] at this ⊢
      exact this
    go_wp2_with fail
    refine (rapart_any _ Wn Hn X.gs X.os an cn w2 FL.out GG.out.w1 GG.out.w2 GG.out.h2 GD.out.2.2.2.1 CN.out.2).mono ?_
    rintro e w3 ⟨rfl, hb⟩
    rw [FF.out]
    have B3 : Hid (Below w.heap.size w w3) := B2.out.trans (hb.mono B2.out.size)
    have R3 : Hid (Below w1.heap.size w1 w3) := R2.out.trans (hb.mono R2.out.size)
    have U3 : Hid (Unc w3 ⟨bu, 0, none⟩ u) := U2.out.below hb U2.out.lt
    have Q3 : Hid (Unc w3 ⟨bx, 0, none⟩ x) := Q2.out.below hb Q2.out.lt
    have X3 : Hid (Bw w3 w.heap.size X (.slice p1 X.gs.length q1) (.slice p2 X.os.length q2) (.slice p3 X.gold.length q3) (.slice (some xu) X.us.length q4) (.slice p5 X.qs.length q5)) := X2.out.below hb X2.out.lt
    clear hb a3 u3 f2 f3 f4 f5 B2 R2 U2 Q2 X2 FL
    have z3 := (KK.out.1.below B3.out KK.out.2).c3
    have u2 : w3.cell? ⟨bu, 2, none⟩ = some (.int .i64 (kn : Nat)) := by have := U3.out.c2; rw [Nat.zero_add, GD.out.2.2.2.2] at this; exact this
    have u1 : w3.cell? ⟨bu, 1, none⟩ = some (.int .i64 u.player) := by have := U3.out.c1; rw [Nat.zero_add] at this; exact this
    have a1 : w3.cell? ⟨bx, 1, none⟩ = some (.int .i64 x.player) := by have := Q3.out.c1; rw [Nat.zero_add] at this; exact this
    have a4 : w3.cell? ⟨bx, 4, none⟩ = some (.int .i64 x.life) := by have := Q3.out.c4; rw [Nat.zero_add] at this; exact this
    have x7 := X3.out.c7
    have BE : Hid (Below w1.heap.size w1 w3) := R3.out
    have SF : Hid (safeU Wn u k.n2 x = true ↔ x.player = u.player ∨ k.n2 < f) := by have := safe_iff (W := Wn) (u := u) (y := x) (rng := k.n2); rw [FU.out] at this; exact this
    obtain ⟨px, hpx⟩ : ∃ p, x.player = p := ⟨_, rfl⟩
    obtain ⟨pu, hpu⟩ : ∃ p, u.player = p := ⟨_, rfl⟩
    rw [hpx, hpu] at SF
    rw [hpx] at a1
    rw [hpu] at u1
    clear hpx hpu
    by_cases hp : px = pu
    · have NX : Hid (RBest Wn u k.n2 X.us (n + 1) best far) := RB.out.safe HX.out (SF.out.2 (.inl hp))
      subst hp
      clear RB SF
      go_wp2
      go_round
      case rel => exact ⟨n + 1, best, far, rfl, rfl, by go_num, by omega, NX.out, fun h => absurd h NZ.out, ⟨BE.out.os, BE.out.tape, BE.out.output, BE.out.size, BE.out.block⟩⟩
      case measure => simp [intOf]; omega
    have hp' : (px == pu) = false := by rw [beq_eq_false_iff_ne]; exact hp
    by_cases hfr : k.n2 < f
    · have NX : Hid (RBest Wn u k.n2 X.us (n + 1) best far) := RB.out.safe HX.out (SF.out.2 (.inr hfr))
      clear RB SF
      go_wp2
      go_round
      case rel => exact ⟨n + 1, best, far, rfl, rfl, by go_num, by omega, NX.out, fun h => absurd h NZ.out, ⟨BE.out.os, BE.out.tape, BE.out.output, BE.out.size, BE.out.block⟩⟩
      case measure => simp [intOf]; omega
    have NS : Hid (safeU Wn u k.n2 x = false) := by
      unfold Hid
      rw [Bool.eq_false_iff]
      intro h
      rcases SF.out.1 h with h | h
      · exact hp h
      · exact hfr h
    clear SF
    rcases RB.out.who hn with rfl | ⟨b, y, rfl, hbl, hby, hfy⟩
    · have NX : Hid (RBest Wn u k.n2 X.us (n + 1) (n : Nat) f) := by have := RB.out.first HX.out NS.out; rw [FU.out] at this; exact this
      clear RB
      go_upto_region 10 with fail
      go_quiet (fail)
      go_wp2
      go_round
      case rel => exact ⟨n + 1, (n : Nat), f, rfl, rfl, by go_num, by omega, NX.out, fun h => absurd h NZ.out, ⟨BE.out.os, BE.out.tape, BE.out.output, BE.out.size, BE.out.block⟩⟩
      case measure => simp [intOf]; omega
    have KY : Hid (keyU Wn u x < keyU Wn u y ↔ f < far ∨ (f = far ∧ x.life < y.life)) := by
      have := key_lt (W := Wn) (u := u) (FT.out y (List.mem_of_getElem? hby)).2 (FT.out x (List.mem_of_getElem? HX.out)).2
      rw [FU.out, ← hfy] at this
      exact this
    have NY : Hid (f < far ∨ (f = far ∧ x.life < y.life) → RBest Wn u k.n2 X.us (n + 1) (n : Nat) f) := fun h => by have := RB.out.nearer hby HX.out NS.out (KY.out.2 h); rw [FU.out] at this; exact this
    have NK : Hid (¬ (f < far ∨ (f = far ∧ x.life < y.life)) → RBest Wn u k.n2 X.us (n + 1) (b : Nat) far) := fun h => RB.out.keeps hby HX.out NS.out (fun h' => h (KY.out.1 h'))
    have c4 := ((UC.out b y hby).below B3.out (by rw [add_block]; exact UL.out)).c4
    have hbi : ((b : Nat) : Int) < (X.us.length : Nat) := by omega
    have hb1 : decide (((b : Nat) : Int) < 0) = false := decide_eq_false (by omega)
    obtain ⟨lx, hlx⟩ : ∃ l, x.life = l := ⟨_, rfl⟩
    obtain ⟨ly, hly⟩ : ∃ l, y.life = l := ⟨_, rfl⟩
    rw [hlx, hly] at NY NK
    rw [hlx] at a4
    rw [hly] at c4
    clear RB KY hfy hby hlx hly
    by_cases h1 : f < far
    · have hd : decide (f < far) = true := decide_eq_true h1
      have NX : Hid (RBest Wn u k.n2 X.us (n + 1) (n : Nat) f) := NY.out (.inl h1)
      clear NY NK c4 a4 h1
      go_upto_region 10 with fail
      go_quiet (fail)
      go_wp2
      go_round
      case rel => exact ⟨n + 1, (n : Nat), f, rfl, rfl, by go_num, by omega, NX.out, fun h => absurd h NZ.out, ⟨BE.out.os, BE.out.tape, BE.out.output, BE.out.size, BE.out.block⟩⟩
      case measure => simp [intOf]; omega
    by_cases h2 : f = far
    · subst h2
      have h2' : (f == f) = true := beq_self_eq_true f
      by_cases h3 : lx < ly
      · go_upto_region 10 with fail
        go_quiet (fail)
        go_wp2
        go_round
        case rel => exact ⟨n + 1, (n : Nat), f, rfl, rfl, by go_num, by omega, NY.out (.inr ⟨by trivial, h3⟩), fun h => absurd h NZ.out, ⟨BE.out.os, BE.out.tape, BE.out.output, BE.out.size, BE.out.block⟩⟩
        case measure => simp [intOf]; omega
      · go_upto_region 10 with fail
        go_quiet (fail)
        go_wp2
        go_round
        case rel => exact ⟨n + 1, (b : Nat), f, rfl, rfl, by go_num, by omega, NK.out (by omega), fun h => absurd h NZ.out, ⟨BE.out.os, BE.out.tape, BE.out.output, BE.out.size, BE.out.block⟩⟩
        case measure => simp [intOf]; omega
    have h2' : (f == far) = false := by rw [beq_eq_false_iff_ne]; exact h2
    have hd : decide (f < far) = false := decide_eq_false h1
    have NX : Hid (RBest Wn u k.n2 X.us (n + 1) (b : Nat) far) := NK.out (by omega)
    clear NY NK c4 a4 h1 h2
    go_upto_region 10 with fail
    go_quiet (fail)
    go_wp2
    go_round
    case rel => exact ⟨n + 1, (b : Nat), far, rfl, rfl, by go_num, by omega, NX.out, fun h => absurd h NZ.out, ⟨BE.out.os, BE.out.tape, BE.out.output, BE.out.size, BE.out.block⟩⟩
    case measure => simp [intOf]; omega
end Go.Proofs.YtagnjmellcibhaaGreatDoor

namespace Go.Proofs.YtagnjmellcibhaaGreatDoor
open Go.RowKit

def intCells (ds : List Int) : List Value := ds.map fun d => .int .i64 d

/-- block b holds the integers ds, and some cells behind. -/
def Bk (w : World) (b : Nat) (ds : List Int) (r : Array Value) : Prop := w.heap[b]? = some (.cells ((intCells ds).toArray ++ r) 3 (0, 0))

theorem Bk.cell {w : World} {b : Nat} {ds : List Int} {r : Array Value} (h : Bk w b ds r) {i : Nat} {d : Int} (hd : ds[i]? = some d) : w.cell? ⟨b, i, none⟩ = some (.int .i64 d) := by
  have hi : i < ds.length := (List.getElem?_eq_some_iff.1 hd).1
  unfold Bk at h
  simp only [World.cell?, h]
  simp [intCells, Array.getElem?_append, hi]
  exact (List.getElem?_eq_some_iff.1 hd).2
theorem Bk.thaw {w : World} {b : Nat} {ds : List Int} {r : Array Value} (h : Bk w b ds r) (i : Nat) : w.frozen? ⟨b, i, none⟩ = false := by
  unfold Bk at h
  simp [World.frozen?, h]
theorem Bk.set {w : World} {b : Nat} {ds : List Int} {r : Array Value} (h : Bk w b ds r) (i : Nat) (d : Int) (hi : i < ds.length) : Bk (w.setCell ⟨b, i, none⟩ (.int .i64 d)) b (ds.set i d) r := by
  unfold Bk at *
  rw [heap_setCell_same w b i _ _ _ h]
  have e : (intCells (ds.set i d)).toArray = (intCells ds).toArray.setIfInBounds i (.int .i64 d) := by
    simp [intCells, List.map_set]
  rw [e]
  have hl : i < (intCells ds).toArray.size := by simpa [intCells] using hi
  rw [Array.setIfInBounds_append_left hl]
theorem Bk.drewN {w : World} {b : Nat} {ds : List Int} {r : Array Value} (h : Bk w b ds r) (n : Nat) : Bk (w.drewN n) b ds r := h
theorem Bk.kp {w w' : World} {b z : Nat} {ds : List Int} {r : Array Value} (h : Bk w b ds r) (hk : Kp z w w') (hne : b ≠ z) : Bk w' b ds r := by
  unfold Bk at *
  rw [hk.block b (lt_of_block h) hne]; exact h
theorem Bk.below {w w' : World} {b : Nat} {ds : List Int} {r : Array Value} (h : Bk w b ds r) (hb : Below w.heap.size w w') : Bk w' b ds r := by
  unfold Bk at *
  rw [hb.block b (lt_of_block h)]; exact h
theorem Bk.lt {w : World} {b : Nat} {ds : List Int} {r : Array Value} (h : Bk w b ds r) : b < w.heap.size := lt_of_block h
theorem Bk.ro {w : World} {b c : Nat} {ds : List Int} {r : Array Value} (h : Bk w b ds r) (h1 : ds.length ≤ c) (h2 : c ≤ 9223372036854775807) : Ro w (.slice (some ⟨b, 0, none⟩) ds.length c) ds :=
  ⟨_, c, rfl, h1, h2, fun _ => ⟨_, rfl, h.lt, fun i d hd => by rw [Addr.add_lit, Nat.zero_add]; exact h.cell hd⟩⟩
/-- another cell, another block. -/
theorem Bk.other {w : World} {b : Nat} {ds : List Int} {r : Array Value} (h : Bk w b ds r) {g : Nat} (hne : b ≠ g) (i : Nat) (u : Value) : Bk (w.setCell ⟨g, i, none⟩ u) b ds r := by
  unfold Bk at *
  rw [Below.heap_setCell _ _ _ _ hne]; exact h
theorem Bk.low {w w' : World} {b B : Nat} {ds : List Int} {r : Array Value} (h : Bk w b ds r) (hb : Below B w w') (hB : b < B) : Bk w' b ds r := by
  unfold Bk at *
  rw [hb.block b hB]; exact h
end Go.Proofs.YtagnjmellcibhaaGreatDoor

namespace Go.Proofs.YtagnjmellcibhaaGreatDoor
open Go.RowKit
set_option linter.unusedVariables false

theorem made_ints (n : Nat) : madeCells #[Value.int .i64 0] n = (intCells (List.replicate n 0)).toArray := by
  apply Array.ext_getElem?
  intro i
  unfold madeCells intCells
  by_cases h : i < n
  · simp [h, Nat.mod_one]
  · simp [h]
theorem makeI (n : Nat) (w : World) (h : n ≤ 1000000) : ∃ w', (Instr.makeSlice 23 (.int .i64 (n : Nat)) (.int .i64 (n : Nat))).run Tryz.prog w = .ok (.slice (some ⟨w.heap.size, 0, none⟩) n n) w' ∧ Bk w' w.heap.size (List.replicate n 0) #[] ∧ Below w.heap.size w w' ∧ w'.heap.size = w.heap.size + 1 := by
  obtain ⟨i0, hi, hz0, hz1, hz2⟩ := info_parts info_int
  have hr := run_make (P := Tryz.prog) w 23 3 i0 (.int .i64 0) Tryz.underlying23 hi hz0 .i64 .i64 (n : Nat) (n : Nat) (by omega) (Int.le_refl _) (by rw [hz2]; omega) (by omega)
  refine ⟨_, hr, ?_, (Below.refl _ _).alloc (Nat.le_refl _) _, by simp⟩
  unfold Bk
  rw [hz1, Int.toNat_natCast, Nat.mul_one, heap_alloc_new]
  have e : (Value.int .i64 0).cells = #[Value.int .i64 0] := rfl
  rw [e, made_ints, Array.append_empty]
/-- one more event: the run itself. -/
theorem run_ev (w : World) (ty : TypeId) (base : Nat) (v : Value) (ks : List EvV) (hown : Evo w base v ks) (b : Nat) (d : EvV) (hd : Evc w ⟨b, 0, none⟩ d) (hl : ks.length ≤ 1000000) (hbase : base ≤ w.heap.size) :
    ∃ g cap w', (Builtin.append_ #[31, 31] ty #[v, .slice (some ⟨b, 0, none⟩) 1 1]).run Tryz.prog w = .ok (.slice (some ⟨g, 0, none⟩) (ks.length + 1) cap) w' ∧ Evo w' base (.slice (some ⟨g, 0, none⟩) (ks.length + 1) cap) (ks ++ [d]) ∧ w.grownBy w' v.ownBlock ∧ (v.ownBlock = some g ∨ g = w.heap.size) ∧ g < w'.heap.size := by
  obtain ⟨i0, hi, hz0, hz1, hz2⟩ := info_parts info_ev
  obtain ⟨g, cap, w6, hr, ho6, hg6, ha6, hl6⟩ := run_append_lies (P := Tryz.prog) w 31 31 base 68 i0 _ 3 24 Tryz.underlying31 hi hz0 hz1 hz2 rfl (by decide) v ks.length _ hown ⟨b, 0, none⟩ 1 1 (EvV.cs d) rfl (fun j u hj => by
    have hjn : j < 3 := (List.getElem?_eq_some_iff.1 hj).1
    rw [Addr.add_lit, Nat.zero_add]
    match j, hjn, hj with
    | 0, _, hj => simp [EvV.cs] at hj; subst hj; exact hd.c0
    | 1, _, hj => simp [EvV.cs] at hj; subst hj; exact hd.c1
    | 2, _, hj => simp [EvV.cs] at hj; subst hj; exact hd.c2) (fun u hu => by
    simp [EvV.cs] at hu
    rcases hu with rfl | rfl | rfl <;> rfl) (by decide) (by unfold maxLen; omega) (by omega) hbase _ rfl
  refine ⟨g, cap, w6, hr, ?_, hg6, ha6, hl6⟩
  unfold Evo
  rw [List.length_append, List.flatMap_append]
  simpa using ho6
end Go.Proofs.YtagnjmellcibhaaGreatDoor

