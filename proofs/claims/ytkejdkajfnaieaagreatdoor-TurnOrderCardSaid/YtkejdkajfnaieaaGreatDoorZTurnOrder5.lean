/- works.yield. · What stays where one block turns, or a list of one's own grows. · What stays where some blocks turn. · A list of integers of its own, as a block. · Slices of api.Event that the call itself makes, by append. · works.take. · works.take. · slices.Index and Contains, of integers. · slices.IndexFunc of units, the function only of what is in the list. · slices.ContainsFunc of units, the function only of what is in the list, and it may make memory. · works.isHome: its function. · field.Near. · works.isHome. · works.bring as mathematics, and what stays while units bring. · make([]int, N) for few. · One more event. -/
import Derived.Test.YtkejdkajfnaieaaGreatDoorZTurnOrder4
import Derived.Test.YtkejdkajfnaieaaGreatDoorZTurnOrder3
import Derived.Test.YtkejdkajfnaieaaGreatDoorZTurnOrder1
import Derived.BigRegion
import Derived.Deep.DeepCutAuto
import Derived.OwnWalk
import Derived.Deep.AppendLies
import Derived.Laws.MakeOwn
namespace Go.Proofs.YtkejdkajfnaieaaGreatDoor
open Go.RowKit
set_option linter.unusedVariables false

theorem unit_one {w : World} {z : Nat} (y : UnV) (hz : w.heap.size = z) : Ub (w.alloc (Obj.cells #[.int .i64 y.id, .int .i64 y.player, .int .i64 y.kind, .int .i64 y.at_, .int .i64 y.life, .int .i64 y.load, .int .i64 y.task, .int .i64 y.goal] 42)) z [y] [] := by
  subst hz
  exact heap_alloc_new _ _
theorem ret_int {a b : Int} (h : a = b) : Ending.returned (.int .i64 a) = Ending.returned (.int .i64 b) := by rw [h]
set_option maxRecDepth 100000 in
set_option maxHeartbeats 8000000 in
theorem yield_any (vk vw : Value) (ks : List KV) (Y : WV) (u : UnV) (kn an : Nat) (k : KV) (x : Int) (w : World) (hk : Kl w vk ks) (hw : Wl w vw Y) (hkn : u.kind = kn) (hkk : ks[kn]? = some k) (han : u.at_ = an) (hx : Y.os[an]? = some x)
    (l1 : 0 ≤ u.load) (l2 : u.load ≤ 1000) (l3 : 0 ≤ k.n7) (l4 : k.n7 ≤ 1000) (l5 : 0 ≤ x ∧ x ≤ 1000000) :
    Calls Tryz.prog 136 #[vk, vw, u.val] w fun e w' => e = .returned (.int .i64 (yieldN ks Y u)) ∧ Below w.heap.size w w' := by
  have K : Hid (Kl w vk ks) := hk
  have H : Hid (Wl w vw Y) := hw
  have NN : Hid (u.kind = (kn : Nat) ∧ ks[kn]? = some k ∧ u.at_ = (an : Nat) ∧ Y.os[an]? = some x) := ⟨hkn, hkk, han, hx⟩
  have EY : Hid (yieldN ks Y u = (if u.task = 2 ∧ u.at_ = u.goal then min (min (k.n7 - u.load) x) 10 else 0)) := yield_le hkn hkk han hx
  have hkl : kn < ks.length := (List.getElem?_eq_some_iff.1 hkk).1
  have hal : an < Y.os.length := (List.getElem?_eq_some_iff.1 hx).1
  have hki : ((kn : Nat) : Int) < (ks.length : Nat) := by omega
  have hai : ((an : Nat) : Int) < (Y.os.length : Nat) := by omega
  obtain ⟨p1, q1, p2, q2, p3, q3, p4, q4, p5, q5, rfl⟩ := wl_shape9 hw
  obtain ⟨pk, qk, rfl, ck1, ck2, kc⟩ := hk
  obtain ⟨xk, rfl, hxk1, hxk⟩ := kc (by rintro hn; rw [hn] at hkl; simp at hkl)
  have KC : Hid (xk.block < w.heap.size ∧ Kc w (xk.add (kn * 11)) k) := ⟨hxk1, hxk kn k hkk⟩
  obtain ⟨xo, rfl, hxo⟩ : ∃ xo, p2 = some xo ∧ xo.block < w.heap.size ∧ w.cell? (xo.add an) = some (.int .i64 x) := by
    obtain ⟨k1, k2, k3, k4, k5, ev, r1, r2, r3, hu, r5⟩ := hw
    have e9 : k2 = .slice p2 Y.os.length q2 := by simp only [Value.agg.injEq, Array.mk.injEq, List.cons.injEq] at ev; exact ev.2.2.2.2.2.1.symm
    subst e9
    obtain ⟨a', c', e', -, -, hz⟩ := r2
    injection e' with e1' e2' e3'
    subst e1'
    obtain ⟨y, e, h1, h2⟩ := hz (by rintro hn; rw [hn] at hal; simp at hal)
    exact ⟨y, e, h1, h2 an x hx⟩
  have XO : Hid (xo.block < w.heap.size ∧ w.cell? (xo.add an) = some (.int .i64 x)) := hxo
  clear hw hxo hkn hkk han hx kc hxk hxk1
  unfold UnV.val
  go_enter Tryz.func136, Tryz.ntmps136
  go_upto_region 1 with fail
  have BA : Hid (Below w.heap.size w (w.alloc (Obj.cells #[.int .i64 Y.turn, .int .i64 Y.next, .int .i64 Y.wide, .int .i64 Y.high, .slice p1 Y.gs.length q1, .slice (some xo) Y.os.length q2, .slice p3 Y.gold.length q3, .slice p4 Y.us.length q4, .slice p5 Y.qs.length q5] 29))) := (Below.refl _ _).alloc (Nat.le_refl _) _
  have X0 : Hid (Bw (w.alloc (Obj.cells #[.int .i64 Y.turn, .int .i64 Y.next, .int .i64 Y.wide, .int .i64 Y.high, .slice p1 Y.gs.length q1, .slice (some xo) Y.os.length q2, .slice p3 Y.gold.length q3, .slice p4 Y.us.length q4, .slice p5 Y.qs.length q5] 29)) w.heap.size Y (.slice p1 Y.gs.length q1) (.slice (some xo) Y.os.length q2) (.slice p3 Y.gold.length q3) (.slice p4 Y.us.length q4) (.slice p5 Y.qs.length q5)) := Bw.mk' Y _ _ _ _ _ rfl
  have U0 : Hid (Ub ((w.alloc (Obj.cells #[.int .i64 Y.turn, .int .i64 Y.next, .int .i64 Y.wide, .int .i64 Y.high, .slice p1 Y.gs.length q1, .slice (some xo) Y.os.length q2, .slice p3 Y.gold.length q3, .slice p4 Y.us.length q4, .slice p5 Y.qs.length q5] 29)).alloc (Obj.cells #[.int .i64 u.id, .int .i64 u.player, .int .i64 u.kind, .int .i64 u.at_, .int .i64 u.life, .int .i64 u.load, .int .i64 u.task, .int .i64 u.goal] 42)) (w.heap.size + 1) [u] []) := unit_one u (by simp)
  have B1 : Hid (Below w.heap.size w ((w.alloc (Obj.cells #[.int .i64 Y.turn, .int .i64 Y.next, .int .i64 Y.wide, .int .i64 Y.high, .slice p1 Y.gs.length q1, .slice (some xo) Y.os.length q2, .slice p3 Y.gold.length q3, .slice p4 Y.us.length q4, .slice p5 Y.qs.length q5] 29)).alloc (Obj.cells #[.int .i64 u.id, .int .i64 u.player, .int .i64 u.kind, .int .i64 u.at_, .int .i64 u.life, .int .i64 u.load, .int .i64 u.task, .int .i64 u.goal] 42))) := BA.out.alloc (by simp) _
  have X1 : Hid (Bw ((w.alloc (Obj.cells #[.int .i64 Y.turn, .int .i64 Y.next, .int .i64 Y.wide, .int .i64 Y.high, .slice p1 Y.gs.length q1, .slice (some xo) Y.os.length q2, .slice p3 Y.gold.length q3, .slice p4 Y.us.length q4, .slice p5 Y.qs.length q5] 29)).alloc (Obj.cells #[.int .i64 u.id, .int .i64 u.player, .int .i64 u.kind, .int .i64 u.at_, .int .i64 u.life, .int .i64 u.load, .int .i64 u.task, .int .i64 u.goal] 42)) w.heap.size Y (.slice p1 Y.gs.length q1) (.slice (some xo) Y.os.length q2) (.slice p3 Y.gold.length q3) (.slice p4 Y.us.length q4) (.slice p5 Y.qs.length q5)) := X0.out.below ((Below.refl _ _).alloc (Nat.le_refl _) _) X0.out.lt
  generalize ((w.alloc (Obj.cells #[.int .i64 Y.turn, .int .i64 Y.next, .int .i64 Y.wide, .int .i64 Y.high, .slice p1 Y.gs.length q1, .slice (some xo) Y.os.length q2, .slice p3 Y.gold.length q3, .slice p4 Y.us.length q4, .slice p5 Y.qs.length q5] 29)).alloc (Obj.cells #[.int .i64 u.id, .int .i64 u.player, .int .i64 u.kind, .int .i64 u.at_, .int .i64 u.life, .int .i64 u.load, .int .i64 u.task, .int .i64 u.goal] 42)) = w1 at *
  clear BA X0
  have kc1 := KC.out.2.below B1.out (by rw [add_block]; exact KC.out.1)
  have k8 := kc1.c8
  have co : w1.cell? (xo.add an) = some (.int .i64 x) := by rw [B1.out.cell (by rw [add_block]; exact XO.out.1)]; exact XO.out.2
  obtain ⟨x0, x1, x2, x3, x4, x5, x6, x7, x8⟩ := X1.out
  obtain ⟨y0, y1, y2, y3, y4, y5, y6, y7⟩ := U0.out.unc (i := 0) (o := u) rfl
  simp only [Nat.zero_mul, Nat.zero_add] at y0 y1 y2 y3 y4 y5 y6 y7
  rw [NN.out.1] at y2
  by_cases h2 : u.task = 2
  · rw [h2] at y6
    by_cases hg : u.at_ = u.goal
    · have E : Hid (yieldN ks Y u = min (min (k.n7 - u.load) x) 10) := by unfold Hid; rw [EY.out, if_pos ⟨h2, hg⟩]
      rw [← hg, NN.out.2.2.1] at y7
      rw [NN.out.2.2.1] at y3
      have wr : IntKind.i64.wrap (k.n7 - u.load) = k.n7 - u.load := by rw [IntKind.wrap_i64]; omega
      clear h2 hg
      go_upto_region 3 with fail
      go_region
      all_goals (try go_wp2)
      all_goals go_ret
      all_goals refine ⟨?_, ⟨B1.out.os, B1.out.tape, B1.out.output, B1.out.size, B1.out.block⟩⟩
      all_goals (rw [E.out]; exact ret_int (by omega))
    · have E : Hid (yieldN ks Y u = 0) := by unfold Hid; rw [EY.out, if_neg (fun h => hg h.2)]
      clear h2
      go_wp2
      go_ret
      exact ⟨by rw [E.out]; rfl, ⟨B1.out.os, B1.out.tape, B1.out.output, B1.out.size, B1.out.block⟩⟩
  · have E : Hid (yieldN ks Y u = 0) := by unfold Hid; rw [EY.out, if_neg (fun h => h2 h.1)]
    go_wp2
    go_ret
    exact ⟨by rw [E.out]; rfl, ⟨B1.out.os, B1.out.tape, B1.out.output, B1.out.size, B1.out.block⟩⟩
end Go.Proofs.YtkejdkajfnaieaaGreatDoor

namespace Go.Proofs.YtkejdkajfnaieaaGreatDoor
open Go.RowKit
set_option linter.unusedVariables false

theorem gb_trans {a b c : World} {r : Option Nat} (h : a.grownBy b r) (k : b.grownBy c r) : a.grownBy c r :=
  ⟨k.os.trans h.os, k.tape.trans h.tape, k.output.trans h.output, Nat.le_trans h.size k.size, fun i hi hr => (k.block i (Nat.lt_of_lt_of_le hi h.size) hr).trans (h.block i hi hr)⟩
theorem gb_below {a b : World} {r : Option Nat} (h : Below a.heap.size a b) : a.grownBy b r := ⟨h.os, h.tape, h.output, h.size, fun k hk _ => h.block k hk⟩
theorem gb_kp {a b : World} {z : Nat} (h : Kp z a b) : a.grownBy b (some z) := ⟨h.os, h.tape, h.output, h.size, fun k hk hn => h.block k hk (fun e => hn (by rw [e]))⟩
theorem kp_gb {z : Nat} {a b c : World} {r : Option Nat} (h : Kp z a b) (g : b.grownBy c r) (hr : ∀ k, r = some k → a.heap.size ≤ k) : Kp z a c :=
  ⟨g.os.trans h.os, g.tape.trans h.tape, g.output.trans h.output, Nat.le_trans h.size g.size, fun i hi hz => (g.block i (Nat.lt_of_lt_of_le hi h.size) (fun e => by have := hr i e.symm; omega)).trans (h.block i hi hz)⟩
theorem cell_kp9 {w w' : World} {z : Nat} {p : Addr} {u : Value} (h : w.cell? p = some u) (k : Kp z w w') (hz : p.block ≠ z) : w'.cell? p = some u := by
  rw [World.cell?_of_block (k.block p.block (cell_lt h) hz)]; exact h
theorem Bw.kp9 {w w' : World} {z y : Nat} {W : WV} {u1 u2 u3 u4 u5 : Value} (h : Bw w z W u1 u2 u3 u4 u5) (k : Kp y w w') (hn : z ≠ y) : Bw w' z W u1 u2 u3 u4 u5 :=
  ⟨cell_kp9 h.c0 k hn, cell_kp9 h.c1 k hn, cell_kp9 h.c2 k hn, cell_kp9 h.c3 k hn, cell_kp9 h.c4 k hn, cell_kp9 h.c5 k hn, cell_kp9 h.c6 k hn, cell_kp9 h.c7 k hn, cell_kp9 h.c8 k hn⟩
theorem Unc.kp9 {w w' : World} {z : Nat} {y : Addr} {u : UnV} (h : Unc w y u) (k : Kp z w w') (hn : y.block ≠ z) : Unc w' y u :=
  ⟨cell_kp9 h.c0 k hn, cell_kp9 h.c1 k hn, cell_kp9 h.c2 k hn, cell_kp9 h.c3 k hn, cell_kp9 h.c4 k hn, cell_kp9 h.c5 k hn, cell_kp9 h.c6 k hn, cell_kp9 h.c7 k hn⟩
theorem cell_gb {w w' : World} {r : Option Nat} {p : Addr} {u : Value} (h : w.cell? p = some u) (k : w.grownBy w' r) (hz : r ≠ some p.block) : w'.cell? p = some u := by
  rw [World.cell?_of_block (k.block p.block (cell_lt h) (fun e => hz e.symm))]; exact h
theorem Unc.gb {w w' : World} {r : Option Nat} {y : Addr} {u : UnV} (h : Unc w y u) (k : w.grownBy w' r) (hn : r ≠ some y.block) : Unc w' y u :=
  ⟨cell_gb h.c0 k hn, cell_gb h.c1 k hn, cell_gb h.c2 k hn, cell_gb h.c3 k hn, cell_gb h.c4 k hn, cell_gb h.c5 k hn, cell_gb h.c6 k hn, cell_gb h.c7 k hn⟩
theorem wx_bw {w : World} {z : Nat} {X : WV} {u1 u2 u3 u4 u5 : Value} (h : Wx w z (.int .i64 X.turn) (.int .i64 X.next) (.int .i64 X.wide) (.int .i64 X.high) u1 u2 u3 u4 u5) : Bw w z X u1 u2 u3 u4 u5 := by
  obtain ⟨h0, h1, h2, h3, h4, h5, h6, h7, h8⟩ := h.cells
  exact ⟨h0, h1, h2, h3, h4, h5, h6, h7, h8⟩
theorem own_low {w w' : World} {B base : Nat} {T : TypeId} {size : Nat} {u : Value} {n : Nat} {cs : List Value} (h : w.ownsRow base T size u n cs) (k : Below B w w') (hz : ∀ b, u.ownBlock = some b → b < B) : w'.ownsRow base T size u n cs := by
  refine ⟨h.1, ?_⟩
  rcases h.2 with h1 | ⟨g, cap, cur, h1, h2, h3, h4⟩
  · exact .inl h1
  · exact .inr ⟨g, cap, cur, h1, h2, (k.block g (hz g (by rw [h1]; rfl))).trans h3, h4⟩
theorem own_gb {w w' : World} {base : Nat} {T : TypeId} {size : Nat} {u : Value} {n : Nat} {cs : List Value} {r : Option Nat} (h : w.ownsRow base T size u n cs) (k : w.grownBy w' r) (hz : ∀ b, u.ownBlock = some b → r ≠ some b) : w'.ownsRow base T size u n cs := by
  refine ⟨h.1, ?_⟩
  rcases h.2 with h1 | ⟨g, cap, cur, h1, h2, h3, h4⟩
  · exact .inl h1
  · exact .inr ⟨g, cap, cur, h1, h2, (k.block g (lt_of_block h3) (fun e => hz g (by rw [h1]; rfl) e.symm)).trans h3, h4⟩
theorem kind_new {w : World} {z : Nat} (k : KV) (hz : w.heap.size = z) : Kc (w.alloc (Obj.cells #[.string k.b, .int .i64 k.n0, .int .i64 k.n1, .int .i64 k.n2, .int .i64 k.n3, .int .i64 k.n4, .int .i64 k.n5, .int .i64 k.n6, .int .i64 k.n7, .bool k.f, .bool k.t] 101)) ⟨z, 0, none⟩ k := by
  subst hz
  exact ⟨by simp, by simp, by simp, by simp, by simp, by simp, by simp, by simp, by simp, by simp, by simp⟩
theorem Kc.kp9 {w w' : World} {z : Nat} {y : Addr} {k : KV} (h : Kc w y k) (q : Kp z w w') (hn : y.block ≠ z) : Kc w' y k :=
  ⟨cell_kp9 h.c0 q hn, cell_kp9 h.c1 q hn, cell_kp9 h.c2 q hn, cell_kp9 h.c3 q hn, cell_kp9 h.c4 q hn, cell_kp9 h.c5 q hn, cell_kp9 h.c6 q hn, cell_kp9 h.c7 q hn, cell_kp9 h.c8 q hn, cell_kp9 h.c9 q hn, cell_kp9 h.c10 q hn⟩
theorem kc_of {w : World} {xk : Addr} {n q kn : Nat} {ks : List KV} {k : KV} (h : Kl w (.slice (some xk) n q) ks) (hk : ks[kn]? = some k) : Kc w (xk.add (kn * 11)) k := by
  obtain ⟨a, c, he, -, -, hc⟩ := h
  obtain ⟨x, hx, -, hxc⟩ := hc (by intro h; rw [h] at hk; simp at hk)
  injection he with he
  rw [← he] at hx
  injection hx with hx
  rw [hx]
  exact hxc kn k hk
end Go.Proofs.YtkejdkajfnaieaaGreatDoor

namespace Go.Proofs.YtkejdkajfnaieaaGreatDoor
open Go.RowKit
set_option linter.unusedVariables false

/-- nothing below has turned but the blocks of S. -/
structure Fr (S : Nat → Prop) (w w' : World) : Prop where
  os : w'.os = w.os
  tape : w'.tape = w.tape
  output : w'.output = w.output
  size : w.heap.size ≤ w'.heap.size
  block : ∀ k, k < w.heap.size → ¬ S k → w'.heap[k]? = w.heap[k]?
theorem Fr.below {S : Nat → Prop} {w w' : World} (h : Below w.heap.size w w') : Fr S w w' := ⟨h.os, h.tape, h.output, h.size, fun k hk _ => h.block k hk⟩
theorem Fr.kp {S : Nat → Prop} {w w' : World} {z : Nat} (h : Kp z w w') (hz : S z) : Fr S w w' := ⟨h.os, h.tape, h.output, h.size, fun k hk hn => h.block k hk (fun e => hn (e ▸ hz))⟩
theorem Fr.gb {S : Nat → Prop} {w w' : World} {r : Option Nat} (h : w.grownBy w' r) (hr : ∀ k, r = some k → S k) : Fr S w w' := ⟨h.os, h.tape, h.output, h.size, fun k hk hn => h.block k hk (fun e => hn (hr k e.symm))⟩
theorem Fr.trans {S : Nat → Prop} {a b c : World} (h : Fr S a b) (k : Fr S b c) : Fr S a c :=
  ⟨k.os.trans h.os, k.tape.trans h.tape, k.output.trans h.output, Nat.le_trans h.size k.size, fun i hi hn => (k.block i (Nat.lt_of_lt_of_le hi h.size) hn).trans (h.block i hi hn)⟩
theorem Fr.mono {S T : Nat → Prop} {a b : World} (h : Fr S a b) (hs : ∀ k, S k → T k) : Fr T a b := ⟨h.os, h.tape, h.output, h.size, fun k hk hn => h.block k hk (fun e => hn (hs k e))⟩
theorem Fr.low {S : Nat → Prop} {w w' : World} {n : Nat} (h : Fr S w w') (hn : n ≤ w.heap.size) (hs : ∀ k, S k → n ≤ k) : Below n w w' := ⟨h.os, h.tape, h.output, h.size, fun k hk => h.block k (by omega) (fun e => by have := hs k e; omega)⟩
theorem Fr.own {S : Nat → Prop} {w w' : World} {base : Nat} {T : TypeId} {size : Nat} {u : Value} {n : Nat} {cs : List Value} (f : Fr S w w') (h : w.ownsRow base T size u n cs) (hn : ∀ b, u.ownBlock = some b → ¬ S b) : w'.ownsRow base T size u n cs := by
  refine ⟨h.1, ?_⟩
  rcases h.2 with h1 | ⟨g, cap, cur, h1, h2, h3, h4⟩
  · exact .inl h1
  · exact .inr ⟨g, cap, cur, h1, h2, (f.block g (lt_of_block h3) (hn g (by rw [h1]; rfl))).trans h3, h4⟩
theorem Fr.wx {S : Nat → Prop} {w w' : World} {z : Nat} {c0 c1 c2 c3 c4 c5 c6 c7 c8 : Value} (f : Fr S w w') (h : Wx w z c0 c1 c2 c3 c4 c5 c6 c7 c8) (hn : ¬ S z) : Wx w' z c0 c1 c2 c3 c4 c5 c6 c7 c8 := (f.block z h.lt hn).trans h
theorem Fr.cell {S : Nat → Prop} {w w' : World} {p : Addr} {u : Value} (f : Fr S w w') (h : w.cell? p = some u) (hn : ¬ S p.block) : w'.cell? p = some u := by
  have hl := cell_lt h
  have e := f.block p.block hl hn
  unfold World.cell? at h ⊢
  rw [e]
  exact h
end Go.Proofs.YtkejdkajfnaieaaGreatDoor

namespace Go.Proofs.YtkejdkajfnaieaaGreatDoor
open Go.RowKit
set_option linter.unusedVariables false

theorem Ow.bk {w : World} {base : Nat} {v : Value} {xs : List Int} (h : Ow w base v xs) : (v = .slice none 0 0 ∧ xs = []) ∨ ∃ g cap rest, v = .slice (some ⟨g, 0, none⟩) xs.length cap ∧ base ≤ g ∧ xs.length ≤ cap ∧ cap ≤ maxLen ∧ xs.length + rest.size = cap ∧ Bk w g xs rest := by
  rcases h.2 with ⟨h1, h2⟩ | ⟨g, cap, cur, h1, h2, h3, h4, h5, h6, h7⟩
  · exact .inl ⟨h1, List.length_eq_zero_iff.1 h2⟩
  · have e6 : cur.toList.length = cap := by simpa using h6
    refine .inr ⟨g, cap, (cur.toList.drop xs.length).toArray, h1, h2, h4, h5, ?_, ?_⟩
    · simp only [List.size_toArray, List.length_drop, e6]; omega
    · have e : cur = (intCells xs).toArray ++ (cur.toList.drop xs.length).toArray := by
        apply Array.ext'
        rw [Nat.mul_one] at h7
        have h8 : cur.toList.take xs.length = intCells xs := h7
        rw [Array.toList_append]
        show cur.toList = intCells xs ++ cur.toList.drop xs.length
        rw [← h8, List.take_append_drop]
      unfold Bk
      rw [h3, ← e]
theorem Bk.ow {w : World} {base g cap : Nat} {xs : List Int} {rest : Array Value} (h : Bk w g xs rest) (hb : base ≤ g) (h1 : xs.length ≤ cap) (h2 : cap ≤ maxLen) (h3 : xs.length + rest.size = cap) : Ow w base (.slice (some ⟨g, 0, none⟩) xs.length cap) xs := by
  refine ⟨by simp, .inr ⟨g, cap, _, rfl, hb, h, h1, h2, ?_, ?_⟩⟩
  · simp [intCells]; omega
  · simp [intCells]
end Go.Proofs.YtkejdkajfnaieaaGreatDoor

namespace Go.Proofs.YtkejdkajfnaieaaGreatDoor
open Go.RowKit
set_option linter.unusedVariables false

theorem info_ev : (Tryz.prog.info? 139).map (fun i => (i.zero, i.size, i.bytes)) = some (some (.agg #[.int .i64 0, .int .i64 0, .int .i64 0]), 3, 24) := by kernel_rfl
def EvV.cs (k : EvV) : List Value := [.int .i64 k.what, .int .i64 k.unit, .int .i64 k.arg]
theorem flat_ev : ∀ (ks : List EvV) (i j : Nat) (k : EvV), ks[i]? = some k → j < 3 → (ks.flatMap EvV.cs)[i * 3 + j]? = k.cs[j]?
  | [], i, j, k, h, _ => by simp at h
  | x :: ks, 0, j, k, h, hj => by
    simp at h
    subst h
    rw [List.flatMap_cons, List.getElem?_append_left (by simp [EvV.cs]; omega)]
    simp
  | x :: ks, i + 1, j, k, h, hj => by
    rw [List.flatMap_cons, List.getElem?_append_right (by simp [EvV.cs]; omega)]
    have : (i + 1) * 3 + j - (EvV.cs x).length = i * 3 + j := by simp [EvV.cs]; omega
    rw [this]
    exact flat_ev ks i j k (by simpa using h) hj
/-- v is a slice of them, in a block of its own from base on. -/
def Evo (w : World) (base : Nat) (v : Value) (ks : List EvV) : Prop := w.ownsRow base 139 3 v ks.length (ks.flatMap EvV.cs)
theorem Evo.nil (w : World) (base : Nat) : Evo w base (.slice none 0 0) [] := World.ownsRow_nil _ _ _ _
theorem Evo.below {w w' : World} {base : Nat} {v : Value} {ks : List EvV} (h : Evo w base v ks) (hb : Below w.heap.size w w') : Evo w' base v ks :=
  World.ownsRow.kept h (row := none) ⟨hb.os, hb.tape, hb.output, hb.size, fun k hk _ => hb.block k hk⟩ (by cases v.ownBlock <;> simp)
theorem Evo.kept {w w' : World} {base : Nat} {v : Value} {ks : List EvV} {row : Option Nat} (h : Evo w base v ks) (hg : w.grownBy w' row) (hne : v.ownBlock = none ∨ v.ownBlock ≠ row) : Evo w' base v ks := World.ownsRow.kept h hg hne
theorem Evo.alloc {w : World} {base : Nat} {v : Value} {ks : List EvV} (h : Evo w base v ks) (o : Obj) : Evo (w.alloc o) base v ks := World.ownsRow.alloc h o
theorem Evo.block {w : World} {base : Nat} {v : Value} {ks : List EvV} (h : Evo w base v ks) : ∀ k, v.ownBlock = some k → base ≤ k ∧ k < w.heap.size := World.ownsRow.lt h
theorem Evo.mono {w : World} {base base' : Nat} {v : Value} {ks : List EvV} (h : Evo w base v ks) (hb : base' ≤ base) : Evo w base' v ks := by
  refine ⟨h.1, ?_⟩
  rcases h.2 with h1 | ⟨g, cap, cur, h1, h2, h3⟩
  · exact .inl h1
  · exact .inr ⟨g, cap, cur, h1, Nat.le_trans hb h2, h3⟩
theorem Evo.l {w : World} {base : Nat} {v : Value} {ks : List EvV} (h : Evo w base v ks) : Evl w v ks := by
  rcases h.2 with ⟨hv, h0⟩ | ⟨g, cap, cur, hv, hb, hg, h1, h2, h3, h4⟩
  · exact ⟨none, 0, by rw [hv, h0], by omega, by omega, fun hn => absurd (List.length_eq_zero_iff.1 h0) hn⟩
  · refine ⟨_, cap, hv, h1, by unfold maxLen at h2; omega, fun _ => ⟨_, rfl, lt_of_block hg, fun i k hi => ?_⟩⟩
    have hil : i < ks.length := (List.getElem?_eq_some_iff.1 hi).1
    have h5 : w.ownsRow base 139 3 (.slice (some ⟨g, 0, none⟩) ks.length cap) ks.length (ks.flatMap EvV.cs) := by rw [← hv]; exact h
    have hc : ∀ j u, j < 3 → k.cs[j]? = some u → w.cell? ⟨g, i * 3 + j, none⟩ = some u := fun j u hj hu => by
      rw [h5.cellAt (i * 3 + j) (by omega), flat_ev ks i j k hi hj, hu]
    rw [Addr.add_lit, Nat.zero_add]
    exact ⟨hc 0 _ (by decide) rfl, hc 1 _ (by decide) rfl, hc 2 _ (by decide) rfl⟩
theorem Evo.len {w : World} {base : Nat} {v : Value} {ks : List EvV} (h : Evo w base v ks) : ∃ a c, v = .slice a ks.length c := by
  obtain ⟨a, c, h1, -⟩ := h.l
  exact ⟨a, c, h1⟩

/-- one more. -/
theorem app_ev {ops : Array Oper} {rest : List Oper} {o : Oper} {a : Act} {Q : Exit → Act → World → Prop} (w : World) (hgd : o.guard = none) (s x : Operand)
    (ho : o.op = .call { callee := .builtin .append, args := #[s, x], argTypes := #[33, 33] }) (base : Nat) (v : Value) (ks : List EvV) (hs : a.eval s = v) (hown : Evo w base v ks)
    (b : Nat) (d : EvV) (hx : a.eval x = .slice (some ⟨b, 0, none⟩) 1 1) (hd : Evc w ⟨b, 0, none⟩ d) (hl : ks.length ≤ 1000000) (hbase : base ≤ w.heap.size)
    (h : ∀ g cap w', Evo w' base (.slice (some ⟨g, 0, none⟩) (ks.length + 1) cap) (ks ++ [d]) → w.grownBy w' v.ownBlock → (v.ownBlock = some g ∨ g = w.heap.size) → g < w'.heap.size → wpList Tryz.prog ops Q rest (a.put o.dst (.slice (some ⟨g, 0, none⟩) (ks.length + 1) cap)) w') :
    wpList Tryz.prog ops Q (o :: rest) a w := by
  obtain ⟨i0, hi, hz0, hz1, hz2⟩ := info_parts info_ev
  refine wpList_append_lies w hgd s x 33 ho base 139 i0 (.agg #[.int .i64 0, .int .i64 0, .int .i64 0]) 3 24 Tryz.underlying33 hi hz0 hz1 hz2 rfl (by decide) v ks.length _ hs hown ⟨b, 0, none⟩ 1 1 d.cs hx rfl ?_ ?_ (by decide) (by unfold maxLen; omega) (by omega) hbase _ rfl ?_
  · intro j u hj
    have hjn : j < 3 := (List.getElem?_eq_some_iff.1 hj).1
    rw [Addr.add_lit, Nat.zero_add]
    match j, hjn, hj with
    | 0, _, hj => simp [EvV.cs] at hj; subst hj; exact hd.c0
    | 1, _, hj => simp [EvV.cs] at hj; subst hj; exact hd.c1
    | 2, _, hj => simp [EvV.cs] at hj; subst hj; exact hd.c2
  · intro u hu
    simp [EvV.cs] at hu
    rcases hu with rfl | rfl | rfl <;> rfl
  · intro g cap w' h1 h2 h3 h4
    refine h g cap w' ?_ h2 h3 h4
    unfold Evo
    rw [List.length_append, List.flatMap_append]
    simpa using h1
end Go.Proofs.YtkejdkajfnaieaaGreatDoor

namespace Go.Proofs.YtkejdkajfnaieaaGreatDoor
open Go.RowKit
set_option linter.unusedVariables false

/-- what stays while units take. -/
structure TkS (ks : List KV) (Y Z : WV) (es : List EvV) (b1 b : Nat) (w : World) (u1 u2 u3 u4 u5 ev : Value) (V : World) : Prop where
  o1 : Ow V b1 u1 Z.gs
  o2 : Ow V b1 u2 Z.os
  o3 : Ow V b1 u3 Z.gold
  o4 : Uno V b1 u4 Z.us
  o5 : Jbo V b1 u5 Z.qs
  e : Evo V b ev es
  d : [u1, u2, u3, u4, u5].Pairwise Dif
  fr : Fr (fun q => u2.ownBlock = some q ∨ u4.ownBlock = some q) w V
  k : TkK Y Z
  f : DFit ks Z
section
variable {ks : List KV} {Y Z : WV} {es : List EvV} {b1 b : Nat} {w : World} {u1 u2 u3 u4 u5 ev : Value} {V V' : World}
theorem TkS.below (h : TkS ks Y Z es b1 b w u1 u2 u3 u4 u5 ev V) (hb : Below V.heap.size V V') : TkS ks Y Z es b1 b w u1 u2 u3 u4 u5 ev V' :=
  ⟨h.o1.below hb, h.o2.below hb, h.o3.below hb, h.o4.below hb, h.o5.below hb, h.e.below hb, h.d, h.fr.trans (Fr.below hb), h.k, h.f⟩
theorem TkS.wl (h : TkS ks Y Z es b1 b w u1 u2 u3 u4 u5 ev V) : Wl V (.agg #[.int .i64 Y.turn, .int .i64 Y.next, .int .i64 Y.wide, .int .i64 Y.high, u1, u2, u3, u4, u5]) Z := by
  obtain ⟨a1, a2, a3, a4, -⟩ := h.k
  exact ⟨u1, u2, u3, u4, u5, by rw [a1, a2, a3, a4], h.o1.ro, h.o2.ro, h.o3.ro, h.o4.l, h.o5.l⟩
theorem TkS.difs (h : TkS ks Y Z es b1 b w u1 u2 u3 u4 u5 ev V) : (Dif u1 u2 ∧ Dif u1 u3 ∧ Dif u1 u4 ∧ Dif u1 u5) ∧ (Dif u2 u3 ∧ Dif u2 u4 ∧ Dif u2 u5) ∧ (Dif u3 u4 ∧ Dif u3 u5) ∧ Dif u4 u5 := by
  have := h.d
  simp only [List.pairwise_cons, List.mem_cons, List.not_mem_nil, or_false, forall_eq_or_imp, forall_eq] at this
  obtain ⟨⟨a1, a2, a3, a4⟩, ⟨b1, b2, b3⟩, ⟨c1, c2⟩, d1, -⟩ := this
  exact ⟨⟨a1, a2, a3, a4⟩, ⟨b1, b2, b3⟩, ⟨c1, c2⟩, d1⟩
theorem TkS.take {gu gs cu co i : Nat} {ur : List Value} {sr : Array Value} {u : UnV} {ev' : Value} (h : TkS ks Y Z es b1 b w u1 (.slice (some ⟨gs, 0, none⟩) Y.os.length co) u3 (.slice (some ⟨gu, 0, none⟩) Y.us.length cu) u5 ev V) (hwb : w.heap.size = b)
    (hl : ∀ x ∈ [u1, u3, u5], ∀ k, x.ownBlock = some k → k < b) (hgu : b1 ≤ gu) (c1 : Y.us.length ≤ cu) (c2 : cu ≤ maxLen) (c3 : Y.us.length * 8 + ur.length = cu * 8) (hgs : b1 ≤ gs) (d1 : Y.os.length ≤ co) (d2 : co ≤ maxLen) (d3 : Y.os.length + sr.size = co)
    (hu : Z.us[i]? = some u) (hy : 0 < yieldN ks Z u) (hub : Ub V' gu (takeW Z i u (yieldN ks Z u)).us ur) (hbk : Bk V' gs (takeW Z i u (yieldN ks Z u)).os sr) (he : Evo V' b ev' (es ++ [⟨4, u.id, yieldN ks Z u⟩])) (hf : Fr (fun q => q = gu ∨ q = gs ∨ ev.ownBlock = some q) V V') :
    TkS ks Y (takeW Z i u (yieldN ks Z u)) (es ++ [⟨4, u.id, yieldN ks Z u⟩]) b1 b w u1 (.slice (some ⟨gs, 0, none⟩) Y.os.length co) u3 (.slice (some ⟨gu, 0, none⟩) Y.us.length cu) u5 ev' V' := by
  obtain ⟨⟨d12, d13, d14, d15⟩, ⟨d23, d24, d25⟩, ⟨d34, d35⟩, d45⟩ := h.difs
  have owu : (Value.slice (some ⟨gu, 0, none⟩) Y.us.length cu).ownBlock = some gu := rfl
  have ows : (Value.slice (some ⟨gs, 0, none⟩) Y.os.length co).ownBlock = some gs := rfl
  have no : ∀ x ∈ [u1, u3, u5], Dif x (.slice (some ⟨gs, 0, none⟩) Y.os.length co) → Dif x (.slice (some ⟨gu, 0, none⟩) Y.us.length cu) → ∀ q, x.ownBlock = some q → ¬ (q = gu ∨ q = gs ∨ ev.ownBlock = some q) := fun x hx e2 e4 q hq hs => by
    rcases hs with e | e | e
    · exact e4 q hq (by rw [owu, e])
    · exact e2 q hq (by rw [ows, e])
    · have h8 := (h.e.block q e).1; have h9 := hl x hx q hq; omega
  have k' : TkK Y (takeW Z i u (yieldN ks Z u)) := by
    obtain ⟨a1, a2, a3, a4, a5, a6, a7, a8, a9⟩ := h.k
    exact ⟨a1, a2, a3, a4, a5, a6, a7, by simpa [takeW] using a8, by simpa [takeW] using a9⟩
  refine ⟨hf.own h.o1 (no u1 (by simp) d12 d14), ?_, hf.own h.o3 (no u3 (by simp) d23.symm d34), ?_, hf.own h.o5 (no u5 (by simp) d25.symm d45.symm), he, h.d, ?_, k', h.f.take hu hy⟩
  · have := hbk.ow (base := b1) (cap := co) hgs (by rw [k'.2.2.2.2.2.2.2.2]; exact d1) d2 (by rw [k'.2.2.2.2.2.2.2.2]; exact d3)
    rw [k'.2.2.2.2.2.2.2.2] at this
    exact this
  · have := hub.uno (base := b1) (cap := cu) hgu (by rw [k'.2.2.2.2.2.2.2.1]; exact c1) c2 (by rw [k'.2.2.2.2.2.2.2.1]; exact c3)
    rw [k'.2.2.2.2.2.2.2.1] at this
    exact this
  · refine ⟨hf.os.trans h.fr.os, hf.tape.trans h.fr.tape, hf.output.trans h.fr.output, Nat.le_trans h.fr.size hf.size, fun q hq hn => (hf.block q (Nat.lt_of_lt_of_le hq h.fr.size) (fun e => ?_)).trans (h.fr.block q hq hn)⟩
    rcases e with e | e | e
    · exact hn (.inr (by rw [owu, e]))
    · exact hn (.inl (by rw [ows, e]))
    · have := (h.e.block q e).1; omega
end
end Go.Proofs.YtkejdkajfnaieaaGreatDoor

namespace Go.Proofs.YtkejdkajfnaieaaGreatDoor
open Go.RowKit
set_option linter.unusedVariables false

def TkI (ks : List KV) (Y : WV) (z b1 : Nat) (w1 : World) (u1 u2 u3 u4 u5 ev j : Value) (V : World) : Prop := ∃ q : Nat, q ≤ Y.us.length ∧ j = .int .i64 (q : Nat) ∧ Wx V z (.int .i64 Y.turn) (.int .i64 Y.next) (.int .i64 Y.wide) (.int .i64 Y.high) u1 u2 u3 u4 u5 ∧ TkS ks Y (tk ks Y q).1 (tk ks Y q).2 b1 (z + 1) w1 u1 u2 u3 u4 u5 ev V
set_option maxRecDepth 100000 in
set_option maxHeartbeats 16000000 in
theorem take_any (vk : Value) (ks : List KV) (Y : WV) (u1 u2 u3 u4 u5 : Value) (b1 : Nat) (w0 w : World) (hk : Kl w0 vk ks) (hb0 : Below w0.heap.size w0 w) (h0b : w0.heap.size ≤ b1) (o1 : Ow w b1 u1 Y.gs) (o2 : Ow w b1 u2 Y.os) (o3 : Ow w b1 u3 Y.gold) (o4 : Uno w b1 u4 Y.us) (o5 : Jbo w b1 u5 Y.qs) (hd : [u1, u2, u3, u4, u5].Pairwise Dif) (hf : DFit ks Y) :
    Calls Tryz.prog 89 #[vk, .agg #[.int .i64 Y.turn, .int .i64 Y.next, .int .i64 Y.wide, .int .i64 Y.high, u1, u2, u3, u4, u5]] w fun e w' => ∃ ev, e = .returned ev ∧ TkS ks Y (tk ks Y Y.us.length).1 (tk ks Y Y.us.length).2 b1 w.heap.size w u1 u2 u3 u4 u5 ev w' := by
  have KB : Hid (Kl w0 vk ks ∧ Below w0.heap.size w0 w ∧ w0.heap.size ≤ b1) := ⟨hk, hb0, h0b⟩
  obtain ⟨pk, qk, rfl, ck1, ck2, kc⟩ := hk
  have T0 : Hid (TkS ks Y Y [] b1 w.heap.size w u1 u2 u3 u4 u5 (.slice none 0 0) w) := ⟨o1, o2, o3, o4, o5, Evo.nil _ _, hd, Fr.below (Below.refl _ _), ⟨rfl, rfl, rfl, rfl, rfl, rfl, rfl, rfl, rfl⟩, hf⟩
  have LW : Hid (∀ x ∈ [u1, u3, u5], ∀ k, x.ownBlock = some k → k < w.heap.size) := by
    intro x hx k hk
    simp only [List.mem_cons, List.not_mem_nil, or_false] at hx
    rcases hx with rfl | rfl | rfl
    · exact (o1.block k hk).2
    · exact (o3.block k hk).2
    · exact (o5.block k hk).2
  have L24 : Hid ((∀ k, u2.ownBlock = some k → b1 ≤ k ∧ k < w.heap.size) ∧ ∀ k, u4.ownBlock = some k → b1 ≤ k ∧ k < w.heap.size) := ⟨o2.block, o4.block⟩
  have ul : Y.us.length ≤ 40 := hf.ul
  obtain ⟨a1, h1, rfl⟩ := o1.len
  obtain ⟨a2, h2, rfl⟩ := o2.len
  obtain ⟨a3, h3, rfl⟩ := o3.len
  obtain ⟨a4, h4, rfl⟩ := o4.len
  obtain ⟨a5, h5, rfl⟩ := o5.len
  clear hb0 h0b kc o1 o2 o3 o4 o5 hd hf
  go_enter Tryz.func89, Tryz.ntmps89
  go_upto_region 2 with fail
  have BA : Hid (Below w.heap.size w (w.alloc (Obj.cells #[.int .i64 Y.turn, .int .i64 Y.next, .int .i64 Y.wide, .int .i64 Y.high, .slice a1 Y.gs.length h1, .slice a2 Y.os.length h2, .slice a3 Y.gold.length h3, .slice a4 Y.us.length h4, .slice a5 Y.qs.length h5] 29))) := (Below.refl _ _).alloc (Nat.le_refl _) _
  obtain ⟨z, hz⟩ : ∃ z, w.heap.size = z := ⟨_, rfl⟩
  have HZ : Hid (w.heap.size = z) := hz
  have X1 : Hid (Wx (w.alloc (Obj.cells #[.int .i64 Y.turn, .int .i64 Y.next, .int .i64 Y.wide, .int .i64 Y.high, .slice a1 Y.gs.length h1, .slice a2 Y.os.length h2, .slice a3 Y.gold.length h3, .slice a4 Y.us.length h4, .slice a5 Y.qs.length h5] 29)) z (.int .i64 Y.turn) (.int .i64 Y.next) (.int .i64 Y.wide) (.int .i64 Y.high) (.slice a1 Y.gs.length h1) (.slice a2 Y.os.length h2) (.slice a3 Y.gold.length h3) (.slice a4 Y.us.length h4) (.slice a5 Y.qs.length h5)) := Wx.new (w := w) _ _ _ _ _ _ _ _ _ hz
  have S1 : Hid ((w.alloc (Obj.cells #[.int .i64 Y.turn, .int .i64 Y.next, .int .i64 Y.wide, .int .i64 Y.high, .slice a1 Y.gs.length h1, .slice a2 Y.os.length h2, .slice a3 Y.gold.length h3, .slice a4 Y.us.length h4, .slice a5 Y.qs.length h5] 29)).heap.size = z + 1) := by unfold Hid; rw [← hz]; simp
  rw [hz]
  clear hz
  generalize w.alloc (Obj.cells #[.int .i64 Y.turn, .int .i64 Y.next, .int .i64 Y.wide, .int .i64 Y.high, .slice a1 Y.gs.length h1, .slice a2 Y.os.length h2, .slice a3 Y.gold.length h3, .slice a4 Y.us.length h4, .slice a5 Y.qs.length h5] 29) = w1 at *
  have T1 : Hid (TkS ks Y Y [] b1 (z + 1) w1 (.slice a1 Y.gs.length h1) (.slice a2 Y.os.length h2) (.slice a3 Y.gold.length h3) (.slice a4 Y.us.length h4) (.slice a5 Y.qs.length h5) (.slice none 0 0) w1) := by
    have h := T0.out.below BA.out
    exact ⟨h.o1, h.o2, h.o3, h.o4, h.o5, Evo.nil _ _, h.d, Fr.below (Below.refl _ _), h.k, h.f⟩
  clear T0
  obtain ⟨x0, x1, x2, x3, x4, x5, x6, x7, x8⟩ := X1.out.cells
  go_wp2_with fail
  clear x0 x1 x2 x3 x4 x5 x6 x7 x8
  go_loopw [5, 12] (fun ev j V => TkI ks Y z b1 w1 (.slice a1 Y.gs.length h1) (.slice a2 Y.os.length h2) (.slice a3 Y.gold.length h3) (.slice a4 Y.us.length h4) (.slice a5 Y.qs.length h5) ev j V) (fun _ j _ => Y.us.length - (intOf j).toNat)
  case atStart => exact ⟨0, Nat.zero_le _, rfl, X1.out, T1.out⟩
  case round =>
    obtain ⟨q, hq, rfl, hx, ht⟩ := hrel
    obtain ⟨Z, hZ⟩ : ∃ Z, (tk ks Y q).1 = Z := ⟨_, rfl⟩
    obtain ⟨es, hE⟩ : ∃ es, (tk ks Y q).2 = es := ⟨_, rfl⟩
    have HQ : Hid ((tk ks Y q).1 = Z ∧ (tk ks Y q).2 = es) := ⟨hZ, hE⟩
    have EL : Hid (es.length ≤ 40) := by have h9 := tk_evs (ks := ks) (Y := Y) q; rw [hE] at h9; unfold Hid; omega
    rw [hZ, hE] at ht
    clear hZ hE
    obtain ⟨ea, ec, rfl⟩ := ht.e.len
    have TQ : Hid (TkS ks Y Z es b1 (z + 1) w1 (.slice a1 Y.gs.length h1) (.slice a2 Y.os.length h2) (.slice a3 Y.gold.length h3) (.slice a4 Y.us.length h4) (.slice a5 Y.qs.length h5) (.slice ea es.length ec) wr) := ht
    have XQ : Hid (Wx wr z (.int .i64 Y.turn) (.int .i64 Y.next) (.int .i64 Y.wide) (.int .i64 Y.high) (.slice a1 Y.gs.length h1) (.slice a2 Y.os.length h2) (.slice a3 Y.gold.length h3) (.slice a4 Y.us.length h4) (.slice a5 Y.qs.length h5)) := hx
    clear hx ht
    by_cases hqn : q = Y.us.length
    · have FIN : Hid ((tk ks Y Y.us.length).1 = Z ∧ (tk ks Y Y.us.length).2 = es) := by rw [← hqn]; exact HQ.out
      subst hqn
      go_wp2
      go_ret
      refine ⟨_, rfl, ?_⟩
      rw [FIN.out.1, FIN.out.2]
      have h := TQ.out
      exact ⟨h.o1, h.o2, h.o3, h.o4, h.o5, h.e.mono (by have := HZ.out; omega), h.d, (Fr.below BA.out).trans h.fr, h.k, h.f⟩
    · have hql : q < Y.us.length := by omega
      have hqi : ((q : Nat) : Int) < (Y.us.length : Nat) := by omega
      have hzl : q < Z.us.length := by rw [TQ.out.k.2.2.2.2.2.2.2.1]; exact hql
      obtain ⟨u, hu⟩ : ∃ u, Z.us[q]? = some u := ⟨_, List.getElem?_eq_getElem hzl⟩
      obtain ⟨⟨kn, k, hkn, hkk, l1, l2, l3⟩, ⟨an, han, hal⟩, -⟩ := TQ.out.f.units u (List.mem_of_getElem? hu)
      obtain ⟨x, hx⟩ : ∃ x, Z.os[an]? = some x := ⟨_, List.getElem?_eq_getElem hal⟩
      have UU : Hid (Z.us[q]? = some u ∧ u.kind = (kn : Nat) ∧ ks[kn]? = some k ∧ u.at_ = (an : Nat) ∧ Z.os[an]? = some x) := ⟨hu, hkn, hkk, han, hx⟩
      have OX := TQ.out.f.ore hx
      have hali : ((an : Nat) : Int) < (Y.os.length : Nat) := by rw [← TQ.out.k.2.2.2.2.2.2.2.2]; omega
      obtain ⟨gu, cu, ur, e4, hgu, c1, c2, c3, hub⟩ : ∃ g cap rest, Value.slice a4 Y.us.length h4 = .slice (some ⟨g, 0, none⟩) Y.us.length cap ∧ b1 ≤ g ∧ Y.us.length ≤ cap ∧ cap ≤ maxLen ∧ Y.us.length * 8 + rest.length = cap * 8 ∧ Ub wr g Z.us rest := by
        rcases TQ.out.o4.ub with ⟨-, h⟩ | ⟨g, cap, rest, h⟩
        · rw [h] at hzl; simp at hzl
        · rw [TQ.out.k.2.2.2.2.2.2.2.1] at h; exact ⟨g, cap, rest, h⟩
      injection e4 with e41 e42 e43
      subst e41 e43
      obtain ⟨gs, co, sr, e2, hgs, d1, d2, d3, hbk⟩ : ∃ g cap rest, Value.slice a2 Y.os.length h2 = .slice (some ⟨g, 0, none⟩) Y.os.length cap ∧ b1 ≤ g ∧ Y.os.length ≤ cap ∧ cap ≤ maxLen ∧ Y.os.length + rest.size = cap ∧ Bk wr g Z.os rest := by
        rcases TQ.out.o2.bk with ⟨-, h⟩ | ⟨g, cap, rest, h⟩
        · rw [h] at hal; simp at hal
        · rw [TQ.out.k.2.2.2.2.2.2.2.2] at h; exact ⟨g, cap, rest, h⟩
      injection e2 with e21 e22 e23
      subst e21 e23
      have GB : Hid (b1 ≤ gu ∧ Y.us.length ≤ h4 ∧ h4 ≤ maxLen ∧ Y.us.length * 8 + ur.length = h4 * 8 ∧ b1 ≤ gs ∧ Y.os.length ≤ h2 ∧ h2 ≤ maxLen ∧ Y.os.length + sr.size = h2) := ⟨hgu, c1, c2, c3, hgs, d1, d2, d3⟩
      have UB : Hid (∀ V, Below wr.heap.size wr V → Ub V gu Z.us ur) := fun V hV => hub.below hV hub.lt
      have BB : Hid (∀ V, Below wr.heap.size wr V → Bk V gs Z.os sr) := fun V hV => hbk.below hV
      have GL : Hid (gu < z ∧ gs < z ∧ gu ≠ gs) := by
        rw [← HZ.out]
        refine ⟨(L24.out.2 gu rfl).2, (L24.out.1 gs rfl).2, fun e => TQ.out.difs.2.1.2.1 gs rfl (by rw [← e]; rfl)⟩
      have KV' : Hid (∀ V, Below wr.heap.size wr V → Kl V (.slice pk ks.length qk) ks) := fun V hV => by
        have b01 : Below w0.heap.size w0 w1 := KB.out.2.1.trans (BA.out.mono KB.out.2.1.size)
        have b1r : Below w0.heap.size w1 wr := TQ.out.fr.low b01.size (fun k hk => by
          rcases hk with hk | hk
          · have := (L24.out.1 k hk).1; have := KB.out.2.2; omega
          · have := (L24.out.2 k hk).1; have := KB.out.2.2; omega)
        exact KB.out.1.below ((b01.trans b1r).trans (hV.mono (b01.trans b1r).size))
      have CV : Hid (∀ V, Below wr.heap.size wr V → Wx V z (.int .i64 Y.turn) (.int .i64 Y.next) (.int .i64 Y.wide) (.int .i64 Y.high) (.slice a1 Y.gs.length h1) (.slice (some ⟨gs, 0, none⟩) Y.os.length h2) (.slice a3 Y.gold.length h3) (.slice (some ⟨gu, 0, none⟩) Y.us.length h4) (.slice a5 Y.qs.length h5) ∧ Unc V ⟨gu, q * 8, none⟩ u) := fun V hV => ⟨XQ.out.below hV XQ.out.lt, (UB.out V hV).unc UU.out.1⟩
      have D5 : Hid (Below wr.heap.size wr { wr with drawn := wr.drawn + 1 }) := (Below.refl _ _).drew
      have xq := XQ.out
      obtain ⟨x0, x1, x2, x3, x4, x5, x6, x7, x8⟩ := xq.cells
      clear xq hu hkn hkk han hx hal hzl hgu c1 c2 c3 hgs d1 d2 d3 hub hbk e42 e22
      go_upto_region 6 with fail
      clear x0 x1 x2 x3 x4 x5 x6 x7 x8
      refine wp_region_two [(true, 0), (true, 1), (true, 2), (true, 3), (true, 4), (false, 5)] [(false, 6)] (fun V => Wx V z (.int .i64 Y.turn) (.int .i64 Y.next) (.int .i64 Y.wide) (.int .i64 Y.high) (.slice a1 Y.gs.length h1) (.slice (some ⟨gs, 0, none⟩) Y.os.length h2) (.slice a3 Y.gold.length h3) (.slice (some ⟨gu, 0, none⟩) Y.us.length h4) (.slice a5 Y.qs.length h5) ∧ Unc V ⟨gu, q * 8, none⟩ u) (by kernel_rfl) (by kernel_rfl) (by kernel_rfl) (by decide +kernel) (by decide +kernel) (CV.out _ D5.out) ?_
      generalize ({ wr with drawn := wr.drawn + 1 } : World) = w6 at *
      refine headT_read rfl (.slice pk ks.length qk) (by go_simp) (fun V hV => by go_simp) ?_
      go_simp
      refine headT_read rfl (.agg #[.int .i64 Y.turn, .int .i64 Y.next, .int .i64 Y.wide, .int .i64 Y.high, .slice a1 Y.gs.length h1, .slice (some ⟨gs, 0, none⟩) Y.os.length h2, .slice a3 Y.gold.length h3, .slice (some ⟨gu, 0, none⟩) Y.us.length h4, .slice a5 Y.qs.length h5]) (by go_simp) (fun V hV => by obtain ⟨hX, hU⟩ := hV; obtain ⟨x0, x1, x2, x3, x4, x5, x6, x7, x8⟩ := hX.cells; obtain ⟨y0, y1, y2, y3, y4, y5, y6, y7⟩ := hU; go_simp) ?_
      go_simp
      refine headT_read rfl (.pointer (some ⟨gu, q * 8, none⟩)) (by go_simp) (fun V hV => by go_simp) ?_
      go_simp
      refine headT_read rfl (.pointer (some ⟨gu, q * 8, none⟩)) (by go_simp) (fun V hV => by obtain ⟨hX, hU⟩ := hV; obtain ⟨x0, x1, x2, x3, x4, x5, x6, x7, x8⟩ := hX.cells; obtain ⟨y0, y1, y2, y3, y4, y5, y6, y7⟩ := hU; go_simp) ?_
      go_simp
      refine headT_read rfl (.agg #[.int .i64 u.id, .int .i64 u.player, .int .i64 u.kind, .int .i64 u.at_, .int .i64 u.life, .int .i64 u.load, .int .i64 u.task, .int .i64 u.goal]) (by go_simp) (fun V hV => by obtain ⟨hX, hU⟩ := hV; obtain ⟨x0, x1, x2, x3, x4, x5, x6, x7, x8⟩ := hX.cells; obtain ⟨y0, y1, y2, y3, y4, y5, y6, y7⟩ := hU; go_simp) ?_
      go_simp
      refine headT_call rfl 136 #[.slice pk ks.length qk, .agg #[.int .i64 Y.turn, .int .i64 Y.next, .int .i64 Y.wide, .int .i64 Y.high, .slice a1 Y.gs.length h1, .slice (some ⟨gs, 0, none⟩) Y.os.length h2, .slice a3 Y.gold.length h3, .slice (some ⟨gu, 0, none⟩) Y.us.length h4, .slice a5 Y.qs.length h5], .agg #[.int .i64 u.id, .int .i64 u.player, .int .i64 u.kind, .int .i64 u.at_, .int .i64 u.life, .int .i64 u.load, .int .i64 u.task, .int .i64 u.goal]] (by go_simp) (by go_simp) ?_
      have T6 : Hid (TkS ks Y Z es b1 (z + 1) w1 (.slice a1 Y.gs.length h1) (.slice (some ⟨gs, 0, none⟩) Y.os.length h2) (.slice a3 Y.gold.length h3) (.slice (some ⟨gu, 0, none⟩) Y.us.length h4) (.slice a5 Y.qs.length h5) (.slice ea es.length ec) w6) := TQ.out.below D5.out
      refine Calls.mono (yield_any _ _ ks Z u kn an k x w6 (KV'.out _ D5.out) T6.out.wl UU.out.2.1 UU.out.2.2.1 UU.out.2.2.2.1 UU.out.2.2.2.2 l1 (by omega) (by omega) l3 OX) ?_
      rintro e w7 ⟨rfl, b7⟩
      have D7 : Hid (Below wr.heap.size wr w7) := D5.out.trans (b7.mono D5.out.size)
      refine ⟨_, rfl, CV.out _ D7.out, ?_⟩
      have EY := yield_le (ks := ks) (Y := Z) UU.out.2.1 UU.out.2.2.1 UU.out.2.2.2.1 UU.out.2.2.2.2
      obtain ⟨n, hn⟩ : ∃ n, yieldN ks Z u = n := ⟨_, rfl⟩
      have HN : Hid (yieldN ks Z u = n) := hn
      have nb : n ≤ 10 ∧ (0 < n → n ≤ x ∧ u.load + n ≤ k.n7) := by
        rw [hn] at EY
        split at EY
        · omega
        · omega
      rw [hn]
      clear b7 hn EY T6
      go_simp
      refine sched_value rfl (.int .i64 n) w7 (by go_simp) (by go_simp) trivial ?_
      go_simp
      unfold wpSched
      have T7 : Hid (TkS ks Y Z es b1 (z + 1) w1 (.slice a1 Y.gs.length h1) (.slice (some ⟨gs, 0, none⟩) Y.os.length h2) (.slice a3 Y.gold.length h3) (.slice (some ⟨gu, 0, none⟩) Y.us.length h4) (.slice a5 Y.qs.length h5) (.slice ea es.length ec) w7) := TQ.out.below D7.out
      have X7 : Hid (Wx w7 z (.int .i64 Y.turn) (.int .i64 Y.next) (.int .i64 Y.wide) (.int .i64 Y.high) (.slice a1 Y.gs.length h1) (.slice (some ⟨gs, 0, none⟩) Y.os.length h2) (.slice a3 Y.gold.length h3) (.slice (some ⟨gu, 0, none⟩) Y.us.length h4) (.slice a5 Y.qs.length h5)) := XQ.out.below D7.out XQ.out.lt
      by_cases hp : 0 < n
      · have NX : Hid (tk ks Y (q + 1) = (takeW Z q u n, es ++ [⟨4, u.id, n⟩])) := by
          have h9 := tk_yes (ks := ks) (Y := Y) (q := q) (u := u) (by rw [HQ.out.1]; exact UU.out.1) (by rw [HQ.out.1, HN.out]; exact hp)
          unfold Hid
          rw [h9, HQ.out.1, HQ.out.2, HN.out]
        have U7 := UB.out _ D7.out
        have B7 := BB.out _ D7.out
        obtain ⟨y0, y1, y2, y3, y4, y5, y6, y7⟩ := U7.unc UU.out.1
        have t5 := U7.thaw (q * 8 + 5)
        have wr1 : IntKind.i64.wrap (u.load + n) = u.load + n := by rw [IntKind.wrap_i64]; omega
        have U8 : Hid (Ub (w7.setCell ⟨gu, q * 8 + 5, none⟩ (.int .i64 (u.load + n))) gu (Z.us.set q (loadU u (u.load + n))) ur) := U7.set5 UU.out.1 _
        have K8 : Hid (Kp gu w7 (w7.setCell ⟨gu, q * 8 + 5, none⟩ (.int .i64 (u.load + n)))) := Kp.set _ _ _
        have B8 : Hid (Bk (w7.setCell ⟨gu, q * 8 + 5, none⟩ (.int .i64 (u.load + n))) gs Z.os sr) := B7.other (by have := GL.out.2.2; omega) _ _
        clear U7 B7
        go_upto_region 9 with fail
        clear y0 y1 y2 y3 y4 y5 y6 y7 t5 wr1
        generalize w7.setCell ⟨gu, q * 8 + 5, none⟩ (.int .i64 (u.load + n)) = w8 at *
        have F8 : Hid (Fr (fun q => q = gu) w7 w8) := Fr.kp K8.out rfl
        have X8 : Hid (Wx w8 z (.int .i64 Y.turn) (.int .i64 Y.next) (.int .i64 Y.wide) (.int .i64 Y.high) (.slice a1 Y.gs.length h1) (.slice (some ⟨gs, 0, none⟩) Y.os.length h2) (.slice a3 Y.gold.length h3) (.slice (some ⟨gu, 0, none⟩) Y.us.length h4) (.slice a5 Y.qs.length h5)) := F8.out.wx X7.out (by have := GL.out.1; omega)
        obtain ⟨y0, y1, y2, y3, y4, y5, y6, y7⟩ := U8.out.unc (i := q) (o := loadU u (u.load + n)) (by rw [List.getElem?_set_self (by have := (List.getElem?_eq_some_iff.1 UU.out.1).1; exact this)])
        have y3' : w8.cell? ⟨gu, q * 8 + 3, none⟩ = some (.int .i64 (an : Nat)) := by rw [← UU.out.2.2.2.1]; exact y3
        obtain ⟨x0, x1, x2, x3, x4, x5, x6, x7, x8⟩ := X8.out.cells
        have co := B8.out.cell UU.out.2.2.2.2
        have ts := B8.out.thaw an
        have wr2 : IntKind.i64.wrap (x - n) = x - n := by rw [IntKind.wrap_i64]; omega
        clear y0 y1 y2 y3 y4 y5 y6 y7
        go_region
        have K9 : Hid (Kp gs w8 (w8.setCell ⟨gs, an, none⟩ (.int .i64 (x - n))).drew) := (Kp.set _ _ _).trans (Kp.of (Below.refl _ _).drew)
        have B9 : Hid (Bk (w8.setCell ⟨gs, an, none⟩ (.int .i64 (x - n))).drew gs (Z.os.set an (x - n)) sr) := B8.out.set an _ (List.getElem?_eq_some_iff.1 UU.out.2.2.2.2).1
        clear x0 x1 x2 x3 x4 x5 x6 x7 x8 y3' co ts wr2
        generalize (w8.setCell ⟨gs, an, none⟩ (.int .i64 (x - n))).drew = w9 at *
        have F9 : Hid (Fr (fun q => q = gs) w8 w9) := Fr.kp K9.out rfl
        have X9 : Hid (Wx w9 z (.int .i64 Y.turn) (.int .i64 Y.next) (.int .i64 Y.wide) (.int .i64 Y.high) (.slice a1 Y.gs.length h1) (.slice (some ⟨gs, 0, none⟩) Y.os.length h2) (.slice a3 Y.gold.length h3) (.slice (some ⟨gu, 0, none⟩) Y.us.length h4) (.slice a5 Y.qs.length h5)) := F9.out.wx X8.out (by have := GL.out.2.1; omega)
        have U9 : Hid (Ub w9 gu (Z.us.set q (loadU u (u.load + n))) ur) := (F9.out.block gu U8.out.lt (by have := GL.out.2.2; omega)).trans U8.out
        have F79 : Hid (Fr (fun q => q = gu ∨ q = gs) w7 w9) := (F8.out.mono (fun k hk => .inl hk)).trans (F9.out.mono (fun k hk => .inr hk))
        have E9 : Hid (Evo w9 (z + 1) (.slice ea es.length ec) es) := F79.out.own T7.out.e (fun b hb e => by have h9 := (T7.out.e.block b hb).1; have h8 := GL.out; omega)
        obtain ⟨y0, y1, y2, y3, y4, y5, y6, y7⟩ := U9.out.unc (i := q) (o := loadU u (u.load + n)) (by rw [List.getElem?_set_self (by have := (List.getElem?_eq_some_iff.1 UU.out.1).1; exact this)])
        have y0' : w9.cell? ⟨gu, q * 8, none⟩ = some (.int .i64 u.id) := y0
        have OA : Hid (Evo (w9.alloc (Obj.cells #[.int .i64 4, .int .i64 u.id, .int .i64 n] 139)) (z + 1) (.slice ea es.length ec) es) := E9.out.alloc _
        have RC : Hid (Evc (w9.alloc (Obj.cells #[.int .i64 4, .int .i64 u.id, .int .i64 n] 139)) ⟨w9.heap.size, 0, none⟩ ⟨4, u.id, n⟩) := Evc.mk' (w := w9) ⟨4, u.id, n⟩ rfl
        have BE : Hid (Below w9.heap.size w9 (w9.alloc (Obj.cells #[.int .i64 4, .int .i64 u.id, .int .i64 n] 139))) := (Below.refl _ _).alloc (Nat.le_refl _) _
        have SB : Hid (z + 1 ≤ (w9.alloc (Obj.cells #[.int .i64 4, .int .i64 u.id, .int .i64 n] 139)).heap.size) := Nat.le_trans X9.out.lt BE.out.size
        clear y0 y1 y2 y3 y4 y5 y6 y7
        go_wp2_with (at_builtin; refine app_ev _ rfl _ _ rfl (z + 1) _ es rfl OA.out w9.heap.size ⟨4, u.id, n⟩ rfl RC.out (by have := EL.out; omega) SB.out ?_)
        intro g cap wE o8 g8 a8 l8
        have EO : Hid (Evo wE (z + 1) (.slice (some ⟨g, 0, none⟩) (es.length + 1) cap) (es ++ [⟨4, u.id, n⟩])) := o8
        have FE : Hid (Fr (fun q => (.slice ea es.length ec : Value).ownBlock = some q) w9 wE) := (Fr.below BE.out).trans (Fr.gb g8 (fun k hk => hk))
        have FA : Hid (Fr (fun q => q = gu ∨ q = gs ∨ (.slice ea es.length ec : Value).ownBlock = some q) w7 wE) := (F79.out.mono (fun k hk => by rcases hk with h | h; exact .inl h; exact .inr (.inl h))).trans (FE.out.mono (fun k hk => .inr (.inr hk)))
        have NE : Hid (∀ k, k ≤ z → ¬ (.slice ea es.length ec : Value).ownBlock = some k) := fun k hk e => by have := (E9.out.block k e).1; omega
        have UE : Hid (Ub wE gu (Z.us.set q (loadU u (u.load + n))) ur) := (FE.out.block gu U9.out.lt (NE.out gu (by have := GL.out.1; omega))).trans U9.out
        have BK : Hid (Bk wE gs (Z.os.set an (x - n)) sr) := (FE.out.block gs B9.out.lt (NE.out gs (by have := GL.out.2.1; omega))).trans B9.out
        have XE : Hid (Wx wE z (.int .i64 Y.turn) (.int .i64 Y.next) (.int .i64 Y.wide) (.int .i64 Y.high) (.slice a1 Y.gs.length h1) (.slice (some ⟨gs, 0, none⟩) Y.os.length h2) (.slice a3 Y.gold.length h3) (.slice (some ⟨gu, 0, none⟩) Y.us.length h4) (.slice a5 Y.qs.length h5)) := FE.out.wx X9.out (NE.out z (Nat.le_refl _))
        have EW : Hid ((takeW Z q u n).os = Z.os.set an (x - n)) := by
          unfold Hid takeW
          simp only [UU.out.2.2.2.1, Int.toNat_natCast, List.getD_eq_getElem?_getD, UU.out.2.2.2.2, Option.getD_some]
        have TE : Hid (TkS ks Y (takeW Z q u n) (es ++ [⟨4, u.id, n⟩]) b1 (z + 1) w1 (.slice a1 Y.gs.length h1) (.slice (some ⟨gs, 0, none⟩) Y.os.length h2) (.slice a3 Y.gold.length h3) (.slice (some ⟨gu, 0, none⟩) Y.us.length h4) (.slice a5 Y.qs.length h5) (.slice (some ⟨g, 0, none⟩) (es.length + 1) cap) wE) := by
          have h9 := T7.out.take (V' := wE) (i := q) (u := u) (ur := ur) (sr := sr) (ev' := .slice (some ⟨g, 0, none⟩) (es.length + 1) cap) S1.out (fun y hy k hk => by have := LW.out y hy k hk; have := HZ.out; omega) GB.out.1 GB.out.2.1 GB.out.2.2.1 GB.out.2.2.2.1 GB.out.2.2.2.2.1 GB.out.2.2.2.2.2.1 GB.out.2.2.2.2.2.2.1 GB.out.2.2.2.2.2.2.2 UU.out.1 (by rw [HN.out]; exact hp) (by rw [HN.out]; exact UE.out) (by rw [HN.out, EW.out]; exact BK.out) (by rw [HN.out]; exact EO.out) FA.out
          rw [HN.out] at h9
          exact h9
        clear o8 g8 a8 l8 y0'
        go_wp2
        go_round
        case rel => exact ⟨q + 1, by omega, by go_num, XE.out, by rw [NX.out]; exact TE.out⟩
        case measure => simp [intOf]; omega
      · have NX : Hid (tk ks Y (q + 1) = (Z, es)) := by
          have h9 := tk_no (ks := ks) (Y := Y) (q := q) (u := u) (by rw [HQ.out.1]; exact UU.out.1) (by rw [HQ.out.1, HN.out]; exact hp)
          unfold Hid
          rw [h9, ← HQ.out.1, ← HQ.out.2]
        go_wp2
        go_round
        case rel => exact ⟨q + 1, by omega, by go_num, X7.out, by rw [NX.out]; exact T7.out⟩
        case measure => simp [intOf]; omega
end Go.Proofs.YtkejdkajfnaieaaGreatDoor

namespace Go.Proofs.YtkejdkajfnaieaaGreatDoor
open Go.RowKit
set_option linter.unusedVariables false

set_option maxHeartbeats 1000000 in
theorem idxi_any (u : Value) (v : Int) (xs : List Int) (w : World) (hu : Ro w u xs) :
    Calls Tryz.prog 210 #[u, .int .i64 v] w fun e w' => ∃ r : Int, e = .returned (.int .i64 r) ∧ Fst (fun x => decide (v = x)) xs r ∧ w' = w := by
  obtain ⟨a, c, rfl, c1, c2, ca⟩ := hu
  have Ca : Hid (Cells w a xs) := ca
  clear ca
  go_enter Tryz.func210, Tryz.ntmps210
  go_wp2
  go_loopw [8] (fun i W' => ∃ k : Nat, k ≤ xs.length ∧ i = .int .i64 (k : Nat) ∧ (xs.take k).any (fun x => decide (v = x)) = false ∧ W' = w) (fun i _ => xs.length - (intOf i).toNat)
  case atStart => exact ⟨0, Nat.zero_le _, rfl, by simp, rfl⟩
  case round =>
    obtain ⟨k, hk, rfl, ht, rfl⟩ := hrel
    have Ht : Hid ((xs.take k).any (fun x => decide (v = x)) = false) := ht
    clear ht
    by_cases h0 : k = xs.length
    · subst h0
      go_wp2
      go_ret
      refine ⟨_, rfl, .inl ⟨rfl, ?_⟩, rfl⟩
      have := Ht.out
      rw [List.take_of_length_le (Nat.le_refl _)] at this
      exact this
    · have hkx : k < xs.length := by omega
      obtain ⟨x, rfl, -, hx⟩ := Ca.out (by intro h; rw [h] at hkx; simp at hkx)
      have cx := hx k xs[k] (List.getElem?_eq_getElem hkx)
      have Hs : Hid _ := any_next (p := fun x => decide (v = x)) hkx
      have Hm : Hid (xs[k]? = some xs[k]) := List.getElem?_eq_getElem hkx
      generalize xs[k] = y at *
      clear hx
      by_cases hy : v = y
      · have Hy : Hid (decide (v = y) = true) := decide_eq_true hy
        go_wp2
        go_ret
        exact ⟨_, rfl, .inr ⟨k, y, rfl, Hm, Hy, Ht⟩, rfl⟩
      · have Hy : Hid (decide (v = y) = false) := decide_eq_false hy
        go_wp2
        go_round
        case rel => exact ⟨k + 1, by omega, by go_num, by have := Hs.out; rw [Ht.out, Hy.out] at this; exact this, trivial⟩
        case measure => simp [intOf]; omega
set_option maxHeartbeats 1000000 in
theorem hasi_any (u : Value) (v : Int) (xs : List Int) (w : World) (hu : Ro w u xs) :
    Calls Tryz.prog 176 #[u, .int .i64 v] w fun e w' => e = .returned (.bool (xs.any (fun x => decide (v = x)))) ∧ w' = w := by
  have H : Hid _ := idxi_any u v xs w hu
  obtain ⟨a, c, rfl, -⟩ := hu
  go_enter Tryz.func176, Tryz.ntmps176
  go_wp2_with fail
  refine Calls.mono H.out ?_
  rintro e w1 ⟨r, rfl, hr, rfl⟩
  have Hr : Hid (decide (0 ≤ r) = xs.any (fun x => decide (v = x))) := hr.has
  clear hr
  go_wp2
  go_ret
  exact ⟨by show Ending.returned (.bool (decide (0 ≤ r))) = _; rw [Hr.out], rfl⟩
end Go.Proofs.YtkejdkajfnaieaaGreatDoor

namespace Go.Proofs.YtkejdkajfnaieaaGreatDoor
open Go.RowKit
set_option linter.unusedVariables false

set_option maxHeartbeats 2000000 in
theorem idxm_any (K : Nat) (eK : ∀ args w, (callFunc K args).run Tryz.prog w = .ok (.enter K args) w) (u : Value) (cs : Array Value) (ks : List UnV) (p : UnV → Bool) (w : World) (hu : Unl w u ks)
    (hp : ∀ W, Below w.heap.size w W → ∀ k ∈ ks, Calls Tryz.prog K (#[k.val] ++ cs) W fun e w' => e = .returned (.bool (p k)) ∧ Below W.heap.size W w') :
    Calls Tryz.prog 112 #[u, .func (Fn.func K) #[] cs] w fun e w' => ∃ r : Int, e = .returned (.int .i64 r) ∧ FstU p ks r ∧ Below w.heap.size w w' := by
  obtain ⟨a, c, rfl, c1, c2, ca⟩ := hu
  have Ca : Hid (ks ≠ [] → ∃ x, a = some x ∧ x.block < w.heap.size ∧ ∀ (i : Nat) k, ks[i]? = some k → Unc w (x.add (i * 8)) k) := ca
  have Hp : Hid (∀ W, Below w.heap.size w W → ∀ k ∈ ks, Calls Tryz.prog K (#[k.val] ++ cs) W fun e w' => e = .returned (.bool (p k)) ∧ Below W.heap.size W w') := hp
  clear ca hp
  go_enter Tryz.func112, Tryz.ntmps112
  go_wp2
  go_loopw [8] (fun i W' => ∃ k : Nat, k ≤ ks.length ∧ i = .int .i64 (k : Nat) ∧ (ks.take k).any p = false ∧ Below w.heap.size w W') (fun i _ => ks.length - (intOf i).toNat)
  case atStart => exact ⟨0, Nat.zero_le _, rfl, by simp, Below.refl _ _⟩
  case round =>
    obtain ⟨k, hk, rfl, ht, hb⟩ := hrel
    have Ht : Hid ((ks.take k).any p = false) := ht
    have B : Hid (Below w.heap.size w wr) := hb
    clear ht hb
    by_cases h0 : k = ks.length
    · subst h0
      go_wp2
      go_ret
      refine ⟨_, rfl, .inl ⟨rfl, ?_⟩, B⟩
      have := Ht.out
      rw [List.take_of_length_le (Nat.le_refl _)] at this
      exact this
    · have hkx : k < ks.length := by omega
      obtain ⟨x, rfl, hx1, hx⟩ := Ca.out (by intro h; rw [h] at hkx; simp at hkx)
      obtain ⟨y, hy⟩ : ∃ y, ks[k]? = some y := ⟨_, List.getElem?_eq_getElem hkx⟩
      have Yc := (hx k y hy).below B.out (by rw [add_block]; exact hx1)
      obtain ⟨q0, q1, q2, q3, q4, q5, q6, q7⟩ := Yc
      have hc := Hp.out wr B.out y (List.mem_of_getElem? hy)
      have Hs : Hid _ := anyu_next (p := p) hy
      have Hm : Hid (ks[k]? = some y) := hy
      clear hx hx1 hy
      cases hy : p y with
      | true =>
        rw [hy] at hc
        have Hc : Hid (Calls Tryz.prog K (#[y.val] ++ cs) wr fun e w' => e = .returned (.bool true) ∧ Below wr.heap.size wr w') := hc
        have Hy : Hid (p y = true) := hy
        clear hc hy
        go_wp2_with fail
        refine Calls.mono Hc.out ?_
        rintro e w1 ⟨rfl, b1⟩
        have B1 : Hid (Below w.heap.size w w1) := B.out.trans (b1.mono B.out.size)
        clear b1
        go_wp2
        go_ret
        exact ⟨_, rfl, .inr ⟨k, y, rfl, Hm, Hy, Ht⟩, B1⟩
      | false =>
        rw [hy] at hc
        have Hc : Hid (Calls Tryz.prog K (#[y.val] ++ cs) wr fun e w' => e = .returned (.bool false) ∧ Below wr.heap.size wr w') := hc
        have Hy : Hid (p y = false) := hy
        clear hc hy
        go_wp2_with fail
        refine Calls.mono Hc.out ?_
        rintro e w1 ⟨rfl, b1⟩
        have B1 : Hid (Below w.heap.size w w1) := B.out.trans (b1.mono B.out.size)
        clear b1
        go_wp2
        go_round
        case rel => exact ⟨k + 1, by omega, by go_num, by have := Hs.out; rw [Ht.out, Hy.out] at this; exact this, B1⟩
        case measure => simp [intOf]; omega


end Go.Proofs.YtkejdkajfnaieaaGreatDoor

namespace Go.Proofs.YtkejdkajfnaieaaGreatDoor
open Go.RowKit
set_option linter.unusedVariables false

set_option maxHeartbeats 4000000 in
theorem hasq_any (K : Nat) (eK : ∀ args w, (callFunc K args).run Tryz.prog w = .ok (.enter K args) w) (u : Value) (cs : Array Value) (ks : List UnV) (p : UnV → Bool) (w : World) (hu : Unl w u ks)
    (hp : ∀ W, Below w.heap.size w W → ∀ k ∈ ks, Calls Tryz.prog K (#[k.val] ++ cs) W fun e w' => e = .returned (.bool (p k)) ∧ Below W.heap.size W w') :
    Calls Tryz.prog 96 #[u, .func (Fn.func K) #[] cs] w fun e w' => e = .returned (.bool (ks.any p)) ∧ Below w.heap.size w w' := by
  have H' : Hid (Calls Tryz.prog 112 #[u, .func (Fn.func K) #[] cs] w fun e w' => ∃ r : Int, e = .returned (.int .i64 r) ∧ FstU p ks r ∧ Below w.heap.size w w') := idxm_any K eK u cs ks p w hu hp
  clear hp
  go_enter Tryz.func96, Tryz.ntmps96
  go_wp2_with fail
  refine Calls.mono H'.out ?_
  rintro e w1 ⟨r, rfl, hr, q⟩
  have Hr : Hid (decide (0 ≤ r) = ks.any p) := hr.has
  have Q : Hid (Below w.heap.size w w1) := q
  clear hr q
  go_wp2
  go_ret
  exact ⟨by show Ending.returned (.bool (decide (0 ≤ r))) = _; rw [Hr.out], Q⟩

end Go.Proofs.YtkejdkajfnaieaaGreatDoor

namespace Go.Proofs.YtkejdkajfnaieaaGreatDoor
open Go.RowKit
set_option linter.unusedVariables false

def trainsOf (ks : List KV) (h : UnV) : Bool := match ks[h.kind.toNat]? with | some k => k.t | none => false
/-- does h take in what u brings? -/
def takesIn (ks : List KV) (near : List Int) (u h : UnV) : Bool := decide (h.player = u.player) && (trainsOf ks h && near.any (fun x => decide (h.at_ = x)))
set_option maxRecDepth 100000 in
set_option maxHeartbeats 8000000 in
theorem takesin_fn (ks : List KV) (near : List Int) (u h : UnV) (kn : Nat) (k : KV) (bu bk bn : Nat) (xk : Addr) (qk : Nat) (vn : Value) (W : World) (hkn : h.kind = kn) (hkk : ks[kn]? = some k)
    (c1 : W.cell? ⟨bu, 1, none⟩ = some (.int .i64 u.player)) (c2 : W.cell? ⟨bk, 0, none⟩ = some (.slice (some xk) ks.length qk)) (c3 : W.cell? ⟨bn, 0, none⟩ = some vn) (hK : Kc W (xk.add (kn * 11)) k) (hn : Ro W vn near) :
    Calls Tryz.prog 175 (#[h.val] ++ #[.pointer (some ⟨bu, 0, none⟩), .pointer (some ⟨bk, 0, none⟩), .pointer (some ⟨bn, 0, none⟩)]) W fun e w' => e = .returned (.bool (takesIn ks near u h)) ∧ Below W.heap.size W w' := by
  have TO : Hid (trainsOf ks h = k.t) := by unfold Hid trainsOf; rw [hkn, Int.toNat_natCast]; simp only [hkk]
  have hkl : kn < ks.length := (List.getElem?_eq_some_iff.1 hkk).1
  have hki : ((kn : Nat) : Int) < (ks.length : Nat) := by omega
  have HK : Hid (h.kind = (kn : Nat)) := hkn
  have RN : Hid (Ro W vn near) := hn
  have CC : Hid (W.cell? ⟨bu, 1, none⟩ = some (.int .i64 u.player) ∧ W.cell? ⟨bk, 0, none⟩ = some (.slice (some xk) ks.length qk) ∧ W.cell? ⟨bn, 0, none⟩ = some vn ∧ Kc W (xk.add (kn * 11)) k) := ⟨c1, c2, c3, hK⟩
  obtain ⟨na, nc, rfl, -⟩ := hn
  clear hkn hkk c1 c2 c3 hK
  unfold UnV.val
  go_enter Tryz.func175, Tryz.ntmps175
  go_upto_region 1 with fail
  have BA : Hid (Below W.heap.size W (W.alloc (Obj.cells #[.int .i64 h.id, .int .i64 h.player, .int .i64 h.kind, .int .i64 h.at_, .int .i64 h.life, .int .i64 h.load, .int .i64 h.task, .int .i64 h.goal] 42))) := (Below.refl _ _).alloc (Nat.le_refl _) _
  have U1 : Hid (Ub (W.alloc (Obj.cells #[.int .i64 h.id, .int .i64 h.player, .int .i64 h.kind, .int .i64 h.at_, .int .i64 h.life, .int .i64 h.load, .int .i64 h.task, .int .i64 h.goal] 42)) W.heap.size [h] []) := unit_one h rfl
  obtain ⟨y, hy⟩ : ∃ y, W.heap.size = y := ⟨_, rfl⟩
  rw [hy] at U1 ⊢
  have HY : Hid (W.heap.size = y) := hy
  clear hy
  generalize W.alloc (Obj.cells #[.int .i64 h.id, .int .i64 h.player, .int .i64 h.kind, .int .i64 h.at_, .int .i64 h.life, .int .i64 h.load, .int .i64 h.task, .int .i64 h.goal] 42) = w1 at *
  have e1 : w1.cell? ⟨bu, 1, none⟩ = some (.int .i64 u.player) := by rw [BA.out.cell (p := ⟨bu, 1, none⟩) (cell_lt CC.out.1)]; exact CC.out.1
  have e2 : w1.cell? ⟨bk, 0, none⟩ = some (.slice (some xk) ks.length qk) := by rw [BA.out.cell (p := ⟨bk, 0, none⟩) (cell_lt CC.out.2.1)]; exact CC.out.2.1
  have e3 : w1.cell? ⟨bn, 0, none⟩ = some (.slice na near.length nc) := by rw [BA.out.cell (p := ⟨bn, 0, none⟩) (cell_lt CC.out.2.2.1)]; exact CC.out.2.2.1
  have k10 := (CC.out.2.2.2.below BA.out CC.out.2.2.2.lt).c10
  obtain ⟨y0, y1, y2, y3, y4, y5, y6, y7⟩ := U1.out.unc (i := 0) (o := h) rfl
  simp only [Nat.zero_mul, Nat.zero_add] at y0 y1 y2 y3 y4 y5 y6 y7
  rw [HK.out] at y2
  by_cases hp : h.player = u.player
  · have PD : Hid (decide (h.player = u.player) = true) := decide_eq_true hp
    rw [hp] at y1
    clear hp
    cases hkt : k.t with
    | false =>
      rw [hkt] at k10
      have E : Hid (takesIn ks near u h = false) := by unfold Hid takesIn; rw [TO.out, hkt]; simp
      clear hkt
      go_wp2
      go_ret
      exact ⟨by rw [E.out]; rfl, BA.out⟩
    | true =>
      rw [hkt] at k10
      have E : Hid (takesIn ks near u h = near.any (fun x => decide (h.at_ = x))) := by unfold Hid takesIn; rw [TO.out, hkt, PD.out]; simp
      clear hkt
      go_wp2_with fail
      refine (hasi_any _ h.at_ near w1 (RN.out.below BA.out)).mono ?_
      rintro e w2 ⟨rfl, rfl⟩
      go_wp2
      go_ret
      exact ⟨by rw [E.out]; rfl, BA.out⟩
  · have E : Hid (takesIn ks near u h = false) := by unfold Hid takesIn; rw [decide_eq_false hp]; simp
    go_wp2
    go_ret
    exact ⟨by rw [E.out]; rfl, BA.out⟩
end Go.Proofs.YtkejdkajfnaieaaGreatDoor

namespace Go.Proofs.YtkejdkajfnaieaaGreatDoor
open Go.RowKit
set_option linter.unusedVariables false

set_option maxHeartbeats 1000000 in
theorem Near_bad (v : Value) (W H : Int) (gs os : List Int) (a F : Int) (w : World) (h : Fl w v W H gs os) (hF : Fd.askFault (Fd.fault W H gs os) gs.length [a] = F) (h0 : F ≠ 0) :
    Calls Tryz.prog 174 #[v, .int .i64 a] w fun e w' => e = .returned (.tuple #[.slice none 0 0, .iface 97 (.int .i64 F)]) ∧ Below w.heap.size w w' := by
  have F0 : Hid (Fl w v W H gs os) := h
  have HF : Hid (Fd.askFault (Fd.fault W H gs os) gs.length [a] = F) := hF
  have H0 : Hid (F ≠ 0) := h0
  obtain ⟨u1, u2, rfl, ⟨a1, c, rfl, c1, c2, ca⟩, ⟨b1, d, rfl, d1, d2, cb⟩⟩ := h
  clear hF h0 ca cb
  go_enter Tryz.func174, Tryz.ntmps174
  go_wp2_with fail
  refine (ask_any _ _ W H gs os [a] _ (F0.out.below (((Below.refl _ _).alloc (Nat.le_refl _) _).alloc (by simp) _)) (Ro.lit1 (w := w.alloc _) a (by simp))).mono ?_
  rintro e w1 ⟨v1, rfl, hv, hb⟩
  have B1 : Hid (Below w.heap.size w w1) := (((Below.refl _ _).alloc (Nat.le_refl _) _).alloc (by simp) _).trans (hb.mono (by simp; omega))
  rw [HF.out] at hv
  clear hb
  rcases hv with ⟨hz, rfl⟩ | ⟨hz, rfl⟩
  · exact absurd hz H0.out
  · clear hz
    go_wp2
    go_ret2
    exact ⟨rfl, B1⟩

set_option maxHeartbeats 1000000 in
theorem Near_ok (v : Value) (W H : Nat) (gs os : List Int) (a : Nat) (w : World) (h : Fl w v W H gs os) (G : Fd.Good W H gs os) (ha : a < W * H) (hs : Sd w) :
    Calls Tryz.prog 174 #[v, .int .i64 (a : Nat)] w fun e w' => ∃ u, e = .returned (.tuple #[u, .nilIface]) ∧ Ro w' u (Fd.near W H a) ∧ Below w.heap.size w w' := by
  have F0 : Hid (Fl w v W H gs os) := h
  have S0 : Hid (Sd w) := hs
  have G0 : Hid (Fd.Good W H gs os) := G
  have HF : Hid (Fd.askFault (Fd.fault W H gs os) gs.length [(a : Int)] = 0) := ask1_good G ha
  obtain ⟨u1, u2, rfl, ⟨a1, c, rfl, c1, c2, ca⟩, ⟨b1, d, rfl, d1, d2, cb⟩⟩ := h
  have Ha : Hid (a < W * H) := ha
  clear hs ca cb G ha
  go_enter Tryz.func174, Tryz.ntmps174
  go_wp2_with fail
  refine (ask_any _ _ W H gs os [(a : Int)] _ (F0.out.below (((Below.refl _ _).alloc (Nat.le_refl _) _).alloc (by simp) _)) (Ro.lit1 (w := w.alloc _) a (by simp))).mono ?_
  rintro e w1 ⟨v1, rfl, hv, hb⟩
  have B1 : Hid (Below w.heap.size w w1) := (((Below.refl _ _).alloc (Nat.le_refl _) _).alloc (by simp) _).trans (hb.mono (by simp; omega))
  have X1 : Hid (Bf w1 w.heap.size W H (Value.slice a1 gs.length c) (Value.slice b1 os.length d)) := ((Bf.mk' (w := w) W H (Value.slice a1 gs.length c) (Value.slice b1 os.length d) rfl).below ((Below.refl _ _).alloc (Nat.le_refl _) (Obj.cells #[Value.int IntKind.i64 a] 3)) (by simp)).below hb (by simp; omega)
  rw [HF.out] at hv
  clear hb
  rcases hv with ⟨hz, rfl⟩ | ⟨hz, rfl⟩
  · clear hz
    obtain ⟨x0, x1, x2, x3⟩ := X1.out
    go_wp2_with fail
    refine (near_own _ W H gs os a _ (F0.out.below B1.out) G0.out Ha.out (S0.out.below B1.out)).mono ?_
    rintro e w2 ⟨u, rfl, hu, hb2⟩
    have U2 : Hid (Ro w2 u (Fd.near W H a)) := hu.ro
    have B2 : Hid (Below w.heap.size w w2) := B1.out.trans (hb2.mono B1.out.size)
    clear hu hb2 x0 x1 x2 x3
    go_wp2
    go_ret2
    exact ⟨_, rfl, U2.out, B2⟩
  · exact absurd rfl hz
end Go.Proofs.YtkejdkajfnaieaaGreatDoor

namespace Go.Proofs.YtkejdkajfnaieaaGreatDoor
open Go.RowKit
set_option linter.unusedVariables false

/-- is one that trains beside u? -/
def homeB (ks : List KV) (Wn Hn an : Nat) (Y : WV) (u : UnV) : Bool := Y.us.any (takesIn ks (Fd.near Wn Hn an) u)
set_option maxRecDepth 100000 in
set_option maxHeartbeats 8000000 in
theorem ishome_any (vk vw : Value) (ks : List KV) (Y : WV) (u : UnV) (Wn Hn an : Nat) (w : World) (hk : Kl w vk ks) (hw : Wl w vw Y) (hf : DFit ks Y) (e1 : Y.wide = (Wn : Nat)) (e2 : Y.high = (Hn : Nat)) (G : Fd.Good Wn Hn Y.gs Y.os) (ha : u.at_ = (an : Nat)) (hal : an < Wn * Hn) (hs : Sd w) :
    Calls Tryz.prog 137 #[vk, vw, u.val] w fun e w' => e = .returned (.bool (homeB ks Wn Hn an Y u)) ∧ Below w.heap.size w w' := by
  have K : Hid (Kl w vk ks) := hk
  have H : Hid (Wl w vw Y) := hw
  have NN : Hid (Y.wide = (Wn : Nat) ∧ Y.high = (Hn : Nat) ∧ Fd.Good Wn Hn Y.gs Y.os ∧ u.at_ = (an : Nat) ∧ an < Wn * Hn ∧ Sd w ∧ DFit ks Y) := ⟨e1, e2, G, ha, hal, hs, hf⟩
  obtain ⟨p1, q1, p2, q2, p3, q3, p4, q4, p5, q5, rfl⟩ := wl_shape9 hw
  obtain ⟨pk, qk, rfl, ck1, ck2, kc⟩ := hk
  clear hw kc hf e1 e2 G ha hal hs
  unfold UnV.val
  go_enter Tryz.func137, Tryz.ntmps137
  go_upto_region 1 with fail
  obtain ⟨z, hz⟩ : ∃ z, w.heap.size = z := ⟨_, rfl⟩
  have BA : Hid (Below w.heap.size w (w.alloc (Obj.cells #[.slice pk ks.length qk] 22))) := (Below.refl _ _).alloc (Nat.le_refl _) _
  have BB : Hid (Below (w.alloc (Obj.cells #[.slice pk ks.length qk] 22)).heap.size (w.alloc (Obj.cells #[.slice pk ks.length qk] 22)) ((w.alloc (Obj.cells #[.slice pk ks.length qk] 22)).alloc (Obj.cells #[.int .i64 Y.turn, .int .i64 Y.next, .int .i64 Y.wide, .int .i64 Y.high, .slice p1 Y.gs.length q1, .slice p2 Y.os.length q2, .slice p3 Y.gold.length q3, .slice p4 Y.us.length q4, .slice p5 Y.qs.length q5] 29))) := (Below.refl _ _).alloc (Nat.le_refl _) _
  have BC : Hid (Below ((w.alloc (Obj.cells #[.slice pk ks.length qk] 22)).alloc (Obj.cells #[.int .i64 Y.turn, .int .i64 Y.next, .int .i64 Y.wide, .int .i64 Y.high, .slice p1 Y.gs.length q1, .slice p2 Y.os.length q2, .slice p3 Y.gold.length q3, .slice p4 Y.us.length q4, .slice p5 Y.qs.length q5] 29)).heap.size ((w.alloc (Obj.cells #[.slice pk ks.length qk] 22)).alloc (Obj.cells #[.int .i64 Y.turn, .int .i64 Y.next, .int .i64 Y.wide, .int .i64 Y.high, .slice p1 Y.gs.length q1, .slice p2 Y.os.length q2, .slice p3 Y.gold.length q3, .slice p4 Y.us.length q4, .slice p5 Y.qs.length q5] 29)) (((w.alloc (Obj.cells #[.slice pk ks.length qk] 22)).alloc (Obj.cells #[.int .i64 Y.turn, .int .i64 Y.next, .int .i64 Y.wide, .int .i64 Y.high, .slice p1 Y.gs.length q1, .slice p2 Y.os.length q2, .slice p3 Y.gold.length q3, .slice p4 Y.us.length q4, .slice p5 Y.qs.length q5] 29)).alloc (Obj.cells #[.int .i64 u.id, .int .i64 u.player, .int .i64 u.kind, .int .i64 u.at_, .int .i64 u.life, .int .i64 u.load, .int .i64 u.task, .int .i64 u.goal] 42))) := (Below.refl _ _).alloc (Nat.le_refl _) _
  have B1 : Hid (Below w.heap.size w (((w.alloc (Obj.cells #[.slice pk ks.length qk] 22)).alloc (Obj.cells #[.int .i64 Y.turn, .int .i64 Y.next, .int .i64 Y.wide, .int .i64 Y.high, .slice p1 Y.gs.length q1, .slice p2 Y.os.length q2, .slice p3 Y.gold.length q3, .slice p4 Y.us.length q4, .slice p5 Y.qs.length q5] 29)).alloc (Obj.cells #[.int .i64 u.id, .int .i64 u.player, .int .i64 u.kind, .int .i64 u.at_, .int .i64 u.life, .int .i64 u.load, .int .i64 u.task, .int .i64 u.goal] 42))) := (BA.out.trans (BB.out.mono BA.out.size)).trans (BC.out.mono (Nat.le_trans BA.out.size BB.out.size))
  have CK : Hid ((((w.alloc (Obj.cells #[.slice pk ks.length qk] 22)).alloc (Obj.cells #[.int .i64 Y.turn, .int .i64 Y.next, .int .i64 Y.wide, .int .i64 Y.high, .slice p1 Y.gs.length q1, .slice p2 Y.os.length q2, .slice p3 Y.gold.length q3, .slice p4 Y.us.length q4, .slice p5 Y.qs.length q5] 29)).alloc (Obj.cells #[.int .i64 u.id, .int .i64 u.player, .int .i64 u.kind, .int .i64 u.at_, .int .i64 u.life, .int .i64 u.load, .int .i64 u.task, .int .i64 u.goal] 42)).cell? ⟨z, 0, none⟩ = some (.slice pk ks.length qk)) := by
    rw [← hz]
    have c0 : (w.alloc (Obj.cells #[.slice pk ks.length qk] 22)).cell? ⟨w.heap.size, 0, none⟩ = some (.slice pk ks.length qk) := by simp
    have l0 := cell_lt c0
    have c1 : ((w.alloc (Obj.cells #[.slice pk ks.length qk] 22)).alloc (Obj.cells #[.int .i64 Y.turn, .int .i64 Y.next, .int .i64 Y.wide, .int .i64 Y.high, .slice p1 Y.gs.length q1, .slice p2 Y.os.length q2, .slice p3 Y.gold.length q3, .slice p4 Y.us.length q4, .slice p5 Y.qs.length q5] 29)).cell? ⟨w.heap.size, 0, none⟩ = some (.slice pk ks.length qk) := by rw [BB.out.cell (p := ⟨w.heap.size, 0, none⟩) l0]; exact c0
    unfold Hid
    rw [BC.out.cell (p := ⟨w.heap.size, 0, none⟩) (cell_lt c1)]
    exact c1
  have X1 : Hid (Bw (((w.alloc (Obj.cells #[.slice pk ks.length qk] 22)).alloc (Obj.cells #[.int .i64 Y.turn, .int .i64 Y.next, .int .i64 Y.wide, .int .i64 Y.high, .slice p1 Y.gs.length q1, .slice p2 Y.os.length q2, .slice p3 Y.gold.length q3, .slice p4 Y.us.length q4, .slice p5 Y.qs.length q5] 29)).alloc (Obj.cells #[.int .i64 u.id, .int .i64 u.player, .int .i64 u.kind, .int .i64 u.at_, .int .i64 u.life, .int .i64 u.load, .int .i64 u.task, .int .i64 u.goal] 42)) (z + 1) Y (.slice p1 Y.gs.length q1) (.slice p2 Y.os.length q2) (.slice p3 Y.gold.length q3) (.slice p4 Y.us.length q4) (.slice p5 Y.qs.length q5)) := (Bw.mk' (w := (w.alloc (Obj.cells #[.slice pk ks.length qk] 22))) Y _ _ _ _ _ (by rw [← hz]; simp)).below BC.out (by rw [← hz]; simp)
  have U1 : Hid (Ub (((w.alloc (Obj.cells #[.slice pk ks.length qk] 22)).alloc (Obj.cells #[.int .i64 Y.turn, .int .i64 Y.next, .int .i64 Y.wide, .int .i64 Y.high, .slice p1 Y.gs.length q1, .slice p2 Y.os.length q2, .slice p3 Y.gold.length q3, .slice p4 Y.us.length q4, .slice p5 Y.qs.length q5] 29)).alloc (Obj.cells #[.int .i64 u.id, .int .i64 u.player, .int .i64 u.kind, .int .i64 u.at_, .int .i64 u.life, .int .i64 u.load, .int .i64 u.task, .int .i64 u.goal] 42)) (z + 2) [u] []) := unit_one u (by rw [← hz]; simp)
  rw [hz]
  clear BA BB BC hz
  generalize (((w.alloc (Obj.cells #[.slice pk ks.length qk] 22)).alloc (Obj.cells #[.int .i64 Y.turn, .int .i64 Y.next, .int .i64 Y.wide, .int .i64 Y.high, .slice p1 Y.gs.length q1, .slice p2 Y.os.length q2, .slice p3 Y.gold.length q3, .slice p4 Y.us.length q4, .slice p5 Y.qs.length q5] 29)).alloc (Obj.cells #[.int .i64 u.id, .int .i64 u.player, .int .i64 u.kind, .int .i64 u.at_, .int .i64 u.life, .int .i64 u.load, .int .i64 u.task, .int .i64 u.goal] 42)) = w1 at *
  obtain ⟨x0, x1, x2, x3, x4, x5, x6, x7, x8⟩ := X1.out
  obtain ⟨y0, y1, y2, y3, y4, y5, y6, y7⟩ := U1.out.unc (i := 0) (o := u) rfl
  simp only [Nat.zero_mul, Nat.zero_add] at y0 y1 y2 y3 y4 y5 y6 y7
  rw [NN.out.2.2.2.1] at y3
  go_wp2_with fail
  refine (Near_ok _ Wn Hn Y.gs Y.os an w1 ?_ NN.out.2.2.1 NN.out.2.2.2.2.1 (NN.out.2.2.2.2.2.1.below B1.out)).mono ?_
  · have h := fl_of (H.out.below B1.out)
    rw [← NN.out.1, ← NN.out.2.1]
    exact h
  rintro e w2 ⟨vn, rfl, hn, hb⟩
  have B2 : Hid (Below w.heap.size w w2) := B1.out.trans (hb.mono B1.out.size)
  have CK2 : Hid (w2.cell? ⟨z, 0, none⟩ = some (.slice pk ks.length qk)) := by unfold Hid; rw [hb.cell (p := ⟨z, 0, none⟩) (cell_lt CK.out)]; exact CK.out
  have X2 : Hid (Bw w2 (z + 1) Y (.slice p1 Y.gs.length q1) (.slice p2 Y.os.length q2) (.slice p3 Y.gold.length q3) (.slice p4 Y.us.length q4) (.slice p5 Y.qs.length q5)) := X1.out.below hb X1.out.lt
  have U2 : Hid (Ub w2 (z + 2) [u] []) := U1.out.below hb U1.out.lt
  have RN0 : Hid (Ro w2 vn (Fd.near Wn Hn an)) := hn
  obtain ⟨na, nc, rfl, -⟩ := hn
  clear hb x0 x1 x2 x3 x4 x5 x6 x7 x8 y0 y1 y2 y3 y4 y5 y6 y7 B1 CK X1 U1
  go_upto_region 3 with fail
  have BD : Hid (Below w2.heap.size w2 (w2.alloc (Obj.cells #[.slice na (Fd.near Wn Hn an).length nc] 23))) := (Below.refl _ _).alloc (Nat.le_refl _) _
  obtain ⟨bn, hbn⟩ : ∃ z, w2.heap.size = z := ⟨_, rfl⟩
  have CN : Hid ((w2.alloc (Obj.cells #[.slice na (Fd.near Wn Hn an).length nc] 23)).cell? ⟨bn, 0, none⟩ = some (.slice na (Fd.near Wn Hn an).length nc)) := by unfold Hid; rw [← hbn]; simp
  rw [hbn]
  clear hbn
  generalize (w2.alloc (Obj.cells #[.slice na (Fd.near Wn Hn an).length nc] 23)) = w3 at *
  have B3 : Hid (Below w.heap.size w w3) := B2.out.trans (BD.out.mono B2.out.size)
  have CK3 : Hid (w3.cell? ⟨z, 0, none⟩ = some (.slice pk ks.length qk)) := by unfold Hid; rw [BD.out.cell (p := ⟨z, 0, none⟩) (cell_lt CK2.out)]; exact CK2.out
  have X3 : Hid (Bw w3 (z + 1) Y (.slice p1 Y.gs.length q1) (.slice p2 Y.os.length q2) (.slice p3 Y.gold.length q3) (.slice p4 Y.us.length q4) (.slice p5 Y.qs.length q5)) := X2.out.below BD.out X2.out.lt
  have U3 : Hid (Ub w3 (z + 2) [u] []) := U2.out.below BD.out U2.out.lt
  have RN3 : Hid (Ro w3 (.slice na (Fd.near Wn Hn an).length nc) (Fd.near Wn Hn an)) := RN0.out.below BD.out
  have x7 := X3.out.c7
  clear BD B2 CK2 X2 U2 RN0
  go_wp2_with fail
  refine (hasq_any 175 (by intro args w; go_simp) _ #[.pointer (some ⟨z + 2, 0, none⟩), .pointer (some ⟨z, 0, none⟩), .pointer (some ⟨bn, 0, none⟩)] Y.us (takesIn ks (Fd.near Wn Hn an) u) w3 (H.out.below B3.out).slices.2.2.2.1 (fun W hW h hh => ?_)).mono ?_
  · obtain ⟨⟨kn, k, f1, f2, -⟩, -⟩ := NN.out.2.2.2.2.2.2.units h hh
    obtain ⟨xk, hxk, hl, hc⟩ : ∃ x, pk = some x ∧ x.block < w.heap.size ∧ ∀ (i : Nat) k, ks[i]? = some k → Kc w (x.add (i * 11)) k := by
      obtain ⟨a', c', e', -, -, hx⟩ := K.out
      injection e' with e1' e2' e3'
      subst e1'
      exact hx (by rintro hn; rw [hn] at f2; simp at f2)
    subst hxk
    have bW : Below w.heap.size w W := B3.out.trans (hW.mono B3.out.size)
    obtain ⟨-, y1, -⟩ := (U3.out.below hW U3.out.lt).unc (i := 0) (o := u) rfl
    simp only [Nat.zero_mul, Nat.zero_add] at y1
    exact takesin_fn ks _ u h kn k (z + 2) z bn xk qk _ W f1 f2 y1 (by rw [hW.cell (p := ⟨z, 0, none⟩) (cell_lt CK3.out)]; exact CK3.out) (by rw [hW.cell (p := ⟨bn, 0, none⟩) (cell_lt CN.out)]; exact CN.out) ((hc kn k f2).below bW (by rw [add_block]; exact hl)) (RN3.out.below hW)
  rintro e w4 ⟨rfl, hb⟩
  have B4 : Hid (Below w.heap.size w w4) := B3.out.trans (hb.mono B3.out.size)
  clear hb x7
  go_wp2
  go_ret
  exact ⟨rfl, ⟨B4.out.os, B4.out.tape, B4.out.output, B4.out.size, B4.out.block⟩⟩
end Go.Proofs.YtkejdkajfnaieaaGreatDoor

namespace Go.Proofs.YtkejdkajfnaieaaGreatDoor
open Go.RowKit
set_option linter.unusedVariables false

def bringW (Y : WV) (i : Nat) (u : UnV) : WV := { Y with us := Y.us.set i (loadU u 0), gold := Y.gold.set u.player.toNat (min (Y.gold.getD u.player.toNat 0 + u.load) 1000000) }
def brings (ks : List KV) (Wn Hn : Nat) (Y : WV) (u : UnV) : Bool := decide (0 < u.load) && homeB ks Wn Hn u.at_.toNat Y u
/-- the first q units have brought; what happened. -/
def br (ks : List KV) (Wn Hn : Nat) (Y : WV) : Nat → WV × List EvV
  | 0 => (Y, [])
  | q + 1 => match (br ks Wn Hn Y q).1.us[q]? with
    | none => br ks Wn Hn Y q
    | some u => if brings ks Wn Hn (br ks Wn Hn Y q).1 u = true then (bringW (br ks Wn Hn Y q).1 q u, (br ks Wn Hn Y q).2 ++ [⟨5, u.id, u.load⟩]) else br ks Wn Hn Y q
theorem br_yes {ks : List KV} {Wn Hn : Nat} {Y : WV} {q : Nat} {u : UnV} (hu : (br ks Wn Hn Y q).1.us[q]? = some u) (h : brings ks Wn Hn (br ks Wn Hn Y q).1 u = true) : br ks Wn Hn Y (q + 1) = (bringW (br ks Wn Hn Y q).1 q u, (br ks Wn Hn Y q).2 ++ [⟨5, u.id, u.load⟩]) := by
  rw [br]; simp only [hu]; rw [if_pos h]
theorem br_no {ks : List KV} {Wn Hn : Nat} {Y : WV} {q : Nat} {u : UnV} (hu : (br ks Wn Hn Y q).1.us[q]? = some u) (h : brings ks Wn Hn (br ks Wn Hn Y q).1 u = false) : br ks Wn Hn Y (q + 1) = br ks Wn Hn Y q := by
  rw [br]; simp only [hu]; rw [if_neg (by rw [h]; simp)]
theorem DFit.bring {ks : List KV} {Y : WV} (h : DFit ks Y) {i : Nat} {u : UnV} (hu : Y.us[i]? = some u) : DFit ks (bringW Y i u) := by
  obtain ⟨⟨kn, k, e1, e2, l1, l2, l3⟩, ⟨an, e3, hal⟩, pn, e4, hpl⟩ := h.units u (List.mem_of_getElem? hu)
  have hlen : (bringW Y i u).gold.length = Y.gold.length := by simp [bringW]
  refine ⟨h.wide, fun v hv => ?_, fun g hg => ?_, by simpa [bringW] using h.ul⟩
  · rw [hlen]
    rcases List.mem_or_eq_of_mem_set hv with hv | rfl
    · exact h.units v hv
    · exact ⟨⟨kn, k, e1, e2, by show (0 : Int) ≤ 0; omega, by show (0 : Int) ≤ k.n7; omega, l3⟩, ⟨an, e3, hal⟩, pn, e4, hpl⟩
  · rcases List.mem_or_eq_of_mem_set hg with hg | rfl
    · exact h.gold g hg
    · have : Y.gold.getD u.player.toNat 0 ∈ Y.gold := by
        rw [e4, Int.toNat_natCast, List.getD_eq_getElem?_getD, List.getElem?_eq_getElem hpl]
        exact List.getElem_mem hpl
      have := h.gold _ this
      omega
/-- what bringing leaves as it was. -/
def BrK (Y Z : WV) : Prop := Z.turn = Y.turn ∧ Z.next = Y.next ∧ Z.wide = Y.wide ∧ Z.high = Y.high ∧ Z.gs = Y.gs ∧ Z.os = Y.os ∧ Z.qs = Y.qs ∧ Z.us.length = Y.us.length ∧ Z.gold.length = Y.gold.length
theorem br_evs {ks : List KV} {Wn Hn : Nat} {Y : WV} : ∀ q, (br ks Wn Hn Y q).2.length ≤ q
  | 0 => by simp [br]
  | q + 1 => by
    have ih := br_evs (ks := ks) (Wn := Wn) (Hn := Hn) (Y := Y) q
    cases hu : (br ks Wn Hn Y q).1.us[q]? with
    | none => rw [br]; simp only [hu]; omega
    | some u =>
      cases h : brings ks Wn Hn (br ks Wn Hn Y q).1 u with
      | true => rw [br_yes hu h]; simp; omega
      | false => rw [br_no hu h]; omega
structure BrS (ks : List KV) (Y Z : WV) (es : List EvV) (b1 b : Nat) (w : World) (u1 u2 u3 u4 u5 ev : Value) (V : World) : Prop where
  o1 : Ow V b1 u1 Z.gs
  o2 : Ow V b1 u2 Z.os
  o3 : Ow V b1 u3 Z.gold
  o4 : Uno V b1 u4 Z.us
  o5 : Jbo V b1 u5 Z.qs
  e : Evo V b ev es
  d : [u1, u2, u3, u4, u5].Pairwise Dif
  fr : Fr (fun q => u3.ownBlock = some q ∨ u4.ownBlock = some q) w V
  k : BrK Y Z
  f : DFit ks Z
section
variable {ks : List KV} {Y Z : WV} {es : List EvV} {b1 b : Nat} {w : World} {u1 u2 u3 u4 u5 ev : Value} {V V' : World}
theorem BrS.below (h : BrS ks Y Z es b1 b w u1 u2 u3 u4 u5 ev V) (hb : Below V.heap.size V V') : BrS ks Y Z es b1 b w u1 u2 u3 u4 u5 ev V' :=
  ⟨h.o1.below hb, h.o2.below hb, h.o3.below hb, h.o4.below hb, h.o5.below hb, h.e.below hb, h.d, h.fr.trans (Fr.below hb), h.k, h.f⟩
theorem BrS.wl (h : BrS ks Y Z es b1 b w u1 u2 u3 u4 u5 ev V) : Wl V (.agg #[.int .i64 Y.turn, .int .i64 Y.next, .int .i64 Y.wide, .int .i64 Y.high, u1, u2, u3, u4, u5]) Z := by
  obtain ⟨a1, a2, a3, a4, -⟩ := h.k
  exact ⟨u1, u2, u3, u4, u5, by rw [a1, a2, a3, a4], h.o1.ro, h.o2.ro, h.o3.ro, h.o4.l, h.o5.l⟩
theorem BrS.difs (h : BrS ks Y Z es b1 b w u1 u2 u3 u4 u5 ev V) : (Dif u1 u2 ∧ Dif u1 u3 ∧ Dif u1 u4 ∧ Dif u1 u5) ∧ (Dif u2 u3 ∧ Dif u2 u4 ∧ Dif u2 u5) ∧ (Dif u3 u4 ∧ Dif u3 u5) ∧ Dif u4 u5 := by
  have := h.d
  simp only [List.pairwise_cons, List.mem_cons, List.not_mem_nil, or_false, forall_eq_or_imp, forall_eq] at this
  obtain ⟨⟨a1, a2, a3, a4⟩, ⟨b1, b2, b3⟩, ⟨c1, c2⟩, d1, -⟩ := this
  exact ⟨⟨a1, a2, a3, a4⟩, ⟨b1, b2, b3⟩, ⟨c1, c2⟩, d1⟩
theorem BrS.bring {gu gg cu cg i : Nat} {ur : List Value} {gr : Array Value} {u : UnV} {ev' : Value} (h : BrS ks Y Z es b1 b w u1 u2 (.slice (some ⟨gg, 0, none⟩) Y.gold.length cg) (.slice (some ⟨gu, 0, none⟩) Y.us.length cu) u5 ev V) (hwb : w.heap.size = b)
    (hl : ∀ x ∈ [u1, u2, u5], ∀ k, x.ownBlock = some k → k < b) (hgu : b1 ≤ gu) (c1 : Y.us.length ≤ cu) (c2 : cu ≤ maxLen) (c3 : Y.us.length * 8 + ur.length = cu * 8) (hgg : b1 ≤ gg) (d1 : Y.gold.length ≤ cg) (d2 : cg ≤ maxLen) (d3 : Y.gold.length + gr.size = cg)
    (hu : Z.us[i]? = some u) (hub : Ub V' gu (bringW Z i u).us ur) (hbk : Bk V' gg (bringW Z i u).gold gr) (he : Evo V' b ev' (es ++ [⟨5, u.id, u.load⟩])) (hf : Fr (fun q => q = gu ∨ q = gg ∨ ev.ownBlock = some q) V V') :
    BrS ks Y (bringW Z i u) (es ++ [⟨5, u.id, u.load⟩]) b1 b w u1 u2 (.slice (some ⟨gg, 0, none⟩) Y.gold.length cg) (.slice (some ⟨gu, 0, none⟩) Y.us.length cu) u5 ev' V' := by
  obtain ⟨⟨d12, d13, d14, d15⟩, ⟨d23, d24, d25⟩, ⟨d34, d35⟩, d45⟩ := h.difs
  have owu : (Value.slice (some ⟨gu, 0, none⟩) Y.us.length cu).ownBlock = some gu := rfl
  have owg : (Value.slice (some ⟨gg, 0, none⟩) Y.gold.length cg).ownBlock = some gg := rfl
  have no : ∀ x ∈ [u1, u2, u5], Dif x (.slice (some ⟨gg, 0, none⟩) Y.gold.length cg) → Dif x (.slice (some ⟨gu, 0, none⟩) Y.us.length cu) → ∀ q, x.ownBlock = some q → ¬ (q = gu ∨ q = gg ∨ ev.ownBlock = some q) := fun x hx e2 e4 q hq hs => by
    rcases hs with e | e | e
    · exact e4 q hq (by rw [owu, e])
    · exact e2 q hq (by rw [owg, e])
    · have h8 := (h.e.block q e).1; have h9 := hl x hx q hq; omega
  have k' : BrK Y (bringW Z i u) := by
    obtain ⟨a1, a2, a3, a4, a5, a6, a7, a8, a9⟩ := h.k
    exact ⟨a1, a2, a3, a4, a5, a6, a7, by simpa [bringW] using a8, by simpa [bringW] using a9⟩
  refine ⟨hf.own h.o1 (no u1 (by simp) d13 d14), hf.own h.o2 (no u2 (by simp) d23 d24), ?_, ?_, hf.own h.o5 (no u5 (by simp) d35.symm d45.symm), he, h.d, ?_, k', h.f.bring hu⟩
  · have := hbk.ow (base := b1) (cap := cg) hgg (by rw [k'.2.2.2.2.2.2.2.2]; exact d1) d2 (by rw [k'.2.2.2.2.2.2.2.2]; exact d3)
    rw [k'.2.2.2.2.2.2.2.2] at this
    exact this
  · have := hub.uno (base := b1) (cap := cu) hgu (by rw [k'.2.2.2.2.2.2.2.1]; exact c1) c2 (by rw [k'.2.2.2.2.2.2.2.1]; exact c3)
    rw [k'.2.2.2.2.2.2.2.1] at this
    exact this
  · refine ⟨hf.os.trans h.fr.os, hf.tape.trans h.fr.tape, hf.output.trans h.fr.output, Nat.le_trans h.fr.size hf.size, fun q hq hn => (hf.block q (Nat.lt_of_lt_of_le hq h.fr.size) (fun e => ?_)).trans (h.fr.block q hq hn)⟩
    rcases e with e | e | e
    · exact hn (.inr (by rw [owu, e]))
    · exact hn (.inl (by rw [owg, e]))
    · have := (h.e.block q e).1; omega
end
end Go.Proofs.YtkejdkajfnaieaaGreatDoor

namespace Go.Proofs.YtkejdkajfnaieaaGreatDoor
open Go.RowKit
set_option linter.unusedVariables false

theorem made_ints (n : Nat) : madeCells #[Value.int .i64 0] n = (intCells (List.replicate n 0)).toArray := by
  apply Array.ext_getElem?
  intro i
  unfold madeCells intCells
  by_cases h : i < n
  · simp [h, Nat.mod_one]
  · simp [h]
theorem makeI (n : Nat) (w : World) (h : n ≤ 1000000) : ∃ w', (Instr.makeSlice 23 (.int .i64 (n : Nat)) (.int .i64 (n : Nat))).run Tryz.prog w = .ok (.slice (some ⟨w.heap.size, 0, none⟩) n n) w' ∧ Bk w' w.heap.size (List.replicate n 0) #[] ∧ Below w.heap.size w w' ∧ w'.heap.size = w.heap.size + 1 := by
  obtain ⟨i0, hi, hz0, hz1, hz2⟩ := info_parts info_int
  have hr := run_make (P := Tryz.prog) w 23 3 i0 (.int .i64 0) Tryz.underlying23 hi hz0 .i64 .i64 (n : Nat) (n : Nat) (by omega) (Int.le_refl _) (by rw [hz2]; omega) (by omega)
  refine ⟨_, hr, ?_, (Below.refl _ _).alloc (Nat.le_refl _) _, by simp⟩
  unfold Bk
  rw [hz1, Int.toNat_natCast, Nat.mul_one, heap_alloc_new]
  have e : (Value.int .i64 0).cells = #[Value.int .i64 0] := rfl
  rw [e, made_ints, Array.append_empty]
end Go.Proofs.YtkejdkajfnaieaaGreatDoor

namespace Go.Proofs.YtkejdkajfnaieaaGreatDoor
open Go.RowKit
set_option linter.unusedVariables false

/-- one more event: the run itself. -/
theorem run_ev (w : World) (ty : TypeId) (base : Nat) (v : Value) (ks : List EvV) (hown : Evo w base v ks) (b : Nat) (d : EvV) (hd : Evc w ⟨b, 0, none⟩ d) (hl : ks.length ≤ 1000000) (hbase : base ≤ w.heap.size) :
    ∃ g cap w', (Builtin.append_ #[33, 33] ty #[v, .slice (some ⟨b, 0, none⟩) 1 1]).run Tryz.prog w = .ok (.slice (some ⟨g, 0, none⟩) (ks.length + 1) cap) w' ∧ Evo w' base (.slice (some ⟨g, 0, none⟩) (ks.length + 1) cap) (ks ++ [d]) ∧ w.grownBy w' v.ownBlock ∧ (v.ownBlock = some g ∨ g = w.heap.size) ∧ g < w'.heap.size := by
  obtain ⟨i0, hi, hz0, hz1, hz2⟩ := info_parts info_ev
  obtain ⟨g, cap, w6, hr, ho6, hg6, ha6, hl6⟩ := run_append_lies (P := Tryz.prog) w 33 33 base 139 i0 _ 3 24 Tryz.underlying33 hi hz0 hz1 hz2 rfl (by decide) v ks.length _ hown ⟨b, 0, none⟩ 1 1 (EvV.cs d) rfl (fun j u hj => by
    have hjn : j < 3 := (List.getElem?_eq_some_iff.1 hj).1
    rw [Addr.add_lit, Nat.zero_add]
    match j, hjn, hj with
    | 0, _, hj => simp [EvV.cs] at hj; subst hj; exact hd.c0
    | 1, _, hj => simp [EvV.cs] at hj; subst hj; exact hd.c1
    | 2, _, hj => simp [EvV.cs] at hj; subst hj; exact hd.c2) (fun u hu => by
    simp [EvV.cs] at hu
    rcases hu with rfl | rfl | rfl <;> rfl) (by decide) (by unfold maxLen; omega) (by omega) hbase _ rfl
  refine ⟨g, cap, w6, hr, ?_, hg6, ha6, hl6⟩
  unfold Evo
  rw [List.length_append, List.flatMap_append]
  simpa using ho6
end Go.Proofs.YtkejdkajfnaieaaGreatDoor

