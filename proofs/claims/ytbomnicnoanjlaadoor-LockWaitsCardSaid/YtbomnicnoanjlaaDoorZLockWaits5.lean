/- LockWaits: the walk. -/
import Derived.Test.YtbomnicnoanjlaaDoorZLockWaits4
import Derived.Deep.CutBlock
namespace Go.Proofs.YtbomnicnoanjlaaDoor.lockWaits
open Go.RowKit Go.Proofs.YtbomnicnoanjlaaDoor.So
set_option linter.unusedVariables false

theorem ints_like (u v : Value) (xs : List Int) (w : World) (hu : Ro w u xs) (hv : Ro w v xs) :
    Calls Tryd.prog 13 #[u, v] w fun e w' => e = .returned (.bool true) ∧ Below w.heap.size w w' :=
  (ints_any u v xs xs w hu hv).mono fun e w' ⟨h1, n, h2⟩ => ⟨by rw [h1, decide_eq_true rfl], by rw [h2]; exact ⟨rfl, rfl, rfl, Nat.le_refl _, fun _ _ => rfl⟩⟩
theorem send_ok {L : LoV} {p t : Int} {l : List OrV} (h : sendF L p t l = 0) : l.length ≤ 60 := by
  unfold sendF at h
  split at h
  · split at h
    · rename_i h1; exact (Od.faults_ok h1).1
    · rename_i h1; exact absurd h h1
  · rename_i h1; exact absurd h h1
/-- three numbers in a block. -/
def Bv (w : World) (b : Nat) (x y z : Int) : Prop := w.heap[b]? = some (.cells #[.int .i64 x, .int .i64 y, .int .i64 z] 35)
theorem Bv.cells {w : World} {b : Nat} {x y z : Int} (h : Bv w b x y z) : w.cell? ⟨b, 0, none⟩ = some (.int .i64 x) ∧ w.cell? ⟨b, 1, none⟩ = some (.int .i64 y) ∧ w.cell? ⟨b, 2, none⟩ = some (.int .i64 z) := by
  unfold Bv at h
  refine ⟨?_, ?_, ?_⟩ <;> simp [World.cell?, h]
theorem Bv.lt {w : World} {b : Nat} {x y z : Int} (h : Bv w b x y z) : b < w.heap.size := lt_of_block h
theorem Bv.below {w w' : World} {b B : Nat} {x y z : Int} (h : Bv w b x y z) (g : Below B w w') (hb : b < B) : Bv w' b x y z := by
  unfold Bv at *
  rw [g.block b hb]; exact h
/-- the first j of a list, then nothing. -/
def vv (xs : List Int) (j k : Nat) : Int := if k < j then xs.getD k 0 else 0
theorem Bv.set {w : World} {b j : Nat} {xs : List Int} (h : Bv w b (vv xs j 0) (vv xs j 1) (vv xs j 2)) (hj : j < 3) {x : Int} (hx : xs[j]? = some x) : Bv (w.setCell ⟨b, j, none⟩ (.int .i64 x)) b (vv xs (j + 1) 0) (vv xs (j + 1) 1) (vv xs (j + 1) 2) ∧ w.frozen? ⟨b, j, none⟩ = false ∧ ∃ u, w.cell? ⟨b, j, none⟩ = some u := by
  unfold Bv at *
  refine ⟨?_, by simp [World.frozen?, h], ?_⟩
  · rw [heap_setCell_same w b j _ _ _ h]
    match j, hj with
    | 0, _ => simp [vv, hx]
    | 1, _ => simp [vv, hx]
    | 2, _ => simp [vv, hx]
  · match j, hj with
    | 0, _ => exact ⟨_, by simp [World.cell?, h]; rfl⟩
    | 1, _ => exact ⟨_, by simp [World.cell?, h]; rfl⟩
    | 2, _ => exact ⟨_, by simp [World.cell?, h]; rfl⟩
theorem vv_wf {xs : List Int} (h : ∀ z ∈ xs, (Lit.int .i64 z).wf = true) (j k : Nat) : (Lit.int .i64 (vv xs j k)).wf = true := by
  unfold vv
  split
  · rw [List.getD_eq_getElem?_getD]
    cases e : xs[k]? with
    | none => decide
    | some z => exact h z (List.mem_of_getElem? e)
  · decide
/-- what the two locks hold, after i steps. -/
structure Both (P : Nat) (delay : Int) (i z zo zm y : Nat) (L : LoV) (va : Value) (es : List SnV) (W : World) : Prop where
  k : Lk W z zo zm L
  r : RLk W y (y + 1) P L va es
  rl : Rl es L
  ol : L.out.length = P
  d : L.delay = delay
  n : 0 ≤ L.now ∧ L.now ≤ (i : Int)
  el : es.length ≤ i
  m : L.many ≤ i
  s : ∀ t p l, L.sent t p = some l → l.length ≤ 60
theorem Both.below {P : Nat} {delay : Int} {i z zo zm y : Nat} {L : LoV} {va : Value} {es : List SnV} {W W' : World} (h : Both P delay i z zo zm y L va es W) (g : Below W.heap.size W W') : Both P delay i z zo zm y L va es W' := ⟨h.k.below g, h.r.below g, h.rl, h.ol, h.d, h.n, h.el, h.m, h.s⟩
theorem Both.more {P : Nat} {delay : Int} {i z zo zm y : Nat} {L : LoV} {va : Value} {es : List SnV} {W : World} (h : Both P delay i z zo zm y L va es W) : Both P delay (i + 1) z zo zm y L va es W := ⟨h.k, h.r, h.rl, h.ol, h.d, by have := h.n; omega, by have := h.el; omega, by have := h.m; omega, h.s⟩
theorem Both.put {P : Nat} {delay : Int} {i z zo zm y : Nat} {L : LoV} {va va' v : Value} {es : List SnV} {W W' : World} {B C : Int} {S : List OrV} (h : Both P delay i z zo zm y L va es W) (F0 : sendF L B C S = 0) (k : Lk W' z zo zm (L.put B C S)) (r : RLk W' y (y + 1) P (L.put B C S) va' (es ++ [⟨B, C, v, S⟩])) (hn : L.now ≤ C) (hs : (L.sent C B).isSome = false) : Both P delay (i + 1) z zo zm y (L.put B C S) va' (es ++ [⟨B, C, v, S⟩]) W' := by
  refine ⟨k, r, h.rl.put hn hs, h.ol, h.d, by have := h.n; show 0 ≤ L.now ∧ L.now ≤ ((i + 1 : Nat) : Int); omega, by have := h.el; simp; omega, by have := h.m; show L.many + 1 ≤ i + 1; omega, fun t p l hl => ?_⟩
  have hl' : (if t = C ∧ p = B then some S else L.sent t p) = some l := hl
  split at hl'
  · injection hl' with hl'; subst hl'; exact send_ok F0
  · exact h.s t p l hl'
theorem Both.same {P : Nat} {delay : Int} {i z zo zm y : Nat} {L : LoV} {va : Value} {es : List SnV} {W W' : World} (h : Both P delay i z zo zm y L va es W) (k : Lk W' z zo zm L) (r : RLk W' y (y + 1) P L va es) : Both P delay (i + 1) z zo zm y L va es W' := by
  have := h.more
  exact ⟨k, r, this.rl, this.ol, this.d, this.n, this.el, this.m, this.s⟩
theorem set_getD (l : List Bool) (q k : Nat) (hq : q < l.length) : (l.set q true).getD k false = if k = q then true else l.getD k false := by
  rw [List.getD_eq_getElem?_getD, List.getD_eq_getElem?_getD, List.getElem?_set]
  by_cases e : q = k
  · subst e; simp [hq]
  · rw [if_neg e, if_neg (fun h => e h.symm)]
theorem drops {w : World} {y base P : Nat} {L : LoV} {va : Value} {es : List SnV} (h : RLk w y base P L va es) {q : Nat} (hq : q < 4) (hl : q < L.out.length) : RLk (w.setCell ⟨y, 3 + q, none⟩ (.bool true)) y base P (L.drop q) va es ∧ RFr y va w (w.setCell ⟨y, 3 + q, none⟩ (.bool true)) ∧ w.frozen? ⟨y, 3 + q, none⟩ = false := by
  have hy := h.yb
  have hx := h.x
  have KK : Kp y w (w.setCell ⟨y, 3 + q, none⟩ (.bool true)) := Kp.set w (3 + q) _
  have H9 : ∀ k, k < w.heap.size → base ≤ k → (w.setCell ⟨y, 3 + q, none⟩ (.bool true)).heap[k]? = w.heap[k]? := fun k hk hb => KK.block k hk (by omega)
  refine ⟨⟨?_, own_high h.r H9, fun e he => own_high (h.o e he) H9, hy⟩, ⟨KK.os, KK.tape, KK.output, KK.size, fun k hk h1 _ => KK.block k hk h1⟩, by simp [World.frozen?, hx]⟩
  rw [heap_setCell_same w y (3 + q) _ _ _ hx]
  have hg := fun k => set_getD L.out q k hl
  unfold LoV.drop
  simp only [hg]
  match q, hq with
  | 0, _ => rfl
  | 1, _ => rfl
  | 2, _ => rfl
  | 3, _ => rfl
theorem Both.drop {P : Nat} {delay : Int} {i z zo zm y q : Nat} {L : LoV} {va : Value} {es : List SnV} {W W' : World} (h : Both P delay i z zo zm y L va es W) (k : Lk W' z zo zm (L.drop q)) (r : RLk W' y (y + 1) P (L.drop q) va es) : Both P delay (i + 1) z zo zm y (L.drop q) va es W' := by
  have := h.more
  exact ⟨k, r, this.rl, by show (L.out.set q true).length = P; rw [List.length_set]; exact h.ol, this.d, this.n, this.el, this.m, this.s⟩
theorem Both.took {P : Nat} {delay : Int} {i z zo zm y : Nat} {L : LoV} {va : Value} {es : List SnV} {W W' : World} (h : Both P delay i z zo zm y L va es W) (k : Lk W' z zo zm L.took) (r : RLk W' y (y + 1) P L.took va es) : Both P delay (i + 1) z zo zm y L.took va es W' := by
  have := h.more
  refine ⟨k, r, h.rl.took, this.ol, this.d, by have := h.n; show 0 ≤ L.now + 1 ∧ L.now + 1 ≤ ((i + 1 : Nat) : Int); omega, this.el, this.m, fun t p l hl => ?_⟩
  have hl' : (if t = L.now ∧ 0 ≤ p ∧ p < (L.out.length : Int) then none else L.sent t p) = some l := hl
  split at hl'
  · cases hl'
  · exact h.s t p l hl'
/-- a player's orders, or all. -/
def selL (B C : Int) (l : List OrV) : List OrV := l.filter (fun o => o.player == B || C == 7)
theorem selL_next {B C : Int} {l : List OrV} {n : Nat} {o : OrV} (h : l[n]? = some o) : selL B C (l.take (n + 1)) = selL B C (l.take n) ++ if (o.player == B || C == 7) then [o] else [] := by
  unfold selL
  rw [List.take_add_one, h, List.filter_append]
  simp [List.filter_cons]
def SlI (B C : Int) (l : List OrV) (wc : World) (v18 v17 : Value) (W : World) : Prop := ∃ q : Nat, q ≤ l.length ∧ v18 = .int .i64 (q : Nat) ∧ Oro W wc.heap.size v17 (selL B C (l.take q)) ∧ Below wc.heap.size wc W
theorem le_of_wf {n : Int} (h : (Lit.int .i64 n).wf = true) : n ≤ 9223372036854775807 := by
  simp [Lit.wf, IntKind.min, IntKind.max, IntKind.signed, IntKind.bits] at h
  omega
def LwI (P : Nat) (delay : Int) (n z zo zm y : Nat) (w : World) (v14 : Value) (W : World) : Prop := ∃ i : Nat, i ≤ n ∧ i ≤ 60 ∧ v14 = .int .i64 (i : Nat) ∧ (∃ L va es, Both P delay i z zo zm y L va es W) ∧ Below w.heap.size w W
def LvI (xs : List Int) (bv : Nat) (wa : World) (v16 : Value) (W : World) : Prop := ∃ j : Nat, j ≤ xs.length ∧ j ≤ 3 ∧ v16 = .int .i64 (j : Nat) ∧ Bv W bv (vv xs j 0) (vv xs j 1) (vv xs j 2) ∧ Kp bv wa W
set_option maxRecDepth 100000 in
set_option maxHeartbeats 64000000 in
theorem walk (players delay : Int) (v : Value) (ss : List (List Int)) (vl : Value) (l : List OrV) (w : World) (hi : Ill w v ss) (hl : Orl w vl l ∧ l.length * 32 ≤ reachBytes) (et : Et w) :
    Calls Tryd.prog 3 #[.int .i64 players, .int .i64 delay, v, vl] w fun e w' => e = .returned (.bool true) ∧ Below w.heap.size w w' := by
  have I : Hid (Ill w v ss) := hi
  have OL : Hid (Orl w vl l ∧ l.length * 32 ≤ 140737488351232) := hl
  have ET : Hid (Et w) := et
  obtain ⟨av, cv, rfl, -⟩ := hi
  obtain ⟨al, cl, rfl, -⟩ := hl.1
  clear hl et
  go_enter Tryd.func3, Tryd.ntmps3
  go_wp2_with fail
  refine (lnew_any players delay w).mono ?_
  rintro e w1 ⟨u1, r1, rfl, b1, hu⟩
  have B1 : Hid (Below w.heap.size w w1) := b1
  rcases hu with ⟨p1, p2, d1, d2, rfl, z, zo, zm, rfl, hz1, hz2, hz3, hk⟩ | ⟨hbad, hr, rfl⟩
  case inr =>
    have D : players < 1 ∨ (1 ≤ players ∧ 4 < players) ∨ (1 ≤ players ∧ players ≤ 4 ∧ delay < 0) ∨ (1 ≤ players ∧ players ≤ 4 ∧ 0 ≤ delay ∧ 20 < delay) := by omega
    have ER : Hid (Er r1 1) := hr
    rcases hr with ⟨h, -⟩ | ⟨-, rfl⟩
    · exact absurd h (by decide)
    clear hbad b1
    rcases D with dd | ⟨dd1, dd2⟩ | ⟨dd1, dd2, dd3⟩ | ⟨dd1, dd2, dd3, dd4⟩
    all_goals
      go_wp2_with fail
      refine (er_same _ 1 w1 ER.out (ET.out.below B1.out)).mono ?_
      rintro e w2 ⟨rfl, b2⟩
      have B2 : Hid (Below w.heap.size w w2) := B1.out.trans (b2.mono B1.out.size)
      clear b2
      go_wp2
      go_ret
      exact ⟨rfl, B2.out⟩
  have HZ : Hid (w.heap.size ≤ z ∧ w.heap.size ≤ zo ∧ w.heap.size ≤ zm) := ⟨hz1, hz2, hz3⟩
  have K1 : Hid (Lk w1 z zo zm (lkNew players.toNat delay)) := hk
  clear hz1 hz2 hz3 hk b1
  go_wp2_with fail
  refine (er_same _ 0 w1 Er.nil (ET.out.below B1.out)).mono ?_
  rintro e w2 ⟨rfl, b2⟩
  have B2 : Hid (Below w.heap.size w w2) := B1.out.trans (b2.mono B1.out.size)
  have K2 : Hid (Lk w2 z zo zm (lkNew players.toNat delay)) := K1.out.below b2
  clear b2 K1
  obtain ⟨P, hP⟩ : ∃ P : Nat, players = (P : Nat) := ⟨players.toNat, by omega⟩
  have EP : Hid (players = (P : Nat) ∧ 1 ≤ P ∧ P ≤ 4) := ⟨hP, by omega, by omega⟩
  clear hP
  have MK : Hid (Below w2.heap.size w2 (w2.alloc (Obj.cells #[.int .i64 players, .int .i64 delay, .int .i64 0, .bool false, .bool false, .bool false, .bool false, .slice none 0 0] 34))) := (Below.refl _ _).alloc (Nat.le_refl _) _
  obtain ⟨y, hy⟩ : ∃ y, w2.heap.size = y := ⟨_, rfl⟩
  have RK : Hid (RLk (w2.alloc (Obj.cells #[.int .i64 players, .int .i64 delay, .int .i64 0, .bool false, .bool false, .bool false, .bool false, .slice none 0 0] 34)) y (y + 1) P (lkNew P delay) (.slice none 0 0) []) := by
    refine ⟨?_, Sno.nil _ _, fun e he => by simp at he, by omega⟩
    rw [← hy, heap_alloc_new, EP.out.1]
    have hg : ∀ k, (List.replicate P false).getD k false = false := fun k => by rw [List.getD_eq_getElem?_getD, List.getElem?_replicate]; split <;> rfl
    simp only [lkNew, hg]
  have YZ : Hid (z < y ∧ zo < y ∧ zm < y ∧ w.heap.size ≤ y) := by rw [← hy]; exact ⟨K2.out.lz, K2.out.lb, K2.out.lm, B2.out.size⟩
  go_upto_region 10 with fail
  (try rw [hy])
  clear hy
  generalize (w2.alloc (Obj.cells #[.int .i64 players, .int .i64 delay, .int .i64 0, .bool false, .bool false, .bool false, .bool false, .slice none 0 0] 34)) = w3 at *
  have B3 : Hid (Below w.heap.size w w3) := B2.out.trans (MK.out.mono B2.out.size)
  have BO : Hid (Both P delay 0 z zo zm y (lkNew P delay) (.slice none 0 0) [] w3) := by
    have k := K2.out.below MK.out
    rw [show players.toNat = P by rw [EP.out.1]; rfl] at k
    exact ⟨k, RK.out, Rl.new _ _, by simp [lkNew], rfl, by simp [lkNew], by simp, by simp [lkNew], fun t p l h => by cases h⟩
  clear K2 MK RK B1 B2
  go_loopw [14] (fun v14 W => LwI P delay ss.length z zo zm y w v14 W) (fun v14 _ => ss.length - (intOf v14).toNat)
  case atStart => exact ⟨0, Nat.zero_le _, by omega, rfl, ⟨_, _, _, BO.out⟩, B3.out⟩
  case round =>
    obtain ⟨i, hi, hi60, rfl, ⟨L, va, es, hbo⟩, hb⟩ := hrel
    have BT : Hid (Both P delay i z zo zm y L va es wr) := hbo
    have BR : Hid (Below w.heap.size w wr) := hb
    clear hbo hb BO B3
    by_cases c1 : i = ss.length
    · have c1i : ¬ (i : Int) < (ss.length : Nat) := by omega
      go_wp2
      go_ret
      exact ⟨rfl, BR.out⟩
    have c1i : (i : Int) < (ss.length : Nat) := by omega
    by_cases c2 : i = 60
    · have c2i : ¬ (i : Int) < 60 := by omega
      go_wp2
      go_ret
      exact ⟨rfl, BR.out⟩
    have c2i : (i : Int) < 60 := by omega
    have IL : Hid (i < 60 ∧ i < ss.length) := by unfold Hid; omega
    obtain ⟨xs, hxs⟩ : ∃ xs, ss[i]? = some xs := ⟨_, List.getElem?_eq_getElem (by omega)⟩
    obtain ⟨ai, ci, ei, -, -, h3⟩ := I.out
    injection ei with e1 e2 e3
    subst e1 e3
    obtain ⟨x, rfl, hx1, hx⟩ := h3 (by rintro rfl; simp at hxs)
    obtain ⟨us, hus, hro, hwf⟩ := hx i xs hxs
    have WF : Hid (∀ z ∈ xs, (Lit.int .i64 z).wf = true) := hwf
    have RO : Hid (Ro w us xs) := hro
    have US : Hid (w.cell? (x.add i) = some us ∧ (x.add i).block < w.heap.size) := ⟨hus, by rw [add_block]; exact hx1⟩
    obtain ⟨au, cu, rfl, -, -, hcs⟩ := hro
    have CS : Hid (Cells w au xs) := hcs
    clear h3 hx hus hcs hwf hx1 hxs e2
    have BA : Hid (Below wr.heap.size wr (wr.alloc (Obj.cells #[.int .i64 0, .int .i64 0, .int .i64 0] 35))) := (Below.refl _ _).alloc (Nat.le_refl _) _
    obtain ⟨bv, hbv⟩ : ∃ b, wr.heap.size = b := ⟨_, rfl⟩
    have BV : Hid (Bv (wr.alloc (Obj.cells #[.int .i64 0, .int .i64 0, .int .i64 0] 35)) bv (vv xs 0 0) (vv xs 0 1) (vv xs 0 2)) := by unfold Hid Bv; rw [← hbv, heap_alloc_new]; rfl
    have YB : Hid (y < bv ∧ w.heap.size ≤ bv) := by rw [← hbv]; exact ⟨BT.out.r.lt, BR.out.size⟩
    have SB : Hid (wr.heap.size = bv ∧ ∀ k, va.ownBlock = some k → k < bv) := ⟨hbv, fun k hk => by rw [← hbv]; exact (BT.out.r.r.block k hk).2⟩
    go_upto_region 13 with fail
    (try rw [hbv])
    generalize (wr.alloc (Obj.cells #[.int .i64 0, .int .i64 0, .int .i64 0] 35)) = wa at *
    have BR1 : Hid (Below w.heap.size w wa) := BR.out.trans (BA.out.mono BR.out.size)
    clear BR hbv
    go_upto_block 2 with fail
    go_cut [16] from 62 to 229 (fun v16 V => ∃ A B C, Bv V bv A B C ∧ (Lit.int .i64 B).wf = true ∧ (Lit.int .i64 C).wf = true ∧ Kp bv wa V)
    case first =>
      go_wp2_with fail
      go_loopw [16] (fun v16 W => LvI xs bv wa v16 W) (fun v16 _ => 3 - (intOf v16).toNat)
      case atStart => exact ⟨0, Nat.zero_le _, by omega, rfl, BV.out, Kp.refl _ _⟩
      case round =>
        obtain ⟨j, hj, hj3, rfl, hv, hk⟩ := hrel
        have VV : Hid (Bv wr bv (vv xs j 0) (vv xs j 1) (vv xs j 2)) := hv
        have KV : Hid (Kp bv wa wr) := hk
        have q0 : wr.cell? (x.add i) = some (.slice au xs.length cu) := by
          have h1 : wa.cell? (x.add i) = some (.slice au xs.length cu) := by rw [BR1.out.cell (p := x.add i) US.out.2]; exact US.out.1
          rw [World.cell?_of_block (hk.block (x.add i).block (Nat.lt_of_lt_of_le US.out.2 BR1.out.size) (by have := US.out.2; have := YB.out; omega))]; exact h1
        clear hv hk BV
        by_cases hgo : j < xs.length ∧ j < 3
        case pos =>
          obtain ⟨g1, g2⟩ := hgo
          have g1i : (j : Int) < (xs.length : Nat) := by omega
          have g2i : (j : Int) < 3 := by omega
          obtain ⟨xj, hxj⟩ : ∃ xj, xs[j]? = some xj := ⟨_, List.getElem?_eq_getElem g1⟩
          obtain ⟨a, rfl, ha, hc⟩ := CS.out (by rintro rfl; simp at g1)
          have q1 : wr.cell? (a.add j) = some (.int .i64 xj) := by
            have h1 : wa.cell? (a.add j) = some (.int .i64 xj) := by rw [BR1.out.cell (p := a.add j) (by rw [add_block]; exact ha)]; exact hc j xj hxj
            rw [World.cell?_of_block (KV.out.block (a.add j).block (by rw [add_block]; exact Nat.lt_of_lt_of_le ha BR1.out.size) (by rw [add_block]; have := YB.out; omega))]; exact h1
          obtain ⟨s1, s2, u0, s3⟩ := VV.out.set g2 hxj
          have SS : Hid (Bv (wr.setCell ⟨bv, j, none⟩ (.int .i64 xj)) bv (vv xs (j + 1) 0) (vv xs (j + 1) 1) (vv xs (j + 1) 2) ∧ Kp bv wa (wr.setCell ⟨bv, j, none⟩ (.int .i64 xj))) := ⟨s1, KV.out.trans (Kp.set wr j _)⟩
          clear s1 hc hxj ha
          go_wp2
          go_round
          case rel => exact ⟨j + 1, by omega, by omega, by go_num, SS.out.1, SS.out.2⟩
          case measure => simp [intOf]; omega
        case neg =>
          have DD : (¬ (j : Int) < (xs.length : Nat)) ∨ ((j : Int) < (xs.length : Nat) ∧ ¬ (j : Int) < 3) := by omega
          clear hgo
          rcases DD with dd | ⟨dd1, dd2⟩
          all_goals
            go_wp2_with fail
            go_meet
            case rel => exact ⟨_, _, _, VV.out, vv_wf WF.out j 1, vv_wf WF.out j 2, KV.out⟩
    case rest =>
      obtain ⟨A, B, C, hv, hwB, hwC, hk⟩ := hcut
      have VV : Hid (Bv wc bv A B C) := hv
      have WB : Hid ((Lit.int .i64 B).wf = true ∧ (Lit.int .i64 C).wf = true) := ⟨hwB, hwC⟩
      have B2 : Hid (Below w.heap.size w wc) := hk.below BR1.out BR1.out.size YB.out.2
      have BT2 : Hid (Both P delay i z zo zm y L va es wc) := BT.out.below (hk.below BA.out BA.out.size (by rw [SB.out.1]; exact Nat.le_refl _))
      clear hv hwB hwC hk
      obtain ⟨v0, v1, v2⟩ := VV.out.cells
      go_upto_block 4 with fail
      go_cut [11, 12, 17, 18, 19, 20, 21, 22, 23, 24, 25] from 62 to 229 (fun v11 v12 v17 v18 v19 v20 v21 v22 v23 v24 v25 V => v12 = .bool true ∧ (∃ L va es, Both P delay (i + 1) z zo zm y L va es V) ∧ Below w.heap.size w V)
      case first =>
        obtain ⟨bA, hbA⟩ : ∃ b, (A == 0 || A == 1 || A == 2) = b := ⟨_, rfl⟩
        have HBA : Hid ((A == 0 || A == 1 || A == 2) = bA) := hbA
        clear hbA
        go_upto_if 126 with fail
        go_cut [95, 126] from 62 to 229 (fun v95 v126 V => v95 = .int .i64 A ∧ v126 = .bool bA ∧ V = wc)
        case first =>
          by_cases z0 : A = 0
          · have zz : bA = true := by rw [← HBA.out, z0]; rfl
            subst z0
            subst zz
            go_wp2_with fail
            go_meet
            case rel => exact ⟨rfl, rfl, rfl⟩
          have z0b : (A == 0) = false := beq_eq_false_iff_ne.2 z0
          by_cases z1 : A = 1
          · have zz : bA = true := by rw [← HBA.out, z1]; rfl
            subst z1
            subst zz
            go_wp2_with fail
            go_meet
            case rel => exact ⟨rfl, rfl, rfl⟩
          have z1b : (A == 1) = false := beq_eq_false_iff_ne.2 z1
          by_cases z2 : A = 2
          · have zz : bA = true := by rw [← HBA.out, z2]; rfl
            subst z2
            subst zz
            go_wp2_with fail
            go_meet
            case rel => exact ⟨rfl, rfl, rfl⟩
          have z2b : (A == 2) = false := beq_eq_false_iff_ne.2 z2
          have zz : bA = false := by rw [← HBA.out, z0b, z1b, z2b]; rfl
          subst zz
          go_wp2_with fail
          go_meet
          case rel => exact ⟨rfl, rfl, rfl⟩
        obtain ⟨rfl, rfl, rfl⟩ := hcut
        cases bA
        case true =>
          as_aux_lemma =>
            have W2 : Hid (Bv wc bv A B C) := VV.out
            clear VV v0 v1 v2
            go_wp2_with fail
            go_loopw [18, 17] (fun v18 v17 W => SlI B C l wc v18 v17 W) (fun v18 _ _ => l.length - (intOf v18).toNat)
            case atStart => exact ⟨0, Nat.zero_le _, rfl, by simpa [selL] using Oro.nil _ _, Below.refl _ _⟩
            case round =>
              obtain ⟨q, hq, rfl, ho, hb⟩ := hrel
              have O : Hid (Oro wr wc.heap.size u17 (selL B C (l.take q))) := ho
              have BQ : Hid (Below wc.heap.size wc wr) := hb
              have BW : Hid (Below w.heap.size w wr) := B2.out.trans (hb.mono B2.out.size)
              have VQ : Hid (Bv wr bv A B C) := W2.out.below hb W2.out.lt
              clear ho hb
              by_cases hql : q = l.length
              case neg =>
                have hqk : q < l.length := by omega
                have hqi : (q : Int) < (l.length : Nat) := by omega
                have QW : IntKind.i64.wrap ((q : Int) + 1) = (q : Int) + 1 := by have := OL.out.2; rw [IntKind.wrap_i64]; omega
                obtain ⟨o, hk⟩ : ∃ o, l[q]? = some o := ⟨_, List.getElem?_eq_getElem hqk⟩
                have NX : Hid (selL B C (l.take (q + 1)) = selL B C (l.take q) ++ if (o.player == B || C == 7) then [o] else []) := selL_next hk
                obtain ⟨a', c', e, -, -, h3⟩ := OL.out.1.below BW.out
                injection e with e1 e2 e3
                subst e1 e3
                obtain ⟨yo, rfl, -, hx⟩ := h3 (by rintro rfl; simp at hqk)
                obtain ⟨r0, r1, r2, r3⟩ := hx q o hk
                obtain ⟨-, v1, v2⟩ := VQ.out.cells
                clear hx h3 e2 hk
                have KL : Hid ((selL B C (l.take q)).length ≤ q) := by unfold Hid selL; exact Nat.le_trans (List.length_filter_le _ _) (by simp; omega)
                obtain ⟨m1, hm1⟩ : ∃ b, (o.player == B) = b := ⟨_, rfl⟩
                obtain ⟨m2, hm2⟩ : ∃ b, (C == 7) = b := ⟨_, rfl⟩
                have NY : Hid (selL B C (l.take (q + 1)) = selL B C (l.take q) ++ if (m1 || m2) then [o] else []) := by unfold Hid; rw [NX.out, hm1, hm2]
                clear NX
                cases m1
                case false =>
                  cases m2
                  case false =>
                    have NK : Hid (selL B C (l.take (q + 1)) = selL B C (l.take q)) := by unfold Hid; rw [NY.out]; simp
                    go_upto_region 34 with fail
                    go_quiet (fail)
                    go_wp2
                    go_round
                    case rel => exact ⟨q + 1, by omega, by go_num, by rw [NK.out]; exact O.out, below_dn9 BQ.out _⟩
                    case measure => simp [intOf]; omega
                  case true =>
                    have NK : Hid (selL B C (l.take (q + 1)) = selL B C (l.take q) ++ [o]) := by unfold Hid; rw [NY.out]; simp
                    go_upto_region 34 with fail
                    go_quiet (fail)
                    go_upto_region 35 with fail
                    have DQ : Hid (Below wr.heap.size wr (wr.drewN nq)) := below_dn9 (Below.refl _ _) _
                    generalize wr.drewN nq = wq at *
                    have BQ2 : Hid (Below wc.heap.size wc wq) := BQ.out.trans (DQ.out.mono BQ.out.size)
                    have OQ : Hid (Oro wq wc.heap.size u17 (selL B C (l.take q))) := O.out.below DQ.out
                    have RQ : Hid (Orc wq (yo.add (q * 4)) o) := Orc.below ⟨r0, r1, r2, r3⟩ DQ.out (cell_lt r0)
                    clear r0 r1 r2 r3 v1 v2 hm1 hm2
                    obtain ⟨r0, r1, r2, r3⟩ := RQ.out
                    have OA : Hid (Oro (wq.alloc (Obj.cells #[.int .i64 o.player, .int .i64 o.unit, .int .i64 o.what, .int .i64 o.arg] 38)) wc.heap.size u17 (selL B C (l.take q))) := OQ.out.alloc _
                    have RC : Hid (Orc (wq.alloc (Obj.cells #[.int .i64 o.player, .int .i64 o.unit, .int .i64 o.what, .int .i64 o.arg] 38)) ⟨wq.heap.size, 0, none⟩ o) := Orc.mk' (w := wq) o rfl
                    have BB : Hid (Below wc.heap.size wc (wq.alloc (Obj.cells #[.int .i64 o.player, .int .i64 o.unit, .int .i64 o.what, .int .i64 o.arg] 38))) := BQ2.out.alloc BQ2.out.size _
                    go_wp2_with (at_builtin; refine app_orx _ rfl _ _ rfl wc.heap.size _ (selL B C (l.take q)) rfl OA.out wq.heap.size o rfl RC.out (by have h1 := KL.out; have h2 := OL.out.2; omega) BB.out.size ?_)
                    intro g cap w5 o5 g5 a5 l5
                    have B5 : Hid (Below wc.heap.size wc w5) := BB.out.grown g5 BB.out.size (fun k hk => (OQ.out.block k hk).1)
                    have O5 : Hid (Oro w5 wc.heap.size (.slice (some ⟨g, 0, none⟩) ((selL B C (l.take q)).length + 1) cap) (selL B C (l.take (q + 1)))) := by unfold Hid; rw [NK.out]; exact o5
                    clear o5 g5 a5 l5 r0 r1 r2 r3
                    go_wp2
                    go_round
                    case rel => exact ⟨q + 1, by omega, by go_num, O5.out, B5.out⟩
                    case measure => simp [intOf]; omega
                case true =>
                  have NK : Hid (selL B C (l.take (q + 1)) = selL B C (l.take q) ++ [o]) := by unfold Hid; rw [NY.out]; simp
                  go_upto_region 34 with fail
                  go_quiet (fail)
                  go_upto_region 35 with fail
                  have DQ : Hid (Below wr.heap.size wr (wr.drewN nq)) := below_dn9 (Below.refl _ _) _
                  generalize wr.drewN nq = wq at *
                  have BQ2 : Hid (Below wc.heap.size wc wq) := BQ.out.trans (DQ.out.mono BQ.out.size)
                  have OQ : Hid (Oro wq wc.heap.size u17 (selL B C (l.take q))) := O.out.below DQ.out
                  have RQ : Hid (Orc wq (yo.add (q * 4)) o) := Orc.below ⟨r0, r1, r2, r3⟩ DQ.out (cell_lt r0)
                  clear r0 r1 r2 r3 v1 v2 hm1 hm2
                  obtain ⟨r0, r1, r2, r3⟩ := RQ.out
                  have OA : Hid (Oro (wq.alloc (Obj.cells #[.int .i64 o.player, .int .i64 o.unit, .int .i64 o.what, .int .i64 o.arg] 38)) wc.heap.size u17 (selL B C (l.take q))) := OQ.out.alloc _
                  have RC : Hid (Orc (wq.alloc (Obj.cells #[.int .i64 o.player, .int .i64 o.unit, .int .i64 o.what, .int .i64 o.arg] 38)) ⟨wq.heap.size, 0, none⟩ o) := Orc.mk' (w := wq) o rfl
                  have BB : Hid (Below wc.heap.size wc (wq.alloc (Obj.cells #[.int .i64 o.player, .int .i64 o.unit, .int .i64 o.what, .int .i64 o.arg] 38))) := BQ2.out.alloc BQ2.out.size _
                  go_wp2_with (at_builtin; refine app_orx _ rfl _ _ rfl wc.heap.size _ (selL B C (l.take q)) rfl OA.out wq.heap.size o rfl RC.out (by have h1 := KL.out; have h2 := OL.out.2; omega) BB.out.size ?_)
                  intro g cap w5 o5 g5 a5 l5
                  have B5 : Hid (Below wc.heap.size wc w5) := BB.out.grown g5 BB.out.size (fun k hk => (OQ.out.block k hk).1)
                  have O5 : Hid (Oro w5 wc.heap.size (.slice (some ⟨g, 0, none⟩) ((selL B C (l.take q)).length + 1) cap) (selL B C (l.take (q + 1)))) := by unfold Hid; rw [NK.out]; exact o5
                  clear o5 g5 a5 l5 r0 r1 r2 r3
                  go_wp2
                  go_round
                  case rel => exact ⟨q + 1, by omega, by go_num, O5.out, B5.out⟩
                  case measure => simp [intOf]; omega
              obtain ⟨S, hS⟩ : ∃ S, selL B C l = S := ⟨_, rfl⟩
              have OS : Hid (Oro wr wc.heap.size u17 S) := by have h := O.out; rw [hql, List.take_length, hS] at h; exact h
              have hqi : ¬ (q : Int) < (l.length : Nat) := by omega
              obtain ⟨a17, c17, rfl⟩ := OS.out.len
              have BT3 : Hid (Both P delay i z zo zm y L va es wr) := BT2.out.below BQ.out
              clear hS O
              go_upto_region 36 with fail
              have CB : Hid (∀ V, Below wr.heap.size wr V → V.cell? ⟨bv, 1, none⟩ = some (.int .i64 B) ∧ V.cell? ⟨bv, 2, none⟩ = some (.int .i64 C)) := fun V hV => ⟨(VQ.out.below hV VQ.out.lt).cells.2.1, (VQ.out.below hV VQ.out.lt).cells.2.2⟩
              refine wp_region_tree (.read 0 (.read 1 (.read 2 (.read 3 (.read 4 (.read 5 (.read 7 (.read 8 (.read 9 (.read 10 (.read 11 (.read 12 (.one 6 (.one 13 (.one 14 .leaf))))))))))))))) [(false, 0), (false, 1), (false, 2), (false, 3), (false, 4), (false, 5), (false, 6), (false, 7), (false, 8), (false, 9), (false, 10), (false, 11), (false, 12), (false, 13), (false, 14)] [(false, 15)] (fun V => V.cell? ⟨bv, 1, none⟩ = some (.int .i64 B) ∧ V.cell? ⟨bv, 2, none⟩ = some (.int .i64 C)) (by kernel_rfl) (by kernel_rfl) (by kernel_rfl) (by decide +kernel) (by decide +kernel) (CB.out _ (Below.refl _ _).drew) ?_
              have D3 : Hid (Below wr.heap.size wr { wr with drawn := wr.drawn + 1 }) := (Below.refl _ _).drew
              generalize ({ wr with drawn := wr.drawn + 1 } : World) = x4 at *
              have T4 : Hid (Both P delay i z zo zm y L va es x4) := BT3.out.below D3.out
              have V4 : Hid (Bv x4 bv A B C) := VQ.out.below D3.out VQ.out.lt
              have O4 : Hid (Oro x4 wc.heap.size (.slice a17 S.length c17) S) := OS.out.below D3.out
              have B4 : Hid (Below w.heap.size w x4) := BW.out.trans (D3.out.mono BW.out.size)
              have WS : Hid (y + 1 ≤ wc.heap.size ∧ wc.heap.size ≤ x4.heap.size) := ⟨BT2.out.r.lt, Nat.le_trans BQ.out.size D3.out.size⟩
              clear D3 BT3 VQ OS BQ BW CB
              refine tr_read rfl (.pointer (some ⟨z, 0, none⟩)) (by go_simp) (fun V hV => by obtain ⟨hv1, hv2⟩ := hV; go_simp) ?_
              go_simp
              refine tr_read rfl (.pointer (some ⟨bv, 1, none⟩)) (by go_simp) (fun V hV => by obtain ⟨hv1, hv2⟩ := hV; go_simp) ?_
              go_simp
              refine tr_read rfl (.int .i64 B) (by go_simp) (fun V hV => by obtain ⟨hv1, hv2⟩ := hV; go_simp) ?_
              go_simp
              refine tr_read rfl (.pointer (some ⟨bv, 2, none⟩)) (by go_simp) (fun V hV => by obtain ⟨hv1, hv2⟩ := hV; go_simp) ?_
              go_simp
              refine tr_read rfl (.int .i64 C) (by go_simp) (fun V hV => by obtain ⟨hv1, hv2⟩ := hV; go_simp) ?_
              go_simp
              refine tr_read rfl (.slice a17 S.length c17) (by go_simp) (fun V hV => by obtain ⟨hv1, hv2⟩ := hV; go_simp) ?_
              go_simp
              refine tr_read rfl (.pointer (some ⟨y, 0, none⟩)) (by go_simp) (fun V hV => by obtain ⟨hv1, hv2⟩ := hV; go_simp) ?_
              go_simp
              refine tr_read rfl (.pointer (some ⟨bv, 1, none⟩)) (by go_simp) (fun V hV => by obtain ⟨hv1, hv2⟩ := hV; go_simp) ?_
              go_simp
              refine tr_read rfl (.int .i64 B) (by go_simp) (fun V hV => by obtain ⟨hv1, hv2⟩ := hV; go_simp) ?_
              go_simp
              refine tr_read rfl (.pointer (some ⟨bv, 2, none⟩)) (by go_simp) (fun V hV => by obtain ⟨hv1, hv2⟩ := hV; go_simp) ?_
              go_simp
              refine tr_read rfl (.int .i64 C) (by go_simp) (fun V hV => by obtain ⟨hv1, hv2⟩ := hV; go_simp) ?_
              go_simp
              refine tr_read rfl (.slice a17 S.length c17) (by go_simp) (fun V hV => by obtain ⟨hv1, hv2⟩ := hV; go_simp) ?_
              go_simp
              refine tr_one ?_
              refine st_call rfl 6 #[.pointer (some ⟨z, 0, none⟩), .int .i64 B, .int .i64 C, .slice a17 S.length c17] (by go_simp) (by go_simp) ?_
              refine (lsend_any z zo zm L B C _ S x4 T4.out.k (by have := T4.out.ol; have := EP.out; omega) (by have := T4.out.n; have := IL.out; omega) (by rw [T4.out.d]; omega) (by have := T4.out.m; have := IL.out; omega) WB.out.1 WB.out.2 O4.out.l).mono ?_
              rintro e x5 ⟨r5, rfl, hr, hf, hc⟩
              have B5 : Hid (Below w.heap.size w x5) := B4.out.trans (hf.low B4.out.size HZ.out.1 HZ.out.2.1 HZ.out.2.2)
              have R5 : Hid (RLk x5 y (y + 1) P L va es) := T4.out.r.lf hf YZ.out.1 YZ.out.2.1 YZ.out.2.2.1
              have O5 : Hid (Oro x5 (y + 1) (.slice a17 S.length c17) S) := (T4.out.k.oro hf O4.out).mono WS.out.1
              have V5 : Hid (Bv x5 bv A B C) := by
                have h1 := YB.out.1
                have h2 := YZ.out
                have h := V4.out
                have hb := hf.block bv V4.out.lt (by omega) (by omega) (by omega)
                unfold Hid Bv at *
                rw [hb]
                exact h
              have S5 : Hid (y + 1 ≤ x5.heap.size) := by have := WS.out; have := hf.size; unfold Hid; omega
              have ER : Hid (Er r5 (sendF L B C S)) := hr
              have HC : Hid ((sendF L B C S = 0 ∧ Lk x5 z zo zm (L.put B C S)) ∨ (sendF L B C S ≠ 0 ∧ Lk x5 z zo zm L)) := hc
              refine ⟨_, rfl, ⟨V5.out.cells.2.1, V5.out.cells.2.2⟩, ?_⟩
              clear hr hf hc
              go_simp
              refine tr_one ?_
              refine st_call rfl 7 #[.pointer (some ⟨y, 0, none⟩), .int .i64 B, .int .i64 C, .slice a17 S.length c17] (by go_simp) (by go_simp) ?_
              refine (rsend_any y (y + 1) P L va es B C _ S x5 R5.out T4.out.ol EP.out.2.2 (by have := T4.out.n; have := IL.out; omega) (by rw [T4.out.d]; omega) (by have := T4.out.el; have := IL.out; omega) (le_of_wf WB.out.2) T4.out.rl O5.out S5.out).mono ?_
              rintro e x6 ⟨rfl, hg, hc2⟩
              have B6 : Hid (Below w.heap.size w x6) := B5.out.trans (hg.low B5.out.size YZ.out.2.2.2 (fun k hk => by have := (R5.out.r.block k hk).1; have := YZ.out.2.2.2; omega))
              have V6 : Hid (Bv x6 bv A B C) := by
                have h1 := YB.out.1
                have h2 := SB.out.2
                have h := V5.out
                have hb := hg.block bv V5.out.lt (by omega) (fun e => by have := h2 bv e; omega)
                unfold Hid Bv at *
                rw [hb]
                exact h
              have RES : Hid (∃ L va es, Both P delay (i + 1) z zo zm y L va es x6) := by
                rcases HC.out with ⟨f0, k⟩ | ⟨f0, k⟩
                · rcases hc2 with ⟨-, n1, n2, va', r'⟩ | ⟨h, -⟩
                  · exact ⟨_, _, _, T4.out.put f0 (R5.out.lk k hg YZ.out.1 YZ.out.2.1 YZ.out.2.2.1) r' n1 n2⟩
                  · exact absurd f0 h
                · rcases hc2 with ⟨h, -⟩ | ⟨-, r'⟩
                  · exact absurd h f0
                  · exact ⟨_, _, _, T4.out.same (R5.out.lk k hg YZ.out.1 YZ.out.2.1 YZ.out.2.2.1) r'⟩
              refine ⟨_, rfl, ⟨V6.out.cells.2.1, V6.out.cells.2.2⟩, ?_⟩
              clear hg hc2
              go_simp
              refine tr_one ?_
              refine st_call rfl 5 #[r5, .int .i64 (sendF L B C S)] (by go_simp) (by go_simp) ?_
              refine (er_same r5 _ x6 ER.out (ET.out.below B6.out)).mono ?_
              rintro e x7 ⟨rfl, b7⟩
              have FIN : Hid ((∃ L va es, Both P delay (i + 1) z zo zm y L va es x7) ∧ Below w.heap.size w x7) := by
                obtain ⟨L', va', es', hbo⟩ := RES.out
                exact ⟨⟨L', va', es', hbo.below b7⟩, B6.out.trans (b7.mono B6.out.size)⟩
              refine ⟨_, rfl, ⟨(V6.out.below b7 V6.out.lt).cells.2.1, (V6.out.below b7 V6.out.lt).cells.2.2⟩, ?_⟩
              clear b7
              go_simp
              unfold wpTr
              refine sched_value rfl (.bool true) x7 (by go_simp) (by go_simp) trivial ?_
              go_simp
              unfold wpSched
              go_wp2_with fail
              go_meet
              case rel => exact ⟨rfl, FIN.out.1, FIN.out.2⟩
        case false =>
          by_cases a3 : A = 3
          case pos =>
            have A3 : Hid (A = 3) := a3
            have a3b : (A == 3) = true := beq_iff_eq.2 a3
            clear a3
            have KK := BT2.out.k
            have O4 : Hid (L.out.length ≤ 4) := by have := BT2.out.ol; have := EP.out; unfold Hid; omega
            by_cases bb : B < 0 ∨ players ≤ B
            · have DF : Hid (dropF L B = 1) := by unfold Hid dropF; rw [if_neg (by have := BT2.out.ol; have := EP.out; omega)]
              have DD : B < 0 ∨ (¬ B < 0 ∧ players ≤ B) := by omega
              clear bb KK
              rcases DD with dd | ⟨dd1, dd2⟩
              all_goals
                as_aux_lemma =>
                  go_wp2_with fail
                  refine (ldrop_any z zo zm L B wc BT2.out.k O4.out).mono ?_
                  rintro e x1 ⟨r1, rfl, hr, hc, hf⟩
                  rw [DF.out] at hr hc
                  have B1' : Hid (Below w.heap.size w x1) := B2.out.trans (hf.low B2.out.size HZ.out.1 HZ.out.2.1 HZ.out.2.2)
                  have T1 : Hid (Both P delay (i + 1) z zo zm y L va es x1) := by
                    rcases hc with ⟨h, -⟩ | ⟨-, h⟩
                    · exact absurd h (by decide)
                    · exact BT2.out.same h (BT2.out.r.lf hf YZ.out.1 YZ.out.2.1 YZ.out.2.2.1)
                  have ER : Hid (Er r1 1) := hr
                  clear hr hc hf
                  go_wp2_with fail
                  refine (er_same r1 1 x1 ER.out (ET.out.below B1'.out)).mono ?_
                  rintro e x2 ⟨rfl, b2⟩
                  have FIN : Hid (Both P delay (i + 1) z zo zm y L va es x2 ∧ Below w.heap.size w x2) := ⟨T1.out.below b2, B1'.out.trans (b2.mono B1'.out.size)⟩
                  clear b2
                  go_wp2_with fail
                  go_meet
                  case rel => exact ⟨rfl, ⟨_, _, _, FIN.out.1⟩, FIN.out.2⟩
            · have bb0 : ¬ B < 0 := fun h => bb (.inl h)
              have bb1 : ¬ players ≤ B := fun h => bb (.inr h)
              obtain ⟨q, hqB⟩ : ∃ q : Nat, B = (q : Nat) := ⟨B.toNat, by omega⟩
              subst hqB
              have hqP : q < P := by have := EP.out.1; omega
              have hq4 : q < 4 := by have := EP.out; omega
              have hqi4 : (q : Int) < 4 := by omega
              have hql : q < L.out.length := by rw [BT2.out.ol]; exact hqP
              obtain ⟨d, hd⟩ : ∃ d, L.out[q]? = some d := ⟨_, List.getElem?_eq_getElem hql⟩
              have DF : Hid (dropF L (q : Nat) = if d then 7 else 0) := by unfold Hid dropF; rw [if_pos (by omega), List.getD_eq_getElem?_getD, Int.toNat_natCast, hd]; rfl
              have qc : wc.cell? ⟨y, 3 + q, none⟩ = some (.bool d) := by rw [BT2.out.r.cells.2.2.2.2 q hq4, List.getD_eq_getElem?_getD, hd]; rfl
              clear hd bb KK hqP
              cases d
              case true =>
                as_aux_lemma =>
                  have DF7 : Hid (dropF L (q : Nat) = 7) := DF.out
                  go_upto_region 41 with fail
                  go_quiet (fail)
                  have DQ : Hid (Below wc.heap.size wc (wc.drewN nq)) := below_dn9 (Below.refl _ _) _
                  have e1 : (wc.drewN nq).cell? ⟨bv, 1, none⟩ = some (.int .i64 (q : Nat)) := v1
                  clear v0 v1 v2 qc
                  generalize wc.drewN nq = x0 at *
                  have BT3 : Hid (Both P delay i z zo zm y L va es x0) := BT2.out.below DQ.out
                  have B3 : Hid (Below w.heap.size w x0) := B2.out.trans (DQ.out.mono B2.out.size)
                  go_wp2_with fail
                  refine (ldrop_any z zo zm L _ x0 BT3.out.k O4.out).mono ?_
                  rintro e x1 ⟨r1, rfl, hr, hc, hf⟩
                  rw [DF7.out] at hr hc
                  have B1' : Hid (Below w.heap.size w x1) := B3.out.trans (hf.low B3.out.size HZ.out.1 HZ.out.2.1 HZ.out.2.2)
                  have T1 : Hid (Both P delay (i + 1) z zo zm y L va es x1) := by
                    rcases hc with ⟨h, -⟩ | ⟨-, h⟩
                    · exact absurd h (by decide)
                    · exact BT3.out.same h (BT3.out.r.lf hf YZ.out.1 YZ.out.2.1 YZ.out.2.2.1)
                  have ER : Hid (Er r1 7) := hr
                  clear hr hc hf e1
                  go_wp2_with fail
                  refine (er_same r1 7 x1 ER.out (ET.out.below B1'.out)).mono ?_
                  rintro e x2 ⟨rfl, b2⟩
                  have FIN : Hid (Both P delay (i + 1) z zo zm y L va es x2 ∧ Below w.heap.size w x2) := ⟨T1.out.below b2, B1'.out.trans (b2.mono B1'.out.size)⟩
                  clear b2
                  go_wp2_with fail
                  go_meet
                  case rel => exact ⟨rfl, ⟨_, _, _, FIN.out.1⟩, FIN.out.2⟩
              case false =>
                as_aux_lemma =>
                  have DF0 : Hid (dropF L (q : Nat) = 0) := DF.out
                  go_upto_region 41 with fail
                  go_quiet (fail)
                  have DQ : Hid (Below wc.heap.size wc (wc.drewN nq)) := below_dn9 (Below.refl _ _) _
                  have e1 : (wc.drewN nq).cell? ⟨bv, 1, none⟩ = some (.int .i64 (q : Nat)) := v1
                  have e3 : (wc.drewN nq).cell? ⟨y, 3 + q, none⟩ = some (.bool false) := qc
                  clear v0 v1 v2 qc
                  generalize wc.drewN nq = x0 at *
                  have BT3 : Hid (Both P delay i z zo zm y L va es x0) := BT2.out.below DQ.out
                  have B3 : Hid (Below w.heap.size w x0) := B2.out.trans (DQ.out.mono B2.out.size)
                  have BV3 : Hid (Bv x0 bv A (q : Nat) C) := VV.out.below DQ.out VV.out.lt
                  have HQL : Hid (q < L.out.length) := hql
                  go_upto_region 43 with fail
                  refine wp_region_tree (.read 0 (.read 1 (.read 2 (.read 3 (.read 4 (.read 5 .leaf)))))) [(false, 0), (false, 1), (false, 2), (false, 3), (false, 4), (false, 5)] [(false, 6)] (fun V => V.cell? ⟨bv, 1, none⟩ = some (.int .i64 (q : Nat))) (by kernel_rfl) (by kernel_rfl) (by kernel_rfl) (by decide +kernel) (by decide +kernel) e1 ?_
                  have D3 : Hid (Below x0.heap.size x0 { x0 with drawn := x0.drawn + 1 }) := (Below.refl _ _).drew
                  have e4 : ({ x0 with drawn := x0.drawn + 1 } : World).cell? ⟨y, 3 + q, none⟩ = some (.bool false) := e3
                  clear e1 e3
                  generalize ({ x0 with drawn := x0.drawn + 1 } : World) = x4 at *
                  have BT4 : Hid (Both P delay i z zo zm y L va es x4) := BT3.out.below D3.out
                  have B4 : Hid (Below w.heap.size w x4) := B3.out.trans (D3.out.mono B3.out.size)
                  have BV4 : Hid (Bv x4 bv A (q : Nat) C) := BV3.out.below D3.out BV3.out.lt
                  clear BT3 BV3 D3 B3
                  refine tr_read rfl (.pointer (some ⟨y, 0, none⟩)) (by go_simp) (fun V hV => by go_simp) ?_
                  go_simp
                  refine tr_read rfl (.pointer (some ⟨bv, 1, none⟩)) (by go_simp) (fun V hV => by go_simp) ?_
                  go_simp
                  refine tr_read rfl (.int .i64 (q : Nat)) (by go_simp) (fun V hV => by have hV := hV; go_simp) ?_
                  go_simp
                  refine tr_read rfl (.pointer (some ⟨y, 0, none⟩)) (by go_simp) (fun V hV => by go_simp) ?_
                  go_simp
                  refine tr_read rfl (.pointer (some ⟨y, 3, none⟩)) (by go_simp) (fun V hV => by go_simp) ?_
                  go_simp
                  refine tr_read rfl (.pointer (some ⟨y, 3 + q, none⟩)) (by go_simp) (fun V hV => by go_simp) ?_
                  go_simp
                  obtain ⟨k1, k2, k3⟩ := drops BT4.out.r hq4 HQL.out
                  have R5 : Hid (RLk (x4.setCell ⟨y, 3 + q, none⟩ (.bool true)) y (y + 1) P (L.drop q) va es ∧ RFr y va x4 (x4.setCell ⟨y, 3 + q, none⟩ (.bool true))) := ⟨k1, k2⟩
                  have K5 : Hid (Lk (x4.setCell ⟨y, 3 + q, none⟩ (.bool true)) z zo zm L) := BT4.out.r.lk BT4.out.k k2 YZ.out.1 YZ.out.2.1 YZ.out.2.2.1
                  have B5 : Hid (Below w.heap.size w (x4.setCell ⟨y, 3 + q, none⟩ (.bool true))) := B4.out.trans (k2.low B4.out.size YZ.out.2.2.2 (fun k hk => by have := (BT4.out.r.r.block k hk).1; have := YZ.out.2.2.2; omega))
                  have e5 : (x4.setCell ⟨y, 3 + q, none⟩ (.bool true)).cell? ⟨bv, 1, none⟩ = some (.int .i64 (q : Nat)) := by
                    have h1 := YB.out.1
                    rw [World.cell?_of_block (k2.block bv BV4.out.lt (by omega) (fun e => by have := SB.out.2 bv e; omega))]
                    exact BV4.out.cells.2.1
                  clear k1 k2
                  unfold wpTr
                  refine sched_skip rfl (x4.setCell ⟨y, 3 + q, none⟩ (.bool true)) (by go_simp) (by go_simp) trivial ?_
                  clear e4 k3
                  generalize (x4.setCell ⟨y, 3 + q, none⟩ (.bool true)) = x5 at *
                  go_simp
                  unfold wpSched
                  go_wp2_with fail
                  refine (ldrop_any z zo zm L _ x5 K5.out O4.out).mono ?_
                  rintro e x6 ⟨r1, rfl, hr, hc, hf⟩
                  rw [DF0.out] at hr hc
                  have B6 : Hid (Below w.heap.size w x6) := B5.out.trans (hf.low B5.out.size HZ.out.1 HZ.out.2.1 HZ.out.2.2)
                  have T1 : Hid (Both P delay (i + 1) z zo zm y (L.drop q) va es x6) := by
                    rcases hc with ⟨-, h⟩ | ⟨h, -⟩
                    · rw [Int.toNat_natCast] at h
                      exact BT4.out.drop h (R5.out.1.lf hf YZ.out.1 YZ.out.2.1 YZ.out.2.2.1)
                    · exact absurd rfl h
                  have ER : Hid (Er r1 0) := hr
                  clear hr hc hf e5
                  go_wp2_with fail
                  refine (er_same r1 0 x6 ER.out (ET.out.below B6.out)).mono ?_
                  rintro e x7 ⟨rfl, b7⟩
                  have FIN : Hid (Both P delay (i + 1) z zo zm y (L.drop q) va es x7 ∧ Below w.heap.size w x7) := ⟨T1.out.below b7, B6.out.trans (b7.mono B6.out.size)⟩
                  clear b7
                  go_wp2_with fail
                  go_meet
                  case rel => exact ⟨rfl, ⟨_, _, _, FIN.out.1⟩, FIN.out.2⟩
          case neg =>
            as_aux_lemma =>
              have a3b : (A == 3) = false := beq_eq_false_iff_ne.2 a3
              clear a3 v0 v1 v2
              have c2 : wc.cell? ⟨y, 2, none⟩ = some (.int .i64 L.now) := BT2.out.r.cells.2.2.1
              have O4 : Hid (L.out.length ≤ 4 ∧ 0 ≤ L.now ∧ L.now ≤ 1000000 ∧ es.length ≤ 1000) := by have h1 := BT2.out.ol; have h2 := EP.out; have h3 := BT2.out.n; have h4 := IL.out; have h5 := BT2.out.el; unfold Hid; omega
              go_wp2_with fail
              refine (rtake_any y (y + 1) P L va es wc BT2.out.r BT2.out.ol EP.out.2.2 ⟨O4.out.2.1, O4.out.2.2.1⟩ O4.out.2.2.2 BT2.out.rl BT2.out.s).mono ?_
              rintro e x1 ⟨u1, n1, rfl, hg, hc⟩
              have B1' : Hid (Below w.heap.size w x1) := B2.out.trans (hg.low B2.out.size YZ.out.2.2.2 (fun k hk => by have := (BT2.out.r.r.block k hk).1; have := YZ.out.2.2.2; omega))
              have K1' : Hid (Lk x1 z zo zm L) := BT2.out.r.lk BT2.out.k hg YZ.out.1 YZ.out.2.1 YZ.out.2.2.1
              have HC : Hid ((L.waits ≠ [] ∧ n1 = 7 ∧ u1 = .slice none 0 0 ∧ RLk x1 y (y + 1) P L va es) ∨ (L.waits = [] ∧ Od.faults L.ls.flatten ≠ 0 ∧ n1 = Od.faults L.ls.flatten ∧ u1 = .slice none 0 0 ∧ RLk x1 y (y + 1) P L va es) ∨ (L.waits = [] ∧ Od.faults L.ls.flatten = 0 ∧ n1 = 0 ∧ (∃ out, LastSays L.ls.flatten out ∧ Oro x1 wc.heap.size u1 out) ∧ RLk x1 y (y + 1) P L.took va es)) := hc
              clear hg hc c2
              go_wp2_with fail
              refine (ltake_any z zo zm L x1 K1'.out O4.out.1 ⟨O4.out.2.1, O4.out.2.2.1⟩ BT2.out.s).mono ?_
              rintro e x2 ⟨n2, u2, r2, rfl, hf, hc2⟩
              have B2' : Hid (Below w.heap.size w x2) := B1'.out.trans (hf.low B1'.out.size HZ.out.1 HZ.out.2.1 HZ.out.2.2)
              by_cases ok : n1 = 0
              case pos =>
                subst ok
                obtain ⟨hw0, hf0, ⟨out, hls, hoo⟩, hr1⟩ : L.waits = [] ∧ Od.faults L.ls.flatten = 0 ∧ (∃ out, LastSays L.ls.flatten out ∧ Oro x1 wc.heap.size u1 out) ∧ RLk x1 y (y + 1) P L.took va es := by
                  rcases HC.out with ⟨-, h, -⟩ | ⟨-, h1, h2, -⟩ | ⟨h1, h2, -, h3, h4⟩
                  · exact absurd h (by decide)
                  · exact absurd h2.symm h1
                  · exact ⟨h1, h2, h3, h4⟩
                obtain ⟨rfl, rfl, ⟨out2, hls2, hoo2⟩, hk2⟩ : n2 = L.now ∧ r2 = .nilIface ∧ (∃ out, LastSays L.ls.flatten out ∧ Oro x2 x1.heap.size u2 out) ∧ Lk x2 z zo zm L.took := by
                  rcases hc2 with ⟨h, -⟩ | ⟨-, h, -⟩ | ⟨-, -, h1, h2, h3, h4⟩
                  · exact absurd hw0 h
                  · exact absurd hf0 h
                  · exact ⟨h1, h2, h3, h4⟩
                obtain rfl := hls2.one hls
                have OO : Hid (Orl x2 u2 out2 ∧ Orl x2 u1 out2) := ⟨hoo2.l, (K1'.out.oro hf hoo).l⟩
                have T2 : Hid (Both P delay (i + 1) z zo zm y L.took va es x2) := BT2.out.took hk2 (hr1.lf hf YZ.out.1 YZ.out.2.1 YZ.out.2.2.1)
                obtain ⟨a2, c2, rfl⟩ := hoo2.len
                obtain ⟨a1, c1', rfl⟩ := hoo.len
                clear hls hls2 hoo hoo2 hr1 hk2 hf hc2 hw0 hf0
                go_wp2_with fail
                refine (er_same .nilIface 0 x2 Er.nil (ET.out.below B2'.out)).mono ?_
                rintro e x3 ⟨rfl, b3⟩
                have B3' : Hid (Below w.heap.size w x3) := B2'.out.trans (b3.mono B2'.out.size)
                have T3 : Hid (Both P delay (i + 1) z zo zm y L.took va es x3) := T2.out.below b3
                have O3 : Hid (Orl x3 (.slice a2 out2.length c2) out2 ∧ Orl x3 (.slice a1 out2.length c1') out2) := ⟨OO.out.1.below b3, OO.out.2.below b3⟩
                clear b3 T2 OO
                go_wp2_with fail
                refine (orders_like _ _ out2 x3 O3.out.1 O3.out.2).mono ?_
                rintro e x4 ⟨rfl, b4⟩
                have FIN : Hid (Both P delay (i + 1) z zo zm y L.took va es x4 ∧ Below w.heap.size w x4) := ⟨T3.out.below b4, B3'.out.trans (b4.mono B3'.out.size)⟩
                clear b4
                go_wp2_with fail
                go_meet
                case rel => exact ⟨rfl, ⟨_, _, _, FIN.out.1⟩, FIN.out.2⟩
              case neg =>
                have ER : Hid (Er r2 n1 ∧ n2 = 0 ∧ u2 = .slice none 0 0 ∧ Lk x2 z zo zm L ∧ u1 = .slice none 0 0 ∧ RLk x1 y (y + 1) P L va es) := by
                  rcases HC.out with ⟨w1', rfl, e1, e2⟩ | ⟨w1', f1, rfl, e1, e2⟩ | ⟨-, -, h, -⟩
                  · rcases hc2 with ⟨-, h1, h2, h3, h4⟩ | ⟨h, -⟩ | ⟨h, -⟩
                    · exact ⟨h3, h1, h2, h4, e1, e2⟩
                    · exact absurd h w1'
                    · exact absurd h w1'
                  · rcases hc2 with ⟨h, -⟩ | ⟨-, -, h1, h2, h3, h4⟩ | ⟨-, h, -⟩
                    · exact absurd w1' h
                    · exact ⟨h3, h1, h2, h4, e1, e2⟩
                    · exact absurd h f1
                  · exact absurd h ok
                obtain ⟨her, rfl, rfl, hk2, rfl, hr1⟩ := ER.out
                have okb : (n1 == 0) = false := beq_eq_false_iff_ne.2 ok
                have T2 : Hid (Both P delay (i + 1) z zo zm y L va es x2) := BT2.out.same hk2 (hr1.lf hf YZ.out.1 YZ.out.2.1 YZ.out.2.2.1)
                have E2 : Hid (Er r2 n1) := her
                clear hf hc2 her hk2 hr1 ER HC ok
                go_wp2_with fail
                refine (er_same r2 n1 x2 E2.out (ET.out.below B2'.out)).mono ?_
                rintro e x3 ⟨rfl, b3⟩
                have B3' : Hid (Below w.heap.size w x3) := B2'.out.trans (b3.mono B2'.out.size)
                have T3 : Hid (Both P delay (i + 1) z zo zm y L va es x3) := T2.out.below b3
                clear b3 T2
                have NIL : Hid (Orl x3 (.slice none 0 0) []) := ⟨none, 0, rfl, Nat.le_refl _, by omega, fun h => absurd rfl h⟩
                go_wp2_with fail
                refine (orders_like _ _ [] x3 NIL.out NIL.out).mono ?_
                rintro e x4 ⟨rfl, b4⟩
                have FIN : Hid (Both P delay (i + 1) z zo zm y L va es x4 ∧ Below w.heap.size w x4) := ⟨T3.out.below b4, B3'.out.trans (b4.mono B3'.out.size)⟩
                clear b4
                go_wp2_with fail
                go_meet
                case rel => exact ⟨rfl, ⟨_, _, _, FIN.out.1⟩, FIN.out.2⟩
      case rest =>
          as_aux_lemma =>
            obtain ⟨rfl, ⟨L2, va2, es2, hbo⟩, hb⟩ := hcut
            have T1 : Hid (Both P delay (i + 1) z zo zm y L2 va2 es2 wc) := hbo
            have B3 : Hid (Below w.heap.size w wc) := hb
            have NB : Hid ((Lit.int .i64 L2.now).wf = true ∧ L2.out.length ≤ 4 ∧ es2.length ≤ 1000000) := by
              have h1 := hbo.n
              have h2 := IL.out
              have h3 := EP.out
              have h4 := hbo.ol
              have h5 := hbo.el
              exact ⟨pmwf (by omega) (by omega), by omega, by omega⟩
            have IW : IntKind.i64.wrap ((i : Int) + 1) = (i : Int) + 1 := by have := IL.out; rw [IntKind.wrap_i64]; omega
            clear hbo hb v0 v1 v2 VV BT2 B2
            go_wp2_with fail
            refine (rwaits_any y (y + 1) P L2 va2 es2 wc T1.out.r NB.out.2.2 T1.out.ol EP.out.2.2 T1.out.rl).mono ?_
            rintro e x1 ⟨u26, rfl, ho, b1⟩
            have B1' : Hid (Below w.heap.size w x1) := B3.out.trans (b1.mono B3.out.size)
            have T2 : Hid (Both P delay (i + 1) z zo zm y L2 va2 es2 x1) := T1.out.below b1
            have OW : Hid (Ow x1 wc.heap.size u26 L2.waits) := ho
            obtain ⟨a26, c26, rfl⟩ := ho.len
            clear ho b1 T1
            go_wp2_with fail
            refine (lwaits_any z zo zm L2 x1 T2.out.k NB.out.2.1 NB.out.1).mono ?_
            rintro e x2 ⟨uw, rfl, ho2, b2⟩
            have B2' : Hid (Below w.heap.size w x2) := B1'.out.trans (b2.mono B1'.out.size)
            have T3 : Hid (Both P delay (i + 1) z zo zm y L2 va2 es2 x2) := T2.out.below b2
            have RR : Hid (Ro x2 uw L2.waits ∧ Ro x2 (.slice a26 L2.waits.length c26) L2.waits) := ⟨ho2.ro, (OW.out.below b2).ro⟩
            obtain ⟨aw, cw, rfl⟩ := ho2.len
            clear ho2 b2 T2 OW
            go_wp2_with fail
            refine (ints_like _ _ L2.waits x2 RR.out.1 RR.out.2).mono ?_
            rintro e x3 ⟨rfl, b3⟩
            have B3' : Hid (Below w.heap.size w x3) := B2'.out.trans (b3.mono B2'.out.size)
            have T3' : Hid (Both P delay (i + 1) z zo zm y L2 va2 es2 x3) := T3.out.below b3
            clear b3 T3 RR
            obtain ⟨nw, hnw⟩ : ∃ n, L2.waits.length = n := ⟨_, rfl⟩
            obtain ⟨bw, hbw⟩ : ∃ b, decide (L2.waits = []) = b := ⟨_, rfl⟩
            have HBW : Hid (decide (L2.waits = []) = bw) := hbw
            have NBW : ((nw : Int) == 0) = bw := by
              rw [← hbw, ← hnw]
              by_cases h : L2.waits = []
              · rw [h]; rfl
              · rw [decide_eq_false h]
                exact beq_eq_false_iff_ne.2 (fun e => h (List.length_eq_zero_iff.1 (by omega)))
            rw [hnw]
            clear hnw hbw
            go_upto_region 47 with fail
            have CB : Hid (∀ V, Below x3.heap.size x3 V → V.cell? ⟨y, 2, none⟩ = some (.int .i64 L2.now)) := fun V hV => (T3'.out.below hV).r.cells.2.2.1
            refine wp_region_tree (.read 0 (.read 1 (.read 2 (.read 3 (.read 4 (.read 5 (.read 6 (.read 7 (.read 9 (.read 10 (.read 11 (.read 12 (.one 8 (.read 13 (.read 14 (.read 15 (.read 16 (.read 18 (.read 19 (.read 20 (.one 17 (.read 21 .leaf)))))))))))))))))))))) [(false, 0), (false, 1), (false, 2), (false, 3), (false, 4), (false, 5), (false, 6), (false, 7), (false, 8), (false, 9), (false, 10), (false, 11), (false, 12), (false, 13), (false, 14), (false, 15), (false, 16), (false, 17), (false, 18), (false, 19), (false, 20), (false, 21)] [(false, 22)] (fun V => V.cell? ⟨y, 2, none⟩ = some (.int .i64 L2.now)) (by kernel_rfl) (by kernel_rfl) (by kernel_rfl) (by decide +kernel) (by decide +kernel) (CB.out _ (Below.refl _ _).drew) ?_
            have D3 : Hid (Below x3.heap.size x3 { x3 with drawn := x3.drawn + 1 }) := (Below.refl _ _).drew
            generalize ({ x3 with drawn := x3.drawn + 1 } : World) = x4 at *
            have B4' : Hid (Below w.heap.size w x4) := B3'.out.trans (D3.out.mono B3'.out.size)
            have T4 : Hid (Both P delay (i + 1) z zo zm y L2 va2 es2 x4) := T3'.out.below D3.out
            clear D3 B3' T3'
            refine tr_read rfl (.bool true) (by go_simp) (fun V hV => by go_simp) ?_
            go_simp
            refine tr_read rfl (.bool false) (by go_simp) (fun V hV => by go_simp) ?_
            go_simp
            refine tr_read rfl (.bool false) (by go_simp) (fun V hV => by go_simp) ?_
            go_simp
            refine tr_read rfl (.bool true) (by go_simp) (fun V hV => by go_simp) ?_
            go_simp
            refine tr_read rfl (.bool false) (by go_simp) (fun V hV => by go_simp) ?_
            go_simp
            refine tr_read rfl (.bool false) (by go_simp) (fun V hV => by go_simp) ?_
            go_simp
            refine tr_read rfl (.bool false) (by go_simp) (fun V hV => by go_simp) ?_
            go_simp
            refine tr_read rfl (.pointer (some ⟨z, 0, none⟩)) (by go_simp) (fun V hV => by go_simp) ?_
            go_simp
            refine tr_read rfl (.pointer (some ⟨y, 0, none⟩)) (by go_simp) (fun V hV => by have hV := hV; go_simp) ?_
            go_simp
            refine tr_read rfl (.pointer (some ⟨y, 0, none⟩)) (by go_simp) (fun V hV => by have hV := hV; go_simp) ?_
            go_simp
            refine tr_read rfl (.pointer (some ⟨y, 2, none⟩)) (by go_simp) (fun V hV => by have hV := hV; go_simp) ?_
            go_simp
            refine tr_read rfl (.int .i64 L2.now) (by go_simp) (fun V hV => by have hV := hV; go_simp) ?_
            go_simp
            refine tr_one ?_
            refine st_call rfl 15 #[.pointer (some ⟨z, 0, none⟩)] (by go_simp) (by go_simp) ?_
            refine (lnow_any z zo zm L2 x4 T4.out.k).mono ?_
            rintro e x5 ⟨rfl, b5⟩
            have B5 : Hid (Below w.heap.size w x5) := B4'.out.trans (b5.mono B4'.out.size)
            have T5 : Hid (Both P delay (i + 1) z zo zm y L2 va2 es2 x5) := T4.out.below b5
            refine ⟨_, rfl, T5.out.r.cells.2.2.1, ?_⟩
            clear b5
            go_simp
            refine tr_read rfl (.bool false) (by go_simp) (fun V hV => by go_simp) ?_
            go_simp
            refine tr_read rfl (.bool false) (by go_simp) (fun V hV => by go_simp) ?_
            go_simp
            refine tr_read rfl (.bool false) (by go_simp) (fun V hV => by go_simp) ?_
            go_simp
            refine tr_read rfl (.pointer (some ⟨z, 0, none⟩)) (by go_simp) (fun V hV => by go_simp) ?_
            go_simp
            refine tr_read rfl (.slice a26 nw c26) (by go_simp) (fun V hV => by go_simp) ?_
            go_simp
            refine tr_read rfl (.int .i64 (nw : Nat)) (by go_simp) (fun V hV => by go_simp) ?_
            go_simp
            refine tr_read rfl (.bool bw) (by go_simp) (fun V hV => by go_simp) ?_
            go_simp
            refine tr_one ?_
            refine st_call rfl 16 #[.pointer (some ⟨z, 0, none⟩)] (by go_simp) (by go_simp) ?_
            refine (lready_any z zo zm L2 x5 T5.out.k NB.out.2.1 NB.out.1).mono ?_
            rintro e x6 ⟨rfl, b6⟩
            rw [HBW.out]
            have B6 : Hid (Below w.heap.size w x6) := B5.out.trans (b6.mono B5.out.size)
            have T6 : Hid (Both P delay (i + 1) z zo zm y L2 va2 es2 x6) := T5.out.below b6
            refine ⟨_, rfl, T6.out.r.cells.2.2.1, ?_⟩
            clear b6
            go_simp
            have NE : (bw != bw) = false := by cases bw <;> rfl
            refine tr_read rfl (.bool false) (by go_simp) (fun V hV => by go_simp) ?_
            go_simp
            unfold wpTr
            refine sched_value rfl (.bool false) x6 (by go_simp) (by go_simp) trivial ?_
            go_simp
            unfold wpSched
            go_wp2
            go_round
            case rel => exact ⟨i + 1, by have := IL.out; omega, by have := IL.out; omega, by go_num, ⟨L2, va2, es2, T6.out⟩, B6.out⟩
            case measure => have := IL.out; simp [intOf]; omega
end Go.Proofs.YtbomnicnoanjlaaDoor.lockWaits

