/- How far each cell is from one, as the program finds it: it goes on from the cells of a list till there is none. · Lands: how far it is to a cell, and from one. · The next cell on a way, the way, and what may be reached: plain mathematics. · The calls of package path: what they say where something is wrong; how far it is. · The calls of package path: what may be reached. · works.Spot: the nearest cell that will do; whether nobody is on a cell. · works.Spot: where a new unit would come. · A unit that is put keeps a world right, and its cell is taken then. Plain mathematics. · works.Train as mathematics: who waits, who comes, who stays. · What stays while jobs are looked at. · world.checkPlace. · world.Place. · works.come. · Jobs in a block that may be written. -/
import Derived.Test.YtolmfekefjnggaaDoorZWorksWeigh5
import Derived.Test.YtolmfekefjnggaaDoorZWorksWeigh2
import Derived.Test.YtolmfekefjnggaaDoorZWorksWeigh1
import Derived.Test.YtolmfekefjnggaaDoorZWorksWeigh3
import Derived.Test.YtolmfekefjnggaaDoorZWorksWeigh4
namespace Go.Proofs.YtolmfekefjnggaaDoor
open Go.RowKit Wy
set_option linter.unusedVariables false

/-- what is left, as memory has it. -/
def wleft (w : World) (b M : Nat) : Nat := match w.heap[b]? with
  | some (.cells cs _ _) => left M (cs.toList.map intOf)
  | _ => 0
theorem Bk.left {w : World} {b : Nat} {l : List Int} (h : Bk w b l #[]) (M : Nat) : wleft w b M = Wy.left M l := by
  unfold Bk at h
  unfold wleft
  rw [h]
  simp [intCells, intOf, Function.comp_def]
/-- how long a slice is. -/
def vlen : Value → Nat
  | .slice _ n _ => n
  | _ => 0
theorem Qu.vlen {w : World} {base : Nat} {v : Value} {xs : List Int} (h : Qu w base v xs) : vlen v = xs.length := by
  obtain ⟨g, off, cap, cur, h1, -⟩ := h
  rw [h1]
  rfl

theorem cell_new {w : World} {z : Nat} (d : Value) (hz : w.heap.size = z) : (w.alloc (Obj.cells #[d] 3)).cell? ⟨z, 0, none⟩ = some d := by
  subst hz
  simp

def ints (td : List Nat) : List Int := td.map Int.ofNat
theorem ints_len (td : List Nat) : (ints td).length = td.length := by simp [ints]

set_option maxRecDepth 100000 in
set_option maxHeartbeats 4000000 in
theorem spread_ok (K : Nat) (eK : ∀ args w, (callFunc K args).run Tryd.prog w = .ok (.enter K args) w) (q v : Value) (n t : Nat) (nb : Nat → List Int) (ss : List Int) (st : Nat → Nat → Int) (w : World) (h : Ld w v n nb ss) (E : Even nb st n) (ht : t < n) (hn : n ≤ 144) (h4 : ∀ i, (nb i).length ≤ 4)
    (hon : ∀ w' (i j : Nat), i < n → j < n → Below w.heap.size w w' → Calls Tryd.prog K #[.int .i64 (i : Nat), .int .i64 (j : Nat), q] w' fun e w'' => e = .returned (.int .i64 (st j i)) ∧ w'' = w') :
    Calls Tryd.prog 107 #[v, .int .i64 (t : Nat), .func (Fn.func K) #[] #[q]] w fun e w' => ∃ b l, e = .returned (.slice (some ⟨b, 0, none⟩) n n) ∧ w.heap.size ≤ b ∧ Bk w' b l #[] ∧ (IsFar nb st t n l ∧ Flat l) ∧ Below w.heap.size w w' := by
  obtain ⟨u1, u2, rfl, ⟨x, c, rfl, c1, c2, hx⟩, ⟨a2, d, rfl, d1, d2, ca⟩, hl⟩ := h
  rw [hl] at d1 ⊢
  have Hx : Hid (∀ i, i < n → ∃ u, w.cell? (x.add i) = some u ∧ Ro w u (nb i)) := hx
  have Ho : Hid (∀ w' (i j : Nat), i < n → j < n → Below w.heap.size w w' → Calls Tryd.prog K #[.int .i64 (i : Nat), .int .i64 (j : Nat), q] w' fun e w'' => e = .returned (.int .i64 (st j i)) ∧ w'' = w') := hon
  have H4 : Hid (∀ i, (nb i).length ≤ 4) := h4
  have E0 : Hid (Even nb st n) := E
  clear hx ca hon h4 E hl
  go_enter Tryd.func107, Tryd.ntmps107
  go_wp2_with fail
  refine (repeat_ok (-1) _ n _ (Ro.lit1 (w := w.alloc _) (-1) (by simp)) (by omega) hn).mono ?_
  rintro e w1 ⟨b, rfl, hbz, hbk, hbel⟩
  have bz : Hid (w.heap.size + 2 ≤ b) := by unfold Hid; simpa using hbz
  have B1 : Hid (Below w.heap.size w w1) := (((Below.refl _ _).alloc (Nat.le_refl _) _).alloc (by simp) _).trans (hbel.mono (by simp; omega))
  have X1 : Hid (Bl w1 w.heap.size (.slice (some x) n c) (.slice a2 n d)) := ((Bl.mk' (w := w) (.slice (some x) n c) (.slice a2 n d) rfl).below ((Below.refl _ _).alloc (Nat.le_refl _) (Obj.cells #[Value.int IntKind.i64 (-1)] 3)) (by simp)).below hbel (by simp; omega)
  have K1 : Hid (Bk w1 b (List.replicate n (-1)) #[]) := hbk
  have ct := hbk.cell (i := t) (d := -1) (by rw [List.getElem?_replicate, if_pos ht])
  have ft := hbk.thaw t
  clear hbz hbk hbel
  have k12 := Kp.set (z := b) w1 t (.int .i64 0)
  have K2 : Hid (Bk (w1.setCell ⟨b, t, none⟩ (.int .i64 0)) b ((List.replicate n (-1)).set t 0) #[]) := K1.out.set t 0 (by simp; exact ht)
  have X2 : Hid (Bl (w1.setCell ⟨b, t, none⟩ (.int .i64 0)) w.heap.size (.slice (some x) n c) (.slice a2 n d)) := X1.out.kp k12 (by have := bz.out; omega)
  have B2 : Hid (Below w.heap.size w (w1.setCell ⟨b, t, none⟩ (.int .i64 0))) := k12.below B1.out B1.out.size (by have := bz.out; omega)
  have Z2 : Hid ((w1.setCell ⟨b, t, none⟩ (.int .i64 0)).heap.size = w1.heap.size) := by unfold Hid; simp
  have bB : Hid (b < w1.heap.size) := K1.out.lt
  clear k12 K1 X1 B1
  go_wp2_with fail
  generalize w1.setCell ⟨b, t, none⟩ (.int .i64 0) = w2 at *
  clear ct ft
  obtain ⟨B, hB⟩ : ∃ B, w1.heap.size = B := ⟨_, rfl⟩
  rw [hB] at bB Z2 ⊢
  have Q3 : Hid (Qu (w2.alloc (Obj.cells #[.int .i64 (t : Nat)] 3)) B (.slice (some ⟨B, 0, none⟩) 1 1) (ints [t])) := Qu.one (w := w2) (t : Nat) (by rw [Z2.out]; exact Nat.le_refl _) Z2.out
  have b23 : Below w2.heap.size w2 (w2.alloc (Obj.cells #[.int .i64 (t : Nat)] 3)) := (Below.refl _ _).alloc (Nat.le_refl _) _
  have K3 : Hid (Bk (w2.alloc (Obj.cells #[.int .i64 (t : Nat)] 3)) b ((List.replicate n (-1)).set t 0) #[]) := K2.out.below b23
  have X3 : Hid (Bl (w2.alloc (Obj.cells #[.int .i64 (t : Nat)] 3)) w.heap.size (.slice (some x) n c) (.slice a2 n d)) := X2.out.below b23 X2.out.lt
  have B3 : Hid (Below w.heap.size w (w2.alloc (Obj.cells #[.int .i64 (t : Nat)] 3))) := B2.out.trans (b23.mono B2.out.size)
  have S3 : Hid (B ≤ (w2.alloc (Obj.cells #[.int .i64 (t : Nat)] 3)).heap.size) := by
    have := b23.size
    rw [Z2.out] at this
    exact this
  generalize w2.alloc (Obj.cells #[.int .i64 (t : Nat)] 3) = w3 at *
  clear K2 X2 B2 Z2 b23 hB
  go_loopw [8] (fun v W' => ∃ l td, Qu W' B v (ints td) ∧ Bk W' b l #[] ∧ Wk nb st t n l td ∧ Bl W' w.heap.size (.slice (some x) n c) (.slice a2 n d) ∧ Below w.heap.size w W' ∧ B ≤ W'.heap.size ∧ 2 * left (2 * n + 1) l + td.length ≤ 100000) (fun v W' => 2 * wleft W' b (2 * n + 1) + vlen v)
  case atStart => exact ⟨_, [t], Q3, K3, Wk.start ht, X3, B3, S3, by have := left_start ht hn; simp only [List.length_cons, List.length_nil]; omega⟩
  case round =>
    obtain ⟨l, td, hq, hk, hw, hxx, hb, hsz, hmx⟩ := hrel
    clear Q3 K3 X3 B3 S3
    have Kb : Hid (Bk wr b l #[]) := hk
    have Ww : Hid (Wk nb st t n l td) := hw
    have X : Hid (Bl wr w.heap.size (.slice (some x) n c) (.slice a2 n d)) := hxx
    have Bw : Hid (Below w.heap.size w wr) := hb
    have Sz : Hid (B ≤ wr.heap.size) := hsz
    clear hk hw hxx hb hsz
    cases td with
    | nil =>
      obtain ⟨g, off, cap, cur, rfl, -, -, -⟩ := hq
      go_wp2
      go_ret
      exact ⟨b, l, rfl, by have := bz.out; omega, Kb, ⟨Ww.out.far E0.out, Ww.out.flat⟩, Bw⟩
    | cons a rest =>
      have Q : Hid (Qu wr B u8 (ints (a :: rest))) := hq
      have an : a < n := by
        obtain ⟨y, hy, -⟩ := Ww.out.todo a (List.mem_cons_self ..)
        have := (List.getElem?_eq_some_iff.1 hy).1
        rw [Ww.out.len] at this
        exact this
      obtain ⟨m0, hm0⟩ : ∃ m0, 2 * wleft wr b (2 * n + 1) + vlen u8 = m0 := ⟨_, rfl⟩
      have M0 : Hid (2 * wleft wr b (2 * n + 1) + vlen u8 = m0) := hm0
      have ML : Hid (2 * left (2 * n + 1) l + rest.length + 1 ≤ m0) := by
        unfold Hid
        rw [← hm0, Kb.out.left, hq.vlen, ints_len]
        simp only [List.length_cons]
        omega
      have m9 : m0 ≤ 100000 := by
        rw [← hm0, Kb.out.left, hq.vlen, ints_len]
        exact hmx
      clear hm0 hmx
      obtain ⟨g, off, cap, hu8, o1, o2, hc⟩ := Qu.first (x := (a : Int)) (xs := ints rest) hq
      subst hu8
      clear hq
      obtain ⟨u, hu, hr⟩ := Hx.out a an
      have hu' : wr.cell? (x.add a) = some u := by rw [Bw.out.cell (p := x.add a) (by have := cell_lt hu; rw [add_block] at this ⊢; exact this)]; exact hu
      have Hr0 : Hid (Ro w u (nb a)) := hr
      obtain ⟨a3, c3, rfl, e1, e2, -⟩ := hr
      have L4 := H4.out a
      have x0 := X.out.c0
      clear hu
      go_wp2_with fail
      clear hc x0 hu' o1 o2 ht
      go_loopw [8, 37] (fun v i W' => ∃ l rest k, i = .int .i64 (k : Nat) ∧ k ≤ (nb a).length ∧ Qu W' B v (ints (a :: rest)) ∧ Bk W' b l #[] ∧ Wiy nb st t n l a rest k ∧ Bl W' w.heap.size (.slice (some x) n c) (.slice a2 n d) ∧ Below w.heap.size w W' ∧ B ≤ W'.heap.size ∧ 2 * left (2 * n + 1) l + rest.length + 1 ≤ m0) (fun _ i _ => (nb a).length - (intOf i).toNat)
      case atStart => exact ⟨l, rest, 0, rfl, Nat.zero_le _, Q, Kb, ⟨Ww, fun q i hq => absurd hq (Nat.not_lt_zero _)⟩, X, Bw, Sz, ML⟩
      case round =>
        clear Q Kb Ww X ML
        obtain ⟨l, rest, k, rfl, hk, hq, hkb, hwi, hx, hb, hsz, hml⟩ := hrel
        have Q : Hid (Qu wr B u8 (ints (a :: rest))) := hq
        have Kb : Hid (Bk wr b l #[]) := hkb
        have Wiy : Hid (Wiy nb st t n l a rest k) := hwi
        have X : Hid (Bl wr w.heap.size (.slice (some x) n c) (.slice a2 n d)) := hx
        have Bw' : Hid (Below w.heap.size w wr) := hb
        have Sz' : Hid (B ≤ wr.heap.size) := hsz
        have ML : Hid (2 * left (2 * n + 1) l + rest.length + 1 ≤ m0) := hml
        clear hkb hwi hx hb hsz hml
        by_cases h0 : k = (nb a).length
        · have Wds : Hid (Wk nb st t n l rest) := by
            have := Wiy.out
            rw [h0] at this
            exact this.done E0.out
          subst h0
          obtain ⟨v', qv, sv⟩ := Qu.rest (x := (a : Int)) (xs := ints rest) Q.out
          have Q' : Hid (Qu wr B v' (ints rest)) := qv
          clear qv hq Q Wiy
          go_wp2
          go_round
          case rel => exact ⟨l, rest, Q', Kb, Wds, X, Bw', Sz', by have := ML.out; omega⟩
          case measure =>
            rw [Kb.out.left, Q'.out.vlen, ints_len]
            have := ML.out
            have := M0.out
            omega
        · have hkl : k < (nb a).length := by omega
          obtain ⟨j, hj, jn, -⟩ := E0.out.cell a _ an (List.getElem_mem hkl)
          have Hj : Hid ((nb a)[k]? = some (j : Int)) := by unfold Hid; rw [List.getElem?_eq_getElem hkl, hj]
          clear hj
          obtain ⟨a4, c4, e4, -, -, ca⟩ := Hr0.out.below Bw'.out
          injection e4 with e5 e6 e7
          subst e5
          obtain ⟨y, rfl, -, hy⟩ := ca (by intro h; rw [h] at hkl; simp at hkl)
          have cj := hy k _ Hj.out
          clear hy e6 e7 ca hq
          have l2 := E0.out.two j a
          obtain ⟨yv, hyv, y0⟩ := Wiy.out.wk.todo a (List.mem_cons_self ..)
          have ll : l.length = n := Wiy.out.wk.len
          obtain ⟨xv, hxv⟩ : ∃ xv, l[j]? = some xv := ⟨l[j]'(by rw [ll]; exact jn), List.getElem?_eq_getElem _⟩
          have tl := told_le l
          have fx := Wiy.out.wk.flat j xv hxv
          have fy := Wiy.out.wk.flat a yv hyv
          have xb : xv ≤ 288 := by omega
          have yb : yv ≤ 288 := by omega
          have xm : -1 ≤ xv := by
            rcases Wiy.out.wk.sound j xv hxv with h | h
            · omega
            · have := h.nonneg; omega
          have cx := Kb.out.cell hxv
          have cy := Kb.out.cell hyv
          have fz := Kb.out.thaw j
          clear tl fx fy ll
          go_wp2_with fail
          refine (Ho.out wr a j an jn Bw'.out).mono ?_
          rintro e w' ⟨rfl, rfl⟩
          obtain ⟨m, hm⟩ : ∃ m, st j a = m := ⟨_, rfl⟩
          have HD : Hid (st j a = m) := hm
          rw [hm] at l2 ⊢
          clear hm
          by_cases h1 : 0 < m
          · by_cases h2 : xv < 0
            · have HS := Wiy.out.set E0.out Hj.out hxv hyv (by rw [HD.out]; exact h1) (.inl h2)
              rw [HD.out, Int.add_comm m yv] at HS
              have HT : Hid (Wy.Wiy nb st t n (l.set j (yv + m)) a (rest ++ [j]) (k + 1) ∧ left (2 * n + 1) (l.set j (yv + m)) < left (2 * n + 1) l) := HS
              clear HS HD
              go_wp2
              go_quiet (fail)
              have kq : Below w'.heap.size w' (w'.drewN nq) := _root_.Go.below_drewN (Below.refl _ _) _
              have K5 : Hid (Bk (w'.drewN nq) b l #[]) := Kb.out.below kq
              have Q5 : Hid (Qu (w'.drewN nq) B u8 (ints (a :: rest))) := Q.out.below kq
              have X5 : Hid (Bl (w'.drewN nq) w.heap.size (.slice (some x) n c) (.slice a2 n d)) := X.out.below kq X.out.lt
              have B5 : Hid (Below w.heap.size w (w'.drewN nq)) := Bw'.out.trans (kq.mono Bw'.out.size)
              have S5 : Hid (B ≤ (w'.drewN nq).heap.size) := Nat.le_trans Sz'.out kq.size
              generalize w'.drewN nq = w5 at *
              clear Kb Q X Bw' Sz' kq cx cy fz cj
              have cx := K5.out.cell hxv
              have cy := K5.out.cell hyv
              have fz := K5.out.thaw j
              have k6 := Kp.set (z := b) w5 j (.int .i64 (yv + m))
              have K6 : Hid (Bk (w5.setCell ⟨b, j, none⟩ (.int .i64 (yv + m))) b (l.set j (yv + m)) #[]) := K5.out.set j (yv + m) (List.getElem?_eq_some_iff.1 hxv).1
              have Q6 : Hid (Qu (w5.setCell ⟨b, j, none⟩ (.int .i64 (yv + m))) B u8 (ints (a :: rest))) := Q5.out.kp k6 bB.out
              have X6 : Hid (Bl (w5.setCell ⟨b, j, none⟩ (.int .i64 (yv + m))) w.heap.size (.slice (some x) n c) (.slice a2 n d)) := X5.out.kp k6 (by have := bz.out; omega)
              have B6 : Hid (Below w.heap.size w (w5.setCell ⟨b, j, none⟩ (.int .i64 (yv + m)))) := k6.below B5.out B5.out.size (by have := bz.out; omega)
              have S6 : Hid (B ≤ (w5.setCell ⟨b, j, none⟩ (.int .i64 (yv + m))).heap.size) := Nat.le_trans S5.out k6.size
              clear k6 K5 Q5 X5 B5 S5 hxv hyv
              have RL : Hid ((ints (a :: rest)).length ≤ 1000000) := by
                unfold Hid
                rw [ints_len]
                simp only [List.length_cons]
                have := ML.out
                omega
              have Sb : Hid (b < B ∧ w.heap.size < B) := by
                have := bz.out
                have := bB.out
                exact ⟨by omega, by omega⟩
              have Ba : Hid (Below (w5.setCell ⟨b, j, none⟩ (.int .i64 (yv + m))).heap.size (w5.setCell ⟨b, j, none⟩ (.int .i64 (yv + m))) ((w5.setCell ⟨b, j, none⟩ (.int .i64 (yv + m))).alloc (Obj.cells #[.int .i64 (j : Nat)] 3))) := (Below.refl _ _).alloc (Nat.le_refl _) _
              have Cd : Hid (((w5.setCell ⟨b, j, none⟩ (.int .i64 (yv + m))).alloc (Obj.cells #[.int .i64 (j : Nat)] 3)).cell? ⟨w5.heap.size, 0, none⟩ = some (.int .i64 (j : Nat))) := cell_new (w := w5.setCell ⟨b, j, none⟩ (.int .i64 (yv + m))) _ (World.size_setCell _ _ _)
              go_wp2_with (at_builtin; refine app_q _ rfl _ _ rfl B _ (ints (a :: rest)) rfl (Q6.out.below Ba.out) ⟨w5.heap.size, 0, none⟩ (j : Nat) rfl Cd.out RL.out (Nat.le_trans S6.out Ba.out.size) ?_)
              intro v7 w7 q7 b7
              have ba := Ba.out
              have Q7 : Hid (Qu w7 B v7 (ints (a :: (rest ++ [j])))) := by
                have e : ints (a :: (rest ++ [j])) = ints (a :: rest) ++ [(j : Int)] := by simp [ints]
                unfold Hid
                rw [e]
                exact q7
              have K7 : Hid (Bk w7 b (l.set j (yv + m)) #[]) := (K6.out.below ba).low b7 Sb.out.1
              have X7 : Hid (Bl w7 w.heap.size (.slice (some x) n c) (.slice a2 n d)) := (X6.out.below ba X6.out.lt).below b7 Sb.out.2
              have B7 : Hid (Below w.heap.size w w7) := (B6.out.trans (ba.mono B6.out.size)).trans (b7.mono (Nat.le_of_lt Sb.out.2))
              have S7 : Hid (B ≤ w7.heap.size) := Nat.le_trans (Nat.le_trans S6.out ba.size) b7.size
              clear q7 b7 ba Ba Cd K6 Q6 X6 B6 S6 cx cy fz
              go_wp2
              go_round
              case rel => exact ⟨l.set j (yv + m), rest ++ [j], k + 1, by go_num, by omega, Q7, K7, HT.out.1, X7, B7, S7, by have := HT.out.2; have := ML.out; simp only [List.length_append, List.length_cons, List.length_nil]; omega⟩
              case measure => simp [intOf]; omega
            · have h2' : decide (xv < 0) = false := decide_eq_false h2
              by_cases h3 : yv + m < xv
              · have HS := Wiy.out.set E0.out Hj.out hxv hyv (by rw [HD.out]; exact h1) (.inr (by rw [HD.out]; omega))
                rw [HD.out, Int.add_comm m yv] at HS
                have HT : Hid (Wy.Wiy nb st t n (l.set j (yv + m)) a (rest ++ [j]) (k + 1) ∧ left (2 * n + 1) (l.set j (yv + m)) < left (2 * n + 1) l) := HS
                clear HS HD
                go_wp2
                go_quiet (fail)
                have kq : Below w'.heap.size w' (w'.drewN nq) := _root_.Go.below_drewN (Below.refl _ _) _
                have K5 : Hid (Bk (w'.drewN nq) b l #[]) := Kb.out.below kq
                have Q5 : Hid (Qu (w'.drewN nq) B u8 (ints (a :: rest))) := Q.out.below kq
                have X5 : Hid (Bl (w'.drewN nq) w.heap.size (.slice (some x) n c) (.slice a2 n d)) := X.out.below kq X.out.lt
                have B5 : Hid (Below w.heap.size w (w'.drewN nq)) := Bw'.out.trans (kq.mono Bw'.out.size)
                have S5 : Hid (B ≤ (w'.drewN nq).heap.size) := Nat.le_trans Sz'.out kq.size
                generalize w'.drewN nq = w5 at *
                clear Kb Q X Bw' Sz' kq cx cy fz cj
                have cx := K5.out.cell hxv
                have cy := K5.out.cell hyv
                have fz := K5.out.thaw j
                have k6 := Kp.set (z := b) w5 j (.int .i64 (yv + m))
                have K6 : Hid (Bk (w5.setCell ⟨b, j, none⟩ (.int .i64 (yv + m))) b (l.set j (yv + m)) #[]) := K5.out.set j (yv + m) (List.getElem?_eq_some_iff.1 hxv).1
                have Q6 : Hid (Qu (w5.setCell ⟨b, j, none⟩ (.int .i64 (yv + m))) B u8 (ints (a :: rest))) := Q5.out.kp k6 bB.out
                have X6 : Hid (Bl (w5.setCell ⟨b, j, none⟩ (.int .i64 (yv + m))) w.heap.size (.slice (some x) n c) (.slice a2 n d)) := X5.out.kp k6 (by have := bz.out; omega)
                have B6 : Hid (Below w.heap.size w (w5.setCell ⟨b, j, none⟩ (.int .i64 (yv + m)))) := k6.below B5.out B5.out.size (by have := bz.out; omega)
                have S6 : Hid (B ≤ (w5.setCell ⟨b, j, none⟩ (.int .i64 (yv + m))).heap.size) := Nat.le_trans S5.out k6.size
                clear k6 K5 Q5 X5 B5 S5 hxv hyv
                have RL : Hid ((ints (a :: rest)).length ≤ 1000000) := by
                  unfold Hid
                  rw [ints_len]
                  simp only [List.length_cons]
                  have := ML.out
                  omega
                have Sb : Hid (b < B ∧ w.heap.size < B) := by
                  have := bz.out
                  have := bB.out
                  exact ⟨by omega, by omega⟩
                have Ba : Hid (Below (w5.setCell ⟨b, j, none⟩ (.int .i64 (yv + m))).heap.size (w5.setCell ⟨b, j, none⟩ (.int .i64 (yv + m))) ((w5.setCell ⟨b, j, none⟩ (.int .i64 (yv + m))).alloc (Obj.cells #[.int .i64 (j : Nat)] 3))) := (Below.refl _ _).alloc (Nat.le_refl _) _
                have Cd : Hid (((w5.setCell ⟨b, j, none⟩ (.int .i64 (yv + m))).alloc (Obj.cells #[.int .i64 (j : Nat)] 3)).cell? ⟨w5.heap.size, 0, none⟩ = some (.int .i64 (j : Nat))) := cell_new (w := w5.setCell ⟨b, j, none⟩ (.int .i64 (yv + m))) _ (World.size_setCell _ _ _)
                go_wp2_with (at_builtin; refine app_q _ rfl _ _ rfl B _ (ints (a :: rest)) rfl (Q6.out.below Ba.out) ⟨w5.heap.size, 0, none⟩ (j : Nat) rfl Cd.out RL.out (Nat.le_trans S6.out Ba.out.size) ?_)
                intro v7 w7 q7 b7
                have ba := Ba.out
                have Q7 : Hid (Qu w7 B v7 (ints (a :: (rest ++ [j])))) := by
                  have e : ints (a :: (rest ++ [j])) = ints (a :: rest) ++ [(j : Int)] := by simp [ints]
                  unfold Hid
                  rw [e]
                  exact q7
                have K7 : Hid (Bk w7 b (l.set j (yv + m)) #[]) := (K6.out.below ba).low b7 Sb.out.1
                have X7 : Hid (Bl w7 w.heap.size (.slice (some x) n c) (.slice a2 n d)) := (X6.out.below ba X6.out.lt).below b7 Sb.out.2
                have B7 : Hid (Below w.heap.size w w7) := (B6.out.trans (ba.mono B6.out.size)).trans (b7.mono (Nat.le_of_lt Sb.out.2))
                have S7 : Hid (B ≤ w7.heap.size) := Nat.le_trans (Nat.le_trans S6.out ba.size) b7.size
                clear q7 b7 ba Ba Cd K6 Q6 X6 B6 S6 cx cy fz
                go_wp2
                go_round
                case rel => exact ⟨l.set j (yv + m), rest ++ [j], k + 1, by go_num, by omega, Q7, K7, HT.out.1, X7, B7, S7, by have := HT.out.2; have := ML.out; simp only [List.length_append, List.length_cons, List.length_nil]; omega⟩
                case measure => simp [intOf]; omega
              · have h3' : decide (yv + m < xv) = false := decide_eq_false h3
                have HS : Hid (Wy.Wiy nb st t n l a rest (k + 1)) := Wiy.out.skip Hj.out hxv hyv (fun h => by rw [HD.out]; omega)
                clear HD
                go_wp2
                go_quiet (fail)
                have kq : Below w'.heap.size w' (w'.drewN nq) := _root_.Go.below_drewN (Below.refl _ _) _
                have Q5 : Hid (Qu (w'.drewN nq) B u8 (ints (a :: rest))) := Q.out.below kq
                have K5 : Hid (Bk (w'.drewN nq) b l #[]) := Kb.out.below kq
                have X5 : Hid (Bl (w'.drewN nq) w.heap.size (.slice (some x) n c) (.slice a2 n d)) := X.out.below kq X.out.lt
                have B5 : Hid (Below w.heap.size w (w'.drewN nq)) := Bw'.out.trans (kq.mono Bw'.out.size)
                have S5 : Hid (B ≤ (w'.drewN nq).heap.size) := Nat.le_trans Sz'.out kq.size
                generalize w'.drewN nq = w5 at *
                clear Kb Q X Bw' Sz' kq cx cy fz cj
                go_wp2
                go_round
                case rel => exact ⟨l, rest, k + 1, by go_num, by omega, Q5, K5, HS, X5, B5, S5, ML⟩
                case measure => simp [intOf]; omega
          · have h1' : decide (0 < m) = false := decide_eq_false h1
            have HS : Hid (Wy.Wiy nb st t n l a rest (k + 1)) := Wiy.out.skip Hj.out hxv hyv (fun h => absurd (by rw [HD.out] at h; exact h) h1)
            clear HD
            go_wp2
            go_quiet (fail)
            have kq : Below w'.heap.size w' (w'.drewN nq) := _root_.Go.below_drewN (Below.refl _ _) _
            have Q5 : Hid (Qu (w'.drewN nq) B u8 (ints (a :: rest))) := Q.out.below kq
            have K5 : Hid (Bk (w'.drewN nq) b l #[]) := Kb.out.below kq
            have X5 : Hid (Bl (w'.drewN nq) w.heap.size (.slice (some x) n c) (.slice a2 n d)) := X.out.below kq X.out.lt
            have B5 : Hid (Below w.heap.size w (w'.drewN nq)) := Bw'.out.trans (kq.mono Bw'.out.size)
            have S5 : Hid (B ≤ (w'.drewN nq).heap.size) := Nat.le_trans Sz'.out kq.size
            generalize w'.drewN nq = w5 at *
            clear Kb Q X Bw' Sz' kq cx cy fz cj
            go_wp2
            go_round
            case rel => exact ⟨l, rest, k + 1, by go_num, by omega, Q5, K5, HS, X5, B5, S5, ML⟩
            case measure => simp [intOf]; omega
end Go.Proofs.YtolmfekefjnggaaDoor

namespace Go.Proofs.YtolmfekefjnggaaDoor
open Go.RowKit Wy
set_option linter.unusedVariables false

theorem enter_from : ∀ args w, (callFunc 108 args).run Tryd.prog w = .ok (.enter 108 args) w := by
  intro args w
  go_simp

set_option maxHeartbeats 1000000 in
theorem on_from (z n : Nat) (u1 u2 : Value) (ss : List Int) (i j : Nat) (w : World) (X : Bl w z u1 u2) (hu : Ro w u2 ss) (hl : ss.length = n) (hi : j < n) :
    Calls Tryd.prog 108 #[.int .i64 (i : Nat), .int .i64 (j : Nat), .pointer (some ⟨z, 0, none⟩)] w fun e w' => e = .returned (.int .i64 (ss.getD j 0)) ∧ w' = w := by
  obtain ⟨a, c, rfl, c1, c2, ca⟩ := hu
  obtain ⟨x, rfl, -, hx⟩ := ca (by intro e; rw [e] at hl; simp at hl; omega)
  have e : ss[j]? = some (ss.getD j 0) := by rw [List.getD_eq_getElem?_getD, List.getElem?_eq_getElem (by omega)]; rfl
  have cx := hx j _ e
  have x1 := X.c1
  generalize ss.getD j 0 = s at *
  rw [hl] at *
  clear hx ca e X
  go_enter Tryd.func108, Tryd.ntmps108
  go_wp2
  go_ret
  exact ⟨rfl, rfl⟩

set_option maxHeartbeats 1000000 in
theorem farFrom_ok (v : Value) (n t : Nat) (nb : Nat → List Int) (ss : List Int) (w : World) (h : Ld w v n nb ss) (E : Even nb (fun i _ => ss.getD i 0) n) (ht : t < n) (hn : n ≤ 144) (h4 : ∀ i, (nb i).length ≤ 4) :
    Calls Tryd.prog 97 #[v, .int .i64 (t : Nat)] w fun e w' => ∃ b l, e = .returned (.slice (some ⟨b, 0, none⟩) n n) ∧ w.heap.size ≤ b ∧ Bk w' b l #[] ∧ (IsFar nb (fun i _ => ss.getD i 0) t n l ∧ Flat l) ∧ Below w.heap.size w w' := by
  have L0 : Hid (Ld w v n nb ss) := h
  have E0 : Hid (Even nb (fun i _ => ss.getD i 0) n) := E
  have T0 : Hid (t < n ∧ n ≤ 144 ∧ ∀ i, (nb i).length ≤ 4) := ⟨ht, hn, h4⟩
  obtain ⟨u1, u2, rfl, hb1, hr2, hl⟩ := h
  have R2 : Hid (Ro w u2 ss ∧ ss.length = n) := ⟨hr2, hl⟩
  obtain ⟨x1, c1, e1, -⟩ := hb1
  obtain ⟨x2, c2, e2, -⟩ := hr2
  clear ht hn h4 E hl
  have b0 : Below w.heap.size w (w.alloc (Obj.cells #[u1, u2] 164)) := (Below.refl _ _).alloc (Nat.le_refl _) _
  have X0 : Hid (Bl (w.alloc (Obj.cells #[u1, u2] 164)) w.heap.size u1 u2) := Bl.mk' u1 u2 rfl
  have B0 : Hid (Below w.heap.size w (w.alloc (Obj.cells #[u1, u2] 164))) := b0
  clear b0
  have hon : ∀ w' (i j : Nat), i < n → j < n → Below (w.alloc (Obj.cells #[u1, u2] 164)).heap.size (w.alloc (Obj.cells #[u1, u2] 164)) w' → Calls Tryd.prog 108 #[.int .i64 (i : Nat), .int .i64 (j : Nat), .pointer (some ⟨w.heap.size, 0, none⟩)] w' fun e w'' => e = .returned (.int .i64 ((fun i _ => ss.getD i 0) j i)) ∧ w'' = w' := fun w' i j hi hj hb =>
    on_from w.heap.size n u1 u2 ss i j w' (X0.out.below hb X0.out.lt) ((R2.out.1.below B0.out).below hb) R2.out.2 hj
  have Ho : Hid (∀ w' (i j : Nat), i < n → j < n → Below (w.alloc (Obj.cells #[u1, u2] 164)).heap.size (w.alloc (Obj.cells #[u1, u2] 164)) w' → Calls Tryd.prog 108 #[.int .i64 (i : Nat), .int .i64 (j : Nat), .pointer (some ⟨w.heap.size, 0, none⟩)] w' fun e w'' => e = .returned (.int .i64 ((fun i _ => ss.getD i 0) j i)) ∧ w'' = w') := hon
  clear hon
  subst e1
  subst e2
  go_enter Tryd.func97, Tryd.ntmps97
  go_wp2_with fail
  refine (spread_ok 108 enter_from _ _ n t nb ss _ _ (L0.out.below B0.out) E0.out T0.out.1 T0.out.2.1 T0.out.2.2 Ho.out).mono ?_
  rintro e w1 ⟨b, l, rfl, hbz, hbk, hf, hb⟩
  have P : Hid (w.heap.size ≤ b ∧ Bk w1 b l #[] ∧ (IsFar nb (fun i _ => ss.getD i 0) t n l ∧ Flat l) ∧ Below w.heap.size w w1) := ⟨Nat.le_trans B0.out.size hbz, hbk, hf, B0.out.trans (hb.mono B0.out.size)⟩
  clear hbz hbk hf hb Ho
  go_wp2
  go_ret
  exact ⟨b, l, rfl, P.out.1, P.out.2.1, P.out.2.2.1, P.out.2.2.2⟩
end Go.Proofs.YtolmfekefjnggaaDoor

namespace Go.Proofs.YtolmfekefjnggaaDoor.Wy

theorem any_take {p : Int → Bool} {xs : List Int} {k m : Nat} {x : Int} (h : (xs.take k).any p = false) (hm : m < k) (hx : xs[m]? = some x) : p x = false := by
  rw [List.any_eq_false] at h
  have := h x (by
    rw [List.mem_iff_getElem?]
    exact ⟨m, by rw [List.getElem?_take, if_pos hm]; exact hx⟩)
  cases hp : p x with
  | false => rfl
  | true => exact absurd hp this
theorem fst_uniq {p : Int → Bool} {xs : List Int} {r r' : Int} (h : Fst p xs r) (h' : Fst p xs r') : r = r' := by
  rcases h with ⟨rfl, h⟩ | ⟨k, x, rfl, h1, h2, h3⟩
  · rcases h' with ⟨rfl, h'⟩ | ⟨k', x', rfl, h1', h2', h3'⟩
    · rfl
    · rw [List.any_eq_false] at h
      exact absurd h2' (h x' (List.mem_of_getElem? h1'))
  · rcases h' with ⟨rfl, h'⟩ | ⟨k', x', rfl, h1', h2', h3'⟩
    · rw [List.any_eq_false] at h'
      exact absurd h2 (h' x (List.mem_of_getElem? h1))
    · rcases Nat.lt_trichotomy k k' with hk | hk | hk
      · have := any_take h3' hk h1
        rw [h2] at this
        cases this
      · rw [hk]
      · have := any_take h3 hk h1'
        rw [h2'] at this
        cases this
theorem fst_ex (p : Int → Bool) (xs : List Int) : ∃ r, Fst p xs r := by
  have key : ∀ k, k ≤ xs.length → (∃ r, Fst p xs r) ∨ (xs.take k).any p = false := by
    intro k
    induction k with
    | zero => intro _; exact .inr (by simp)
    | succ k ih =>
      intro hk
      rcases ih (by omega) with h | h
      · exact .inl h
      · cases hp : p xs[k] with
        | true => exact .inl ⟨k, .inr ⟨k, xs[k], rfl, List.getElem?_eq_getElem (by omega), hp, h⟩⟩
        | false => exact .inr (by rw [any_next (by omega), h, hp]; rfl)
  rcases key xs.length (Nat.le_refl _) with h | h
  · exact h
  · rw [List.take_of_length_le (Nat.le_refl _)] at h
    exact ⟨-1, .inl ⟨rfl, h⟩⟩

/-- x is on a shortest way from i. -/
def pn (ss l : List Int) (i : Nat) (x : Int) : Bool := decide (0 < ss.getD x.toNat 0) && (decide (0 ≤ l.getD x.toNat 0) && decide (ss.getD x.toNat 0 + l.getD x.toNat 0 = l.getD i 0))
/-- j is the first beside i that is. -/
def Nx (nb : Nat → List Int) (ss l : List Int) (i j : Nat) : Prop := ∃ k : Nat, (nb i)[k]? = some (j : Int) ∧ pn ss l i j = true ∧ ((nb i).take k).any (pn ss l i) = false
theorem take_any {p : Int → Bool} {xs : List Int} {k m : Nat} {x : Int} (h : (xs.take k).any p = false) (hm : m < k) (hx : xs[m]? = some x) : p x = false := by
  rw [List.any_eq_false] at h
  have := h x (by
    rw [List.mem_iff_getElem?]
    exact ⟨m, by rw [List.getElem?_take, if_pos hm]; exact hx⟩)
  cases hp : p x with
  | false => rfl
  | true => exact absurd hp this
theorem Nx.uniq {nb : Nat → List Int} {ss l : List Int} {i j j' : Nat} (h : Nx nb ss l i j) (h' : Nx nb ss l i j') : j = j' := by
  obtain ⟨k, h1, h2, h3⟩ := h
  obtain ⟨k', h1', h2', h3'⟩ := h'
  rcases Nat.lt_trichotomy k k' with hk | hk | hk
  · have := take_any h3' hk h1
    rw [h2] at this
    cases this
  · subst hk
    rw [h1] at h1'
    injection h1' with h1'
    omega
  · have := take_any h3 hk h1'
    rw [h2'] at this
    cases this
theorem pn_true {ss l : List Int} {i : Nat} {x : Int} (h : pn ss l i x = true) : 0 < ss.getD x.toNat 0 ∧ 0 ≤ l.getD x.toNat 0 ∧ ss.getD x.toNat 0 + l.getD x.toNat 0 = l.getD i 0 := by
  unfold pn at h
  simp only [Bool.and_eq_true, decide_eq_true_eq] at h
  exact h
theorem Nx.is {nb : Nat → List Int} {ss l : List Int} {i j : Nat} (h : Nx nb ss l i j) : (j : Int) ∈ nb i ∧ 0 < ss.getD j 0 ∧ 0 ≤ l.getD j 0 ∧ ss.getD j 0 + l.getD j 0 = l.getD i 0 := by
  obtain ⟨k, h1, h2, -⟩ := h
  have := pn_true h2
  rw [Int.toNat_natCast] at this
  exact ⟨List.mem_of_getElem? h1, this⟩
/-- what IndexFunc finds. -/
theorem fst_nx {nb : Nat → List Int} {ss l : List Int} {i n : Nat} {r : Int} (E : ∀ x, x ∈ nb i → ∃ j : Nat, x = j ∧ j < n) (h : Fst (pn ss l i) (nb i) r) (hx : ∃ x ∈ nb i, pn ss l i x = true) : ∃ k j : Nat, r = k ∧ j < n ∧ (nb i)[k]? = some (j : Int) ∧ Nx nb ss l i j := by
  rcases h with ⟨_, h⟩ | ⟨k, x, h1, h2, h3, h4⟩
  · obtain ⟨x, hm, hp⟩ := hx
    rw [List.any_eq_false] at h
    exact absurd hp (h x hm)
  · obtain ⟨j, rfl, hj⟩ := E x (List.mem_of_getElem? h2)
    exact ⟨k, j, h1, hj, h2, k, h2, h3, h4⟩
theorem getD_of {l : List Int} {i : Nat} {x : Int} (h : l[i]? = some x) : l.getD i 0 = x := by rw [List.getD_eq_getElem?_getD, h]; rfl
/-- from where a way leads, one is there. -/
theorem has_next {nb : Nat → List Int} {ss l : List Int} {t n i : Nat} (E : Even nb (fun _ j => ss.getD j 0) n) (h : IsFar nb (fun _ j => ss.getD j 0) t n l) (hi : i < n) (h0 : 0 ≤ l.getD i 0) (ht : i ≠ t) : ∃ x ∈ nb i, pn ss l i x = true := by
  have hl : i < l.length := by rw [h.1]; exact hi
  have e := List.getElem?_eq_getElem hl
  rw [getD_of e] at h0
  obtain ⟨j, y, h1, h2, h3, h4, h5⟩ := h.next E.lt e h0 ht
  refine ⟨j, h1, ?_⟩
  unfold pn
  rw [Int.toNat_natCast, getD_of h2, getD_of e, decide_eq_true h3, decide_eq_true h4, decide_eq_true h5.symm]
  rfl

/-- j is the next cell; whereto itself, if it is there. -/
def Nxt (nb : Nat → List Int) (ss l : List Int) (t i j : Nat) : Prop := (i = t ∧ j = i) ∨ (i ≠ t ∧ Nx nb ss l i j)
theorem Nxt.uniq {nb : Nat → List Int} {ss l : List Int} {t i j j' : Nat} (h : Nxt nb ss l t i j) (h' : Nxt nb ss l t i j') : j = j' := by
  rcases h with ⟨h1, h2⟩ | ⟨h1, h2⟩
  · rcases h' with ⟨_, h4⟩ | ⟨h3, _⟩
    · rw [h2, h4]
    · exact absurd h1 h3
  · rcases h' with ⟨h3, _⟩ | ⟨_, h4⟩
    · exact absurd h3 h1
    · exact h2.uniq h4

/-- p is the way from a cell. -/
inductive Pth (nb : Nat → List Int) (ss l : List Int) (t : Nat) : Nat → List Int → Prop
  | here : Pth nb ss l t t [(t : Int)]
  | step {i j : Nat} {p : List Int} : i ≠ t → Nx nb ss l i j → Pth nb ss l t j p → Pth nb ss l t i ((i : Int) :: p)
theorem Pth.uniq {nb : Nat → List Int} {ss l : List Int} {t i : Nat} {p p' : List Int} (h : Pth nb ss l t i p) (h' : Pth nb ss l t i p') : p = p' := by
  induction h generalizing p' with
  | here =>
    cases h' with
    | here => rfl
    | step h1 _ _ => exact absurd rfl h1
  | step h1 h2 h3 ih =>
    cases h' with
    | here => exact absurd rfl h1
    | step h1' h2' h3' =>
      have := h2.uniq h2'
      subst this
      rw [ih h3']
theorem Pth.head {nb : Nat → List Int} {ss l : List Int} {t i : Nat} {p : List Int} (h : Pth nb ss l t i p) : p[0]? = some (i : Int) := by
  cases h <;> rfl
theorem Pth.last {nb : Nat → List Int} {ss l : List Int} {t i : Nat} {p : List Int} (h : Pth nb ss l t i p) : p.getLast? = some (t : Int) := by
  induction h with
  | here => rfl
  | step h1 h2 h3 ih =>
    rename_i i j p
    cases p with
    | nil => simp at ih
    | cons a p => rw [List.getLast?_cons_cons]; exact ih
/-- the second cell of a way. -/
theorem Pth.second {nb : Nat → List Int} {ss l : List Int} {t i : Nat} {p : List Int} (h : Pth nb ss l t i p) (hi : i ≠ t) : ∃ j : Nat, p[1]? = some (j : Int) ∧ Nx nb ss l i j := by
  cases h with
  | here => exact absurd rfl hi
  | step h1 h2 h3 => exact ⟨_, by simpa using h3.head, h2⟩

/-- of the first k cells those that are no further than most. -/
def rch (l : List Int) (most : Int) (k : Nat) : List Int := ((List.range k).filter fun i => decide (0 ≤ l.getD i 0 ∧ l.getD i 0 ≤ most)).map Int.ofNat
theorem rch_zero (l : List Int) (most : Int) : rch l most 0 = [] := rfl
theorem rch_succ (l : List Int) (most : Int) (k : Nat) : rch l most (k + 1) = rch l most k ++ (if 0 ≤ l.getD k 0 ∧ l.getD k 0 ≤ most then [(k : Int)] else []) := by
  unfold rch
  rw [List.range_succ, List.filter_append, List.map_append]
  congr 1
  by_cases h : 0 ≤ l.getD k 0 ∧ l.getD k 0 ≤ most
  · rw [if_pos h, List.filter_cons_of_pos (by simpa using h)]
    rfl
  · rw [if_neg h, List.filter_cons_of_neg (by simpa using h)]
    rfl
theorem rch_len (l : List Int) (most : Int) (k : Nat) : (rch l most k).length ≤ k := by
  unfold rch
  rw [List.length_map]
  exact Nat.le_trans (List.length_filter_le _ _) (by simp)
theorem rch_mem {l : List Int} {most : Int} {k : Nat} {x : Int} : x ∈ rch l most k ↔ ∃ i : Nat, x = i ∧ i < k ∧ 0 ≤ l.getD i 0 ∧ l.getD i 0 ≤ most := by
  unfold rch
  simp only [List.mem_map, List.mem_filter, List.mem_range, decide_eq_true_eq]
  constructor
  · rintro ⟨i, ⟨h1, h2⟩, rfl⟩
    exact ⟨i, rfl, h1, h2⟩
  · rintro ⟨i, rfl, h1, h2⟩
    exact ⟨i, ⟨h1, h2⟩, rfl⟩
theorem rch_rise (l : List Int) (most : Int) (k : Nat) : (rch l most k).Pairwise (· < ·) := by
  unfold rch
  rw [List.pairwise_map]
  exact (List.pairwise_lt_range.filter _).imp (fun h => by simpa using h)
theorem get_some {l : List Int} {i n : Nat} (hl : l.length = n) (h : i < n) : l[i]? = some (l.getD i 0) := by rw [List.getD_eq_getElem?_getD, List.getElem?_eq_getElem (by omega)]; rfl
end Go.Proofs.YtolmfekefjnggaaDoor.Wy

namespace Go.Proofs.YtolmfekefjnggaaDoor
open Go.RowKit Wy
set_option linter.unusedVariables false

theorem onto_two (g : Int) (fl : Bool) : Fd.onto g fl ≤ 2 := by
  unfold Fd.onto
  repeat' split
  all_goals omega
theorem ss_two (gs : List Int) (fl : Bool) (j : Nat) : (gs.map fun g => Fd.onto g fl).getD j 0 ≤ 2 := by
  rw [List.getD_eq_getElem?_getD, List.getElem?_map]
  cases gs[j]? with
  | none => exact (by decide : (0 : Int) ≤ 2)
  | some g => exact onto_two g fl
theorem even_to {W H : Nat} (hW : 0 < W) (gs : List Int) (fl : Bool) : Even (Fd.near W H) (fun _ j => (gs.map fun g => Fd.onto g fl).getD j 0) (W * H) := even_near hW fun _ j => ss_two gs fl j
theorem even_from {W H : Nat} (hW : 0 < W) (gs : List Int) (fl : Bool) : Even (Fd.near W H) (fun i _ => (gs.map fun g => Fd.onto g fl).getD i 0) (W * H) := even_near hW fun i _ => ss_two gs fl i
theorem flat_le {n : Nat} {l : List Int} (h : Flat l) (hl : l.length = n) (hn : n ≤ 144) (j : Nat) : l.getD j 0 ≤ 288 := by
  rw [List.getD_eq_getElem?_getD]
  cases hx : l[j]? with
  | none => decide
  | some x =>
    have h1 := h j x hx
    have h2 := told_le l
    show x ≤ 288
    omega

theorem ask_all {F : Int} {n : Nat} {xs : List Int} : Fd.askFault F n xs = if F ≠ 0 then F else if xs.any (fun x => !decide (0 ≤ x ∧ x < (n : Int))) then 6 else 0 := by
  unfold Fd.askFault
  split
  · rfl
  · cases hx : xs.all (fun x => decide (0 ≤ x ∧ x < (n : Int))) with
    | true =>
      rw [if_pos rfl, if_neg]
      rw [List.all_eq_true] at hx
      simp only [List.any_eq_true, Bool.not_eq_true', not_exists, not_and]
      intro x hm
      rw [hx x hm]
      decide
    | false =>
      rw [if_neg (by decide), if_pos]
      rw [List.all_eq_false] at hx
      obtain ⟨x, hm, hx⟩ := hx
      exact List.any_eq_true.2 ⟨x, hm, by rw [Bool.not_eq_true] at hx; rw [hx]; rfl⟩

theorem look_no (v u : Value) (W H : Int) (gs os xs : List Int) (F : Int) (fl : Bool) (w : World) (h : Fl w v W H gs os) (hs : Sd w) (hu : Ro w u xs) (hF : Fd.askFault (Fd.fault W H gs os) gs.length xs = F) (h0 : F ≠ 0) :
    Calls Tryd.prog 96 #[v, .bool fl, u] w fun e w' => e = .returned (.tuple #[.agg #[.slice none 0 0, .slice none 0 0], .iface 69 (.int .i64 F)]) ∧ Below w.heap.size w w' := by
  rw [ask_all] at hF
  by_cases hf : Fd.fault W H gs os = 0
  · obtain ⟨W', H', rfl, rfl, G⟩ := Fd.fault_zero hf
    rw [if_neg (by rw [hf]; decide)] at hF
    have gl := G.gl
    cases hx : xs.any (fun x => !decide (0 ≤ x ∧ x < (gs.length : Int))) with
    | true =>
      rw [hx, if_pos rfl] at hF
      subst hF
      rw [gl] at hx
      exact look_none v u W' H' gs os xs fl w h G hs hu hx
    | false =>
      rw [hx] at hF
      exact absurd hF.symm h0
  · rw [if_pos hf] at hF
    exact look_bad v u W H gs os F fl w h hF h0

end Go.Proofs.YtolmfekefjnggaaDoor

namespace Go.Proofs.YtolmfekefjnggaaDoor
open Go.RowKit Wy
set_option linter.unusedVariables false

set_option maxHeartbeats 1000000 in
theorem Reach_bad (v : Value) (W H : Int) (gs os : List Int) (a b F : Int) (fl : Bool) (w : World) (h : Fl w v W H gs os) (hs : Sd w) (hF : Fd.askFault (Fd.fault W H gs os) gs.length [a] = F) (h0 : F ≠ 0) :
    Calls Tryd.prog 85 #[v, .int .i64 a, .int .i64 b, .bool fl] w fun e w' => e = .returned (.tuple #[.slice none 0 0, .iface 69 (.int .i64 F)]) ∧ Below w.heap.size w w' := by
  have F0 : Hid (Fl w v W H gs os) := h
  have S0 : Hid (Sd w) := hs
  have HF : Hid (Fd.askFault (Fd.fault W H gs os) gs.length [a] = F) := hF
  have H0 : Hid (F ≠ 0) := h0
  obtain ⟨u1, u2, rfl, ⟨a1, c, rfl, c1, c2, ca⟩, ⟨b1, d, rfl, d1, d2, cb⟩⟩ := h
  clear hF h0 ca cb hs
  go_enter Tryd.func85, Tryd.ntmps85
  go_wp2_with fail
  have b0 : Below w.heap.size w ((w.alloc (Obj.cells #[.int .i64 W, .int .i64 H, .slice a1 gs.length c, .slice b1 os.length d] 25)).alloc (Obj.cells #[.int .i64 a] 3)) := ((Below.refl _ _).alloc (Nat.le_refl _) _).alloc (by simp) _
  refine (look_no _ _ W H gs os [a] F fl _ (F0.out.below b0) (S0.out.below b0) (Ro.lit1 (w := w.alloc _) a (by simp)) HF.out H0.out).mono ?_
  rintro e w1 ⟨rfl, hb⟩
  have B1 : Hid (Below w.heap.size w w1) := b0.trans (hb.mono (by simp; omega))
  clear hb b0
  go_wp2
  go_ret2
  exact ⟨rfl, B1.out.alloc B1.out.size _⟩

set_option maxHeartbeats 1000000 in
theorem Reach_range (v : Value) (W H : Nat) (gs os : List Int) (a : Nat) (m : Int) (fl : Bool) (w : World) (h : Fl w v W H gs os) (hs : Sd w) (G : Fd.Good W H gs os) (ha : a < W * H) (hm : m < 0 ∨ 1000000 < m) :
    Calls Tryd.prog 85 #[v, .int .i64 (a : Nat), .int .i64 m, .bool fl] w fun e w' => e = .returned (.tuple #[.slice none 0 0, .iface 69 (.int .i64 1)]) ∧ Below w.heap.size w w' := by
  have F0 : Hid (Fl w v W H gs os) := h
  have S0 : Hid (Sd w) := hs
  have G0 : Hid (Fd.Good W H gs os) := G
  have A0 : Hid (a < W * H) := ha
  obtain ⟨u1, u2, rfl, ⟨a1, c, rfl, c1, c2, ca⟩, ⟨b1, d, rfl, d1, d2, cb⟩⟩ := h
  obtain ⟨ss, hss⟩ : ∃ ss, (gs.map fun g => Fd.onto g fl) = ss := ⟨_, rfl⟩
  have Hss : Hid ((gs.map fun g => Fd.onto g fl) = ss) := hss
  have E0 : Hid (Even (Fd.near W H) (fun i _ => ss.getD i 0) (W * H)) := by rw [← hss]; exact even_from G.w1 gs fl
  clear ca cb hs G ha hss
  go_enter Tryd.func85, Tryd.ntmps85
  go_wp2_with fail
  have b0 : Below w.heap.size w ((w.alloc (Obj.cells #[.int .i64 W, .int .i64 H, .slice a1 gs.length c, .slice b1 os.length d] 25)).alloc (Obj.cells #[.int .i64 (a : Nat)] 3)) := ((Below.refl _ _).alloc (Nat.le_refl _) _).alloc (by simp) _
  refine (look_ok _ _ W H gs os [(a : Int)] fl _ (F0.out.below b0) G0.out (S0.out.below b0) (Ro.lit1 (w := w.alloc _) (a : Int) (by simp)) (by have := A0.out; simp; omega)).mono ?_
  rintro e w1 ⟨⟨v1, rfl, hL⟩, hb⟩
  rw [Hss.out] at hL
  have B1 : Hid (Below w.heap.size w w1) := b0.trans (hb.mono (by simp; omega))
  have L1 : Hid (Ld w1 v1 (W * H) (Fd.near W H) ss) := hL
  obtain ⟨p1, p2, rfl, ⟨x1, k1, rfl, -⟩, ⟨x2, k2, rfl, -⟩, -⟩ := hL
  clear hb b0
  rcases hm with hm | hm
  · go_wp2
    go_ret2
    exact ⟨rfl, B1.out.alloc B1.out.size _⟩
  · have hm' : ¬ m < 0 := by omega
    go_wp2
    go_ret2
    exact ⟨rfl, B1.out.alloc B1.out.size _⟩

set_option maxRecDepth 100000 in
set_option maxHeartbeats 4000000 in
theorem Reach_ok (v : Value) (W H : Nat) (gs os : List Int) (a : Nat) (m : Int) (fl : Bool) (w : World) (h : Fl w v W H gs os) (hs : Sd w) (G : Fd.Good W H gs os) (ha : a < W * H) (m0 : 0 ≤ m) (m1 : m ≤ 1000000) :
    Calls Tryd.prog 85 #[v, .int .i64 (a : Nat), .int .i64 m, .bool fl] w fun e w' => ∃ u l, e = .returned (.tuple #[u, .nilIface]) ∧ IsFar (Fd.near W H) (fun i _ => (gs.map fun g => Fd.onto g fl).getD i 0) a (W * H) l ∧ Ro w' u (rch l m (W * H)) ∧ Below w.heap.size w w' := by
  have F0 : Hid (Fl w v W H gs os) := h
  have S0 : Hid (Sd w) := hs
  have G0 : Hid (Fd.Good W H gs os) := G
  have A0 : Hid (a < W * H) := ha
  obtain ⟨u1, u2, rfl, ⟨a1, c, rfl, c1, c2, ca⟩, ⟨b1, d, rfl, d1, d2, cb⟩⟩ := h
  obtain ⟨ss, hss⟩ : ∃ ss, (gs.map fun g => Fd.onto g fl) = ss := ⟨_, rfl⟩
  have Hss : Hid ((gs.map fun g => Fd.onto g fl) = ss) := hss
  have E0 : Hid (Even (Fd.near W H) (fun i _ => ss.getD i 0) (W * H)) := by rw [← hss]; exact even_from G.w1 gs fl
  rw [hss]
  obtain ⟨n, hn⟩ : ∃ n, W * H = n := ⟨_, rfl⟩
  have Hn : Hid (W * H = n) := hn
  rw [hn] at E0 ⊢
  clear ca cb hs G ha hss hn
  go_enter Tryd.func85, Tryd.ntmps85
  go_wp2_with fail
  have b0 : Below w.heap.size w ((w.alloc (Obj.cells #[.int .i64 W, .int .i64 H, .slice a1 gs.length c, .slice b1 os.length d] 25)).alloc (Obj.cells #[.int .i64 (a : Nat)] 3)) := ((Below.refl _ _).alloc (Nat.le_refl _) _).alloc (by simp) _
  refine (look_ok _ _ W H gs os [(a : Int)] fl _ (F0.out.below b0) G0.out (S0.out.below b0) (Ro.lit1 (w := w.alloc _) (a : Int) (by simp)) (by have := A0.out; simp; omega)).mono ?_
  rintro e w1 ⟨⟨v1, rfl, hL⟩, hb⟩
  rw [Hss.out, Hn.out] at hL
  have B1 : Hid (Below w.heap.size w w1) := b0.trans (hb.mono (by simp; omega))
  have L1 : Hid (Ld w1 v1 (n) (Fd.near W H) ss) := hL
  obtain ⟨p1, p2, rfl, ⟨x1, k1, rfl, -⟩, ⟨x2, k2, rfl, -⟩, -⟩ := hL
  clear hb b0
  have n0 : ¬ m < 0 := by omega
  have n1 : ¬ 1000000 < m := by omega
  go_wp2_with fail
  have b2 : Below w1.heap.size w1 (w1.alloc (Obj.cells #[.slice (some x1) (n) k1, .slice x2 ss.length k2] 164)) := (Below.refl _ _).alloc (Nat.le_refl _) _
  refine (farFrom_ok _ (n) a (Fd.near W H) ss _ (L1.out.below b2) E0.out (by rw [← Hn.out]; exact A0.out) (by rw [← Hn.out]; exact G0.out.pos.2) (Fd.near_len W H)).mono ?_
  rintro e w2 ⟨g, l, rfl, hbz, hbk, ⟨hf, hfl⟩, hb⟩
  have K2 : Hid (Bk w2 g l #[]) := hbk
  have HF : Hid (IsFar (Fd.near W H) (fun i _ => ss.getD i 0) a (n) l) := hf
  have B2 : Hid (Below w.heap.size w w2) := (B1.out.trans (b2.mono B1.out.size)).trans (hb.mono (Nat.le_trans B1.out.size b2.size))
  have N0 : n ≤ 144 := by rw [← Hn.out]; exact G0.out.pos.2
  clear hbz hbk hb b2 L1 B1 hf hfl n0 n1
  go_wp2_with fail
  go_loopw [12, 37] (fun v i W' => ∃ k : Nat, k ≤ n ∧ i = .int .i64 (k : Nat) ∧ Ow W' w2.heap.size v (rch l m k) ∧ Below w2.heap.size w2 W') (fun _ i _ => n - (intOf i).toNat)
  case atStart => exact ⟨0, Nat.zero_le _, rfl, Ow.nil _ _, Below.refl _ _⟩
  case round =>
    obtain ⟨k, hk, rfl, ho, hb⟩ := hrel
    have O : Hid (Ow wr w2.heap.size u12 (rch l m k)) := ho
    have B : Hid (Below w2.heap.size w2 wr) := hb
    clear ho hb
    by_cases h0 : k = n
    · subst h0
      go_wp2
      go_ret2
      exact ⟨_, l, rfl, HF, O.out.ro, B2.out.trans (B.out.mono B2.out.size)⟩
    · have hkn : k < n := by omega
      have Er : Hid (rch l m (k + 1) = rch l m k ++ (if 0 ≤ l.getD k 0 ∧ l.getD k 0 ≤ m then [(k : Int)] else [])) := rch_succ l m k
      have ck := (K2.out.below B.out).cell (get_some HF.out.1 hkn)
      have Lr : Hid ((rch l m k).length ≤ 1000000000) := Nat.le_trans (rch_len l m k) (by omega)
      generalize l.getD k 0 = y at *
      generalize rch l m k = rs at *
      by_cases h1 : 0 ≤ y
      · by_cases h2 : y ≤ m
        · have Er' : Hid (rch l m (k + 1) = rs ++ [(k : Int)]) := by
            have := Er.out
            rw [if_pos ⟨h1, h2⟩] at this
            exact this
          have ba : Below wr.heap.size wr (wr.alloc (Obj.cells #[.int .i64 (k : Nat)] 3)) := (Below.refl _ _).alloc (Nat.le_refl _) _
          have O5 : Hid (Ow (wr.alloc (Obj.cells #[.int .i64 (k : Nat)] 3)) w2.heap.size u12 rs) := O.out.below ba
          have B5 : Hid (Below w2.heap.size w2 (wr.alloc (Obj.cells #[.int .i64 (k : Nat)] 3))) := B.out.trans (ba.mono B.out.size)
          have Cd : Hid ((wr.alloc (Obj.cells #[.int .i64 (k : Nat)] 3)).cell? ⟨wr.heap.size, 0, none⟩ = some (.int .i64 (k : Nat))) := by unfold Hid; simp
          clear ba Er O B
          go_wp2_with (at_builtin; refine app_int _ rfl _ _ rfl w2.heap.size _ rs rfl O5.out ⟨wr.heap.size, 0, none⟩ (k : Nat) rfl Cd.out Lr.out B5.out.size ?_)
          intro g6 cap6 w6 o6 gr6 at6 lt6
          have O6 : Hid (Ow w6 w2.heap.size (.slice (some ⟨g6, 0, none⟩) (rs.length + 1) cap6) (rs ++ [(k : Int)])) := o6
          have B6 : Hid (Below w2.heap.size w2 w6) := B5.out.trans ((Below.refl _ _).grown gr6 B5.out.size (fun k hk => (O5.out.block k hk).1))
          clear o6 gr6 at6 lt6 O5 B5 Cd
          go_wp2
          go_round
          case rel => exact ⟨k + 1, by omega, by go_num, by rw [Er'.out]; exact O6, B6⟩
          case measure => simp [intOf]; omega
        · have Er' : Hid (rch l m (k + 1) = rs) := by
            have := Er.out
            rw [if_neg (fun h => h2 h.2), List.append_nil] at this
            exact this
          clear Er
          go_wp2
          go_round
          case rel => exact ⟨k + 1, by omega, by go_num, by rw [Er'.out]; exact O, B⟩
          case measure => simp [intOf]; omega
      · have Er' : Hid (rch l m (k + 1) = rs) := by
          have := Er.out
          rw [if_neg (fun h => h1 h.1), List.append_nil] at this
          exact this
        clear Er
        go_wp2
        go_round
        case rel => exact ⟨k + 1, by omega, by go_num, by rw [Er'.out]; exact O, B⟩
        case measure => simp [intOf]; omega
end Go.Proofs.YtolmfekefjnggaaDoor

namespace Go.Proofs.YtolmfekefjnggaaDoor
open Go.RowKit Wy
set_option linter.unusedVariables false

set_option maxHeartbeats 2000000 in
/-- IndexFunc of numbers, with a function that may make memory. -/
theorem idxb_any (K : Nat) (eK : ∀ args w, (callFunc K args).run Tryd.prog w = .ok (.enter K args) w) (u : Value) (cs : Array Value) (xs : List Int) (p : Int → Bool) (w : World) (hu : Ro w u xs)
    (hp : ∀ W, Below w.heap.size w W → ∀ x : Int, Calls Tryd.prog K (#[.int .i64 x] ++ cs) W fun e w' => e = .returned (.bool (p x)) ∧ Below W.heap.size W w') :
    Calls Tryd.prog 79 #[u, .func (Fn.func K) #[] cs] w fun e w' => ∃ r : Int, e = .returned (.int .i64 r) ∧ Fst p xs r ∧ Below w.heap.size w w' := by
  have R0 : Hid (Ro w u xs) := hu
  obtain ⟨a, c, rfl, c1, c2, ca⟩ := hu
  have Hp : Hid (∀ W, Below w.heap.size w W → ∀ x : Int, Calls Tryd.prog K (#[.int .i64 x] ++ cs) W fun e w' => e = .returned (.bool (p x)) ∧ Below W.heap.size W w') := hp
  clear ca hp
  go_enter Tryd.func79, Tryd.ntmps79
  go_wp2
  go_loopw [8] (fun i W' => ∃ k : Nat, k ≤ xs.length ∧ i = .int .i64 (k : Nat) ∧ (xs.take k).any p = false ∧ Below w.heap.size w W') (fun i _ => xs.length - (intOf i).toNat)
  case atStart => exact ⟨0, Nat.zero_le _, rfl, by simp, Below.refl _ _⟩
  case round =>
    obtain ⟨k, hk, rfl, ht, hb⟩ := hrel
    have Ht : Hid ((xs.take k).any p = false) := ht
    have B : Hid (Below w.heap.size w wr) := hb
    clear ht hb
    by_cases h0 : k = xs.length
    · subst h0
      go_wp2
      go_ret
      refine ⟨_, rfl, .inl ⟨rfl, ?_⟩, B⟩
      have := Ht.out
      rw [List.take_of_length_le (Nat.le_refl _)] at this
      exact this
    · have hkx : k < xs.length := by omega
      obtain ⟨a', c', he, -, -, hca⟩ := R0.out.below B.out
      injection he with he1 he2 he3
      subst he1
      obtain ⟨x, rfl, -, hx⟩ := hca (by intro h; rw [h] at hkx; simp at hkx)
      obtain ⟨y, hy⟩ : ∃ y, xs[k]? = some y := ⟨_, List.getElem?_eq_getElem hkx⟩
      have cx : wr.cell? (x.add k) = some (.int .i64 y) := hx k y hy
      have hc := Hp.out wr B.out y
      have Hs : Hid ((xs.take (k + 1)).any p = ((xs.take k).any p || p y)) := by
        unfold Hid
        rw [any_next hkx]
        obtain ⟨hi, e⟩ := List.getElem?_eq_some_iff.1 hy
        rw [e]
      have Hm : Hid (xs[k]? = some y) := hy
      clear hx hca hy he2 he3
      cases hy : p y with
      | true =>
        rw [hy] at hc
        have Hc : Hid (Calls Tryd.prog K (#[.int .i64 y] ++ cs) wr fun e w' => e = .returned (.bool true) ∧ Below wr.heap.size wr w') := hc
        have Hy : Hid (p y = true) := hy
        clear hc hy
        go_wp2_with fail
        refine Calls.mono Hc.out ?_
        rintro e w1 ⟨rfl, b1⟩
        have B1 : Hid (Below w.heap.size w w1) := B.out.trans (b1.mono B.out.size)
        clear b1
        go_wp2
        go_ret
        exact ⟨_, rfl, .inr ⟨k, y, rfl, Hm, Hy, Ht⟩, B1⟩
      | false =>
        rw [hy] at hc
        have Hc : Hid (Calls Tryd.prog K (#[.int .i64 y] ++ cs) wr fun e w' => e = .returned (.bool false) ∧ Below wr.heap.size wr w') := hc
        have Hy : Hid (p y = false) := hy
        clear hc hy
        go_wp2_with fail
        refine Calls.mono Hc.out ?_
        rintro e w1 ⟨rfl, b1⟩
        have B1 : Hid (Below w.heap.size w w1) := B.out.trans (b1.mono B.out.size)
        clear b1
        go_wp2
        go_round
        case rel => exact ⟨k + 1, by omega, by go_num, by have := Hs.out; rw [Ht.out, Hy.out] at this; exact this, B1⟩
        case measure => simp [intOf]; omega

/-- what nearest tells, where l is how far each cell is: the first of the nearest that will do, within three. -/
def NearSays (l : List Int) (n : Nat) (p : Int → Bool) (c F : Int) : Prop :=
  (F = 6 ∧ c = 0 ∧ ∀ m : Nat, m ≤ 3 → (rch l m n).any p = false) ∨ (F = 0 ∧ ∃ m k : Nat, m ≤ 3 ∧ (rch l m n)[k]? = some c ∧ p c = true ∧ ((rch l m n).take k).any p = false ∧ ∀ j : Nat, j < m → (rch l j n).any p = false)

set_option maxRecDepth 100000 in
set_option maxHeartbeats 4000000 in
theorem nearest_ok (K : Nat) (eK : ∀ args w, (callFunc K args).run Tryd.prog w = .ok (.enter K args) w) (cs : Array Value) (p : Int → Bool) (v : Value) (W H : Nat) (gs os : List Int) (a : Nat) (fl : Bool) (w : World) (h : Fl w v W H gs os) (hs : Sd w) (G : Fd.Good W H gs os) (ha : a < W * H)
    (hp : ∀ V, Below w.heap.size w V → ∀ x : Int, Calls Tryd.prog K (#[.int .i64 x] ++ cs) V fun e w' => e = .returned (.bool (p x)) ∧ Below V.heap.size V w') :
    Calls Tryd.prog 66 #[v, .int .i64 (a : Nat), .bool fl, .func (Fn.func K) #[] cs] w fun e w' => ∃ l c r F, e = .returned (.tuple #[.int .i64 c, r]) ∧ IsFar (Fd.near W H) (fun i _ => (gs.map fun g => Fd.onto g fl).getD i 0) a (W * H) l ∧ Er r F ∧ NearSays l (W * H) p c F ∧ Below w.heap.size w w' := by
  have F0 : Hid (Fl w v W H gs os) := h
  have S0 : Hid (Sd w) := hs
  have G0 : Hid (Fd.Good W H gs os ∧ a < W * H) := ⟨G, ha⟩
  have Hp : Hid (∀ V, Below w.heap.size w V → ∀ x : Int, Calls Tryd.prog K (#[.int .i64 x] ++ cs) V fun e w' => e = .returned (.bool (p x)) ∧ Below V.heap.size V w') := hp
  obtain ⟨u1, u2, rfl, -, -⟩ := h
  clear hs G ha hp
  go_enter Tryd.func66, Tryd.ntmps66
  go_upto_region 1 with fail
  have B0 : Hid (Below w.heap.size w (w.alloc (.cells #[.int .i64 (W : Int), .int .i64 (H : Int), u1, u2] 25))) := (Below.refl _ _).alloc (Nat.le_refl _) _
  have X0 : Hid (Bf (w.alloc (.cells #[.int .i64 (W : Int), .int .i64 (H : Int), u1, u2] 25)) w.heap.size W H u1 u2) := Bf.mk' W H u1 u2 rfl
  generalize (w.alloc (.cells #[.int .i64 (W : Int), .int .i64 (H : Int), u1, u2] 25)) = w0 at *
  go_wp2
  go_loopw [14] (fun i V => ∃ k : Nat, k ≤ 4 ∧ i = .int .i64 (k : Nat) ∧ (∀ l, IsFar (Fd.near W H) (fun i _ => (gs.map fun g => Fd.onto g fl).getD i 0) a (W * H) l → ∀ j : Nat, j < k → (rch l j (W * H)).any p = false) ∧ (0 < k → ∃ l, IsFar (Fd.near W H) (fun i _ => (gs.map fun g => Fd.onto g fl).getD i 0) a (W * H) l) ∧ Bf V w.heap.size W H u1 u2 ∧ Below w.heap.size w V) (fun i _ => 4 - (intOf i).toNat)
  case atStart => exact ⟨0, by omega, rfl, fun l _ j hj => by omega, fun h => by omega, X0.out, B0.out⟩
  case round =>
    obtain ⟨k, hk, rfl, hN, hL, hX, hB⟩ := hrel
    have N : Hid (∀ l, IsFar (Fd.near W H) (fun i _ => (gs.map fun g => Fd.onto g fl).getD i 0) a (W * H) l → ∀ j : Nat, j < k → (rch l j (W * H)).any p = false) := hN
    have L : Hid (0 < k → ∃ l, IsFar (Fd.near W H) (fun i _ => (gs.map fun g => Fd.onto g fl).getD i 0) a (W * H) l) := hL
    have X : Hid (Bf wr w.heap.size W H u1 u2) := hX
    have B : Hid (Below w.heap.size w wr) := hB
    clear hN hL hX hB X0 B0
    by_cases h0 : k = 4
    · subst h0
      go_wp2
      go_ret2
      obtain ⟨l, hl⟩ := L.out (by omega)
      exact ⟨l, 0, _, 6, rfl, hl, Er.no (by decide), .inl ⟨rfl, rfl, fun m hm => N.out l hl m (by omega)⟩, B.out⟩
    · have hk4 : k < 4 := by omega
      have hki : ((k : Nat) : Int) < 4 := by omega
      obtain ⟨x0, x1, x2, x3⟩ := X.out
      go_wp2_with fail
      refine (Reach_ok _ W H gs os a (k : Nat) fl wr (F0.out.below B.out) (S0.out.below B.out) G0.out.1 G0.out.2 (by omega) (by omega)).mono ?_
      rintro e w1 ⟨u, l, rfl, hl, hr, hb⟩
      have B1 : Hid (Below w.heap.size w w1) := B.out.trans (hb.mono B.out.size)
      have X1 : Hid (Bf w1 w.heap.size W H u1 u2) := X.out.below hb X.out.lt
      have HL : Hid (IsFar (Fd.near W H) (fun i _ => (gs.map fun g => Fd.onto g fl).getD i 0) a (W * H) l) := hl
      have RO : Hid (Ro w1 u (rch l (k : Nat) (W * H))) := hr
      clear hb hl hr x0 x1 x2 x3 X B
      go_wp2_with fail
      refine (idxb_any K eK _ cs (rch l (k : Nat) (W * H)) p w1 RO.out (fun V hV x => Hp.out V (B1.out.trans (hV.mono B1.out.size)) x)).mono ?_
      rintro e w2 ⟨r, rfl, hf, hb⟩
      have B2 : Hid (Below w.heap.size w w2) := B1.out.trans (hb.mono B1.out.size)
      have X2 : Hid (Bf w2 w.heap.size W H u1 u2) := X1.out.below hb X1.out.lt
      have RO2 : Hid (Ro w2 u (rch l (k : Nat) (W * H))) := RO.out.below hb
      clear hb X1 B1 RO
      rcases hf with ⟨rfl, hno⟩ | ⟨j, c, rfl, hj, hpc, htk⟩
      · have NO : Hid ((rch l (k : Nat) (W * H)).any p = false) := hno
        clear hno
        go_wp2
        go_round
        case rel => exact ⟨k + 1, by omega, by go_num, fun l' hl' j hj => by
          by_cases hjk : j < k
          · exact N.out l' hl' j hjk
          · have : j = k := by omega
            subst this
            rw [hl'.uniq HL.out]; exact NO.out, fun _ => ⟨l, HL.out⟩, X2.out, B2.out⟩
        case measure => simp [intOf]; omega
      · have FJ : Hid ((rch l (k : Nat) (W * H))[j]? = some c ∧ p c = true ∧ ((rch l (k : Nat) (W * H)).take j).any p = false) := ⟨hj, hpc, htk⟩
        have hjl : j < (rch l (k : Nat) (W * H)).length := (List.getElem?_eq_some_iff.1 hj).1
        obtain ⟨ad, cp, rfl, -, -, hca⟩ := RO2.out
        obtain ⟨x, rfl, -, hx⟩ := hca (by intro h; rw [h] at hjl; simp at hjl)
        have cx : w2.cell? (x.add j) = some (.int .i64 c) := hx j c hj
        clear hj hpc htk hx hca
        go_wp2
        go_ret2
        exact ⟨l, c, _, 0, rfl, HL.out, Er.nil, .inr ⟨rfl, k, j, by omega, FJ.out.1, FJ.out.2.1, FJ.out.2.2, fun i hi => N.out l HL.out i hi⟩, B2.out⟩

set_option maxHeartbeats 1000000 in
theorem sat_any (u : UnV) (at_ : Int) (b : Nat) (w : World) (hc : w.cell? ⟨b, 0, none⟩ = some (.int .i64 at_)) :
    Calls Tryd.prog 65 #[u.val, .pointer (some ⟨b, 0, none⟩)] w fun e w' => e = .returned (.bool (u.at_ == at_)) ∧ Below w.heap.size w w' := by
  have hb : b < w.heap.size := cell_lt hc
  have hne : b ≠ w.heap.size := by omega
  unfold UnV.val
  go_enter Tryd.func65, Tryd.ntmps65
  go_wp2
  go_ret
  exact ⟨rfl, (Below.refl _ _).alloc (Nat.le_refl _) _⟩
set_option maxHeartbeats 2000000 in
/-- whether nobody is on a cell. -/
theorem free_any (us : List UnV) (at_ : Int) (b : Nat) (u : Value) (w : World) (hc : w.cell? ⟨b, 7, none⟩ = some u) (hu : Unl w u us) :
    Calls Tryd.prog 64 #[.int .i64 at_, .pointer (some ⟨b, 0, none⟩)] w fun e w' => e = .returned (.bool (!us.any (fun u => u.at_ == at_))) ∧ Below w.heap.size w w' := by
  have U : Hid (Unl w u us) := hu
  have hb : b < w.heap.size := cell_lt hc
  have hne : b ≠ w.heap.size := by omega
  clear hu
  go_enter Tryd.func64, Tryd.ntmps64
  go_upto_region 1 with fail
  have B0 : Hid (Below w.heap.size w (w.alloc (Obj.cells #[.int .i64 at_] 3))) := (Below.refl _ _).alloc (Nat.le_refl _) _
  have C0 : Hid ((w.alloc (Obj.cells #[.int .i64 at_] 3)).cell? ⟨w.heap.size, 0, none⟩ = some (.int .i64 at_)) := cell_of_new (by simp) rfl
  have c7 : (w.alloc (Obj.cells #[.int .i64 at_] 3)).cell? ⟨b, 7, none⟩ = some u := by rw [B0.out.cell (p := ⟨b, 7, none⟩) hb]; exact hc
  generalize (w.alloc (Obj.cells #[.int .i64 at_] 3)) = w0 at *
  go_wp2_with fail
  refine (hasu_any 65 (by intro args w; go_simp) u #[.pointer (some ⟨w.heap.size, 0, none⟩)] us (fun u => u.at_ == at_) w0 (U.out.below B0.out) (fun V hV k => sat_any k at_ w.heap.size V (by rw [hV.cell (p := ⟨w.heap.size, 0, none⟩) (cell_lt C0.out)]; exact C0.out))).mono ?_
  rintro e w1 ⟨rfl, hb1⟩
  have B1 : Hid (Below w.heap.size w w1) := B0.out.trans (hb1.mono B0.out.size)
  obtain ⟨m, hm⟩ : ∃ m, us.any (fun u => u.at_ == at_) = m := ⟨_, rfl⟩
  have HM : Hid (us.any (fun u => u.at_ == at_) = m) := hm
  rw [hm]
  clear hb1 hm c7 hc
  go_wp2
  go_ret
  exact ⟨by rw [HM.out]; rfl, B1.out⟩
end Go.Proofs.YtolmfekefjnggaaDoor

namespace Go.Proofs.YtolmfekefjnggaaDoor
open Go.RowKit Wy
set_option linter.unusedVariables false

/-- nobody is on a cell. -/
def freeAt (us : List UnV) (x : Int) : Bool := !us.any (fun u => u.at_ == x)
/-- what Spot tells. -/
def SpotSays (ks : List KV) (X : WV) (unit kind c F : Int) : Prop :=
  (Wd.wfault ks X ≠ 0 ∧ F = Wd.wfault ks X ∧ c = 0) ∨ (Wd.wfault ks X = 0 ∧ X.us.any (fun u => u.id == unit) = false ∧ F = 6 ∧ c = 0)
  ∨ (Wd.wfault ks X = 0 ∧ X.us.any (fun u => u.id == unit) = true ∧ ¬ (0 ≤ kind ∧ kind < (ks.length : Int)) ∧ F = 1 ∧ c = 0)
  ∨ (Wd.wfault ks X = 0 ∧ ∃ (i kn Wn Hn an : Nat) (u : UnV) (k : KV) (l : List Int), FstU (fun u => u.id == unit) X.us (i : Nat) ∧ X.us[i]? = some u ∧ kind = (kn : Nat) ∧ ks[kn]? = some k ∧ X.wide = (Wn : Nat) ∧ X.high = (Hn : Nat) ∧ Fd.Good Wn Hn X.gs X.os ∧ u.at_ = (an : Nat) ∧ an < Wn * Hn
      ∧ IsFar (Fd.near Wn Hn) (fun i _ => (X.gs.map fun g => Fd.onto g k.f).getD i 0) an (Wn * Hn) l ∧ NearSays l (Wn * Hn) (freeAt X.us) c F)
set_option maxRecDepth 100000 in
set_option maxHeartbeats 16000000 in
theorem spot_any (vk vw : Value) (ks : List KV) (X : WV) (unit kind : Int) (w : World) (hk : Kl w vk ks) (hb : ∀ k ∈ ks, k.b.size ≤ 9223372036854775807) (hw : Wl w vw X) (hs : Sd w) :
    Calls Tryd.prog 46 #[vk, vw, .int .i64 unit, .int .i64 kind] w fun e w' => ∃ c r F, e = .returned (.tuple #[.int .i64 c, r]) ∧ Er r F ∧ SpotSays ks X unit kind c F ∧ Below w.heap.size w w' := by
  have K : Hid (Kl w vk ks ∧ ∀ k ∈ ks, k.b.size ≤ 9223372036854775807) := ⟨hk, hb⟩
  have H : Hid (Wl w vw X) := hw
  have S : Hid (Sd w) := hs
  obtain ⟨p1, q1, p2, q2, p3, q3, p4, q4, p5, q5, rfl⟩ := wl_shape9 hw
  obtain ⟨pk, qk, rfl, ck1, ck2, kc⟩ := hk
  have KC : Hid (ks ≠ [] → ∃ x, pk = some x ∧ x.block < w.heap.size ∧ ∀ (i : Nat) k, ks[i]? = some k → Kc w (x.add (i * 11)) k) := kc
  clear hb hw hs kc
  go_enter Tryd.func46, Tryd.ntmps46
  go_upto_region 1 with fail
  have B0 : Hid (Below w.heap.size w (w.alloc (Obj.cells #[.int .i64 X.turn, .int .i64 X.next, .int .i64 X.wide, .int .i64 X.high, .slice p1 X.gs.length q1, .slice p2 X.os.length q2, .slice p3 X.gold.length q3, .slice p4 X.us.length q4, .slice p5 X.qs.length q5] 29))) := (Below.refl _ _).alloc (Nat.le_refl _) _
  have X0 : Hid (Bw (w.alloc (Obj.cells #[.int .i64 X.turn, .int .i64 X.next, .int .i64 X.wide, .int .i64 X.high, .slice p1 X.gs.length q1, .slice p2 X.os.length q2, .slice p3 X.gold.length q3, .slice p4 X.us.length q4, .slice p5 X.qs.length q5] 29)) w.heap.size X (.slice p1 X.gs.length q1) (.slice p2 X.os.length q2) (.slice p3 X.gold.length q3) (.slice p4 X.us.length q4) (.slice p5 X.qs.length q5)) := Bw.mk' X _ _ _ _ _ rfl
  generalize (w.alloc (Obj.cells #[.int .i64 X.turn, .int .i64 X.next, .int .i64 X.wide, .int .i64 X.high, .slice p1 X.gs.length q1, .slice p2 X.os.length q2, .slice p3 X.gold.length q3, .slice p4 X.us.length q4, .slice p5 X.qs.length q5] 29)) = w0 at *
  obtain ⟨x0, x1, x2, x3, x4, x5, x6, x7, x8⟩ := X0.out
  go_wp2_with fail
  refine (wcheck_any _ _ ks X w0 (K.out.1.below B0.out) K.out.2 (H.out.below B0.out)).mono ?_
  rintro e w1 ⟨r, rfl, hr, hb⟩
  obtain ⟨fw, hfw⟩ : ∃ f, Wd.wfault ks X = f := ⟨_, rfl⟩
  have FW : Hid (Wd.wfault ks X = fw) := hfw
  rw [hfw] at hr
  have B1 : Hid (Below w.heap.size w w1) := B0.out.trans (hb.mono B0.out.size)
  have X1 : Hid (Bw w1 w.heap.size X (.slice p1 X.gs.length q1) (.slice p2 X.os.length q2) (.slice p3 X.gold.length q3) (.slice p4 X.us.length q4) (.slice p5 X.qs.length q5)) := X0.out.below hb X0.out.lt
  clear hb hfw x0 x1 x2 x3 x4 x5 x6 x7 x8 X0 B0
  rcases hr with ⟨rfl, rfl⟩ | ⟨hf, rfl⟩
  case inr =>
    have HF : Hid (fw ≠ 0) := hf
    clear hf
    go_wp2
    go_ret2
    exact ⟨0, _, fw, rfl, Er.no HF.out, .inl (by rw [FW.out]; exact ⟨HF.out, rfl, rfl⟩), B1.out⟩
  obtain ⟨x0, x1, x2, x3, x4, x5, x6, x7, x8⟩ := X1.out
  go_wp2_with fail
  refine (wfind_any _ X unit w1 (H.out.below B1.out)).mono ?_
  rintro e w2 ⟨r, rfl, hf, hb⟩
  have B2 : Hid (Below w.heap.size w w2) := B1.out.trans (hb.mono B1.out.size)
  have X2 : Hid (Bw w2 w.heap.size X (.slice p1 X.gs.length q1) (.slice p2 X.os.length q2) (.slice p3 X.gold.length q3) (.slice p4 X.us.length q4) (.slice p5 X.qs.length q5)) := X1.out.below hb X1.out.lt
  have FI : Hid (FstU (fun u => u.id == unit) X.us r) := hf
  clear hb x0 x1 x2 x3 x4 x5 x6 x7 x8 X1 B1
  rcases hf with ⟨rfl, hno⟩ | ⟨i, u, rfl, hi, hid, -⟩
  · have NO : Hid (X.us.any (fun u => u.id == unit) = false) := hno
    clear hno
    go_wp2
    go_ret2
    exact ⟨0, _, 6, rfl, Er.no (by decide), .inr (.inl ⟨FW.out, NO.out, rfl, rfl⟩), B2.out⟩
  have AN : Hid (X.us.any (fun u => u.id == unit) = true) := List.any_eq_true.2 ⟨u, List.mem_of_getElem? hi, hid⟩
  have UI : Hid (X.us[i]? = some u) := hi
  have hil : i < X.us.length := (List.getElem?_eq_some_iff.1 hi).1
  clear hi hid
  by_cases hk0 : kind < 0
  · go_wp2
    go_ret2
    exact ⟨0, _, 1, rfl, Er.no (by decide), .inr (.inr (.inl ⟨FW.out, AN.out, by omega, rfl, rfl⟩)), B2.out⟩
  by_cases hk1 : (ks.length : Int) ≤ kind
  · go_wp2
    go_ret2
    exact ⟨0, _, 1, rfl, Er.no (by decide), .inr (.inr (.inl ⟨FW.out, AN.out, by omega, rfl, rfl⟩)), B2.out⟩
  obtain ⟨kn, rfl⟩ : ∃ n : Nat, kind = n := ⟨kind.toNat, by omega⟩
  have hkl : kn < ks.length := by omega
  obtain ⟨k, hkk⟩ : ∃ k, ks[kn]? = some k := ⟨_, List.getElem?_eq_getElem hkl⟩
  have WR : Hid (WRight ks X) := wright_of FW.out
  obtain ⟨Wn, Hn, e1, e2, G⟩ := WR.out.good
  obtain ⟨k0, fu⟩ := WR.out.fine UI.out
  have hat := fu.at_
  obtain ⟨an, han⟩ : ∃ n : Nat, u.at_ = n := ⟨u.at_.toNat, by omega⟩
  have GD : Hid (X.wide = (Wn : Nat) ∧ X.high = (Hn : Nat) ∧ Fd.Good Wn Hn X.gs X.os ∧ u.at_ = (an : Nat) ∧ an < Wn * Hn ∧ ks[kn]? = some k) := ⟨e1, e2, G, han, by have := G.gl; omega, hkk⟩
  obtain ⟨pa, pc, he, -, -, hu⟩ := H.out.slices.2.2.2.1
  obtain ⟨xu, hxu, hxul, hxuc⟩ := hu (by intro h; rw [h] at hil; simp at hil)
  injection he with he1 he2 he3
  subst he1
  subst hxu
  obtain ⟨xk, hxk, hxl, hxc⟩ := KC.out (by intro h; subst h; simp at hkl)
  subst hxk
  have UK : Hid (Unc w (xu.add (i * 8)) u ∧ (xu.add (i * 8)).block < w.heap.size ∧ Kc w (xk.add (kn * 11)) k ∧ (xk.add (kn * 11)).block < w.heap.size) := ⟨hxuc i u UI.out, by rw [add_block]; exact hxul, hxc kn k hkk, by rw [add_block]; exact hxl⟩
  clear hu he2 he3 hxul hxuc hxl hxc e1 e2 G fu hat hkk KC han
  go_upto_region 10 with fail
  refine wp_region_two [(true, 0), (true, 1), (true, 2), (true, 3), (true, 4), (true, 5), (true, 6), (true, 7), (true, 8), (true, 9), (true, 10), (true, 11), (true, 12), (true, 13), (false, 14)] [(true, 15), (true, 16), (true, 17), (false, 18)] (fun V => Bw V w.heap.size X (.slice p1 X.gs.length q1) (.slice p2 X.os.length q2) (.slice p3 X.gold.length q3) (.slice (some xu) X.us.length q4) (.slice p5 X.qs.length q5) ∧ V.cell? ⟨(xu.add (i * 8)).block, (xu.add (i * 8)).off + 3, none⟩ = some (.int .i64 u.at_) ∧ V.cell? ⟨(xk.add (kn * 11)).block, (xk.add (kn * 11)).off + 9, none⟩ = some (.bool k.f)) (by kernel_rfl) (by kernel_rfl) (by kernel_rfl) (by decide +kernel) (by decide +kernel) ?_ ?_
  · exact ⟨X2.out.below ((Below.refl _ _).drew) X2.out.lt, (UK.out.1.below B2.out UK.out.2.1).c3, (UK.out.2.2.1.below B2.out UK.out.2.2.2).c9⟩
  have X3 : Hid (Bw { w2 with drawn := w2.drawn + 1 } w.heap.size X (.slice p1 X.gs.length q1) (.slice p2 X.os.length q2) (.slice p3 X.gold.length q3) (.slice (some xu) X.us.length q4) (.slice p5 X.qs.length q5)) := X2.out.below ((Below.refl _ _).drew) X2.out.lt
  have B3 : Hid (Below w.heap.size w { w2 with drawn := w2.drawn + 1 }) := B2.out.drew
  generalize ({ w2 with drawn := w2.drawn + 1 } : World) = w3 at *
  clear X2 B2
  refine headT_read rfl (.pointer (some ⟨w.heap.size, 2, none⟩)) (by go_simp) (fun V hV => by go_simp) ?_
  go_simp
  refine headT_read rfl (.agg #[.int .i64 X.wide, .int .i64 X.high, .slice p1 X.gs.length q1, .slice p2 X.os.length q2]) (by go_simp) (fun V hV => by obtain ⟨⟨x0, x1, x2, x3, x4, x5, x6, x7, x8⟩, cu, ck⟩ := hV; go_simp) ?_
  go_simp
  refine headT_read rfl (.pointer (some ⟨w.heap.size, 7, none⟩)) (by go_simp) (fun V hV => by go_simp) ?_
  go_simp
  refine headT_read rfl (.slice (some xu) X.us.length q4) (by go_simp) (fun V hV => by obtain ⟨⟨x0, x1, x2, x3, x4, x5, x6, x7, x8⟩, cu, ck⟩ := hV; go_simp) ?_
  go_simp
  refine headT_read rfl (.int .i64 (i : Nat)) (by go_simp) (fun V hV => by go_simp) ?_
  go_simp
  refine headT_read rfl (.pointer (some (xu.add (i * 8)))) (by go_simp) (fun V hV => by go_simp) ?_
  go_simp
  refine headT_read rfl (.pointer (some ⟨(xu.add (i * 8)).block, (xu.add (i * 8)).off + 3, none⟩)) (by go_simp) (fun V hV => by go_simp) ?_
  go_simp
  refine headT_read rfl (.int .i64 u.at_) (by go_simp) (fun V hV => by obtain ⟨⟨x0, x1, x2, x3, x4, x5, x6, x7, x8⟩, cu, ck⟩ := hV; go_simp) ?_
  go_simp
  refine headT_read rfl (.slice (some xk) ks.length qk) (by go_simp) (fun V hV => by go_simp) ?_
  go_simp
  refine headT_read rfl (.int .i64 (kn : Nat)) (by go_simp) (fun V hV => by go_simp) ?_
  go_simp
  refine headT_read rfl (.pointer (some (xk.add (kn * 11)))) (by go_simp) (fun V hV => by go_simp) ?_
  go_simp
  refine headT_read rfl (.pointer (some ⟨(xk.add (kn * 11)).block, (xk.add (kn * 11)).off + 9, none⟩)) (by go_simp) (fun V hV => by go_simp) ?_
  go_simp
  refine headT_read rfl (.bool k.f) (by go_simp) (fun V hV => by obtain ⟨⟨x0, x1, x2, x3, x4, x5, x6, x7, x8⟩, cu, ck⟩ := hV; go_simp) ?_
  go_simp
  refine headT_read rfl (.func (Fn.func 64) #[] #[.pointer (some ⟨w.heap.size, 0, none⟩)]) (by go_simp) (fun V hV => by go_simp) ?_
  go_simp
  refine headT_call rfl 66 #[.agg #[.int .i64 X.wide, .int .i64 X.high, .slice p1 X.gs.length q1, .slice p2 X.os.length q2], .int .i64 u.at_, .bool k.f, .func (Fn.func 64) #[] #[.pointer (some ⟨w.heap.size, 0, none⟩)]] (by go_simp) (by go_simp) ?_
  have FL : Hid (Fl w3 (.agg #[.int .i64 X.wide, .int .i64 X.high, .slice p1 X.gs.length q1, .slice p2 X.os.length q2]) (Wn : Nat) (Hn : Nat) X.gs X.os) := by
    have := fl_of (H.out.below B3.out)
    rw [GD.out.1, GD.out.2.1] at this
    rw [GD.out.1, GD.out.2.1]
    exact this
  have UL : Hid (Unl w (.slice (some xu) X.us.length q4) X.us) := H.out.slices.2.2.2.1
  rw [GD.out.2.2.2.1]
  refine (nearest_ok 64 (by intro args w; go_simp) #[.pointer (some ⟨w.heap.size, 0, none⟩)] (freeAt X.us) _ Wn Hn X.gs X.os an k.f w3 FL.out (S.out.below B3.out) GD.out.2.2.1 GD.out.2.2.2.2.1
    (fun V hV x => free_any X.us x w.heap.size _ V (X3.out.below hV X3.out.lt).c7 ((UL.out.below B3.out).below hV))).mono ?_
  rintro e w4 ⟨l, c, r, F, rfl, hl, hr, hn, hb⟩
  have B4 : Hid (Below w.heap.size w w4) := B3.out.trans (hb.mono B3.out.size)
  have X4 : Hid (Bw w4 w.heap.size X (.slice p1 X.gs.length q1) (.slice p2 X.os.length q2) (.slice p3 X.gold.length q3) (.slice (some xu) X.us.length q4) (.slice p5 X.qs.length q5)) := X3.out.below hb X3.out.lt
  have NS : Hid (IsFar (Fd.near Wn Hn) (fun i _ => (X.gs.map fun g => Fd.onto g k.f).getD i 0) an (Wn * Hn) l ∧ Er r F ∧ NearSays l (Wn * Hn) (freeAt X.us) c F) := ⟨hl, hr, hn⟩
  refine ⟨_, rfl, ⟨X4.out, (by have := (UK.out.1.below B4.out UK.out.2.1).c3; rw [GD.out.2.2.2.1] at this; exact this), (UK.out.2.2.1.below B4.out UK.out.2.2.2).c9⟩, ?_⟩
  clear hb hl hr hn X3 B3 FL
  go_simp
  refine sched_read rfl (.int .i64 c) (by go_simp) (fun V hV => by go_simp) ?_
  go_simp
  refine sched_read rfl r (by go_simp) (fun V hV => by go_simp) ?_
  go_simp
  refine sched_read rfl (.int .i64 c) (by go_simp) (fun V hV => by go_simp) ?_
  go_simp
  refine sched_value rfl r w4 (by go_simp) (by go_simp) trivial ?_
  go_simp
  unfold wpSched
  go_wp2
  go_ret2
  exact ⟨c, r, F, rfl, NS.out.2.1, .inr (.inr (.inr ⟨FW.out, i, kn, Wn, Hn, an, u, k, l, FI.out, UI.out, rfl, GD.out.2.2.2.2.2, GD.out.1, GD.out.2.1, GD.out.2.2.1, GD.out.2.2.2.1, GD.out.2.2.2.2.1, NS.out.1, NS.out.2.2⟩)), B4.out⟩
end Go.Proofs.YtolmfekefjnggaaDoor

namespace Go.Proofs.YtolmfekefjnggaaDoor
set_option linter.unusedVariables false

theorem kind_nums {ks : List KV} (h : Kd.kindsFault (ks.map KV.k) = 0) {k : KV} (hk : k ∈ ks) : 1 ≤ k.n0 ∧ 0 ≤ k.n7 ∧ 0 ≤ k.n4 ∧ k.n4 ≤ 4 ∧ 0 ≤ k.n1 ∧ k.n1 ≤ 1000 ∧ 0 ≤ k.n2 ∧ k.n2 ≤ 12 ∧ 0 ≤ k.n3 ∧ k.n3 ≤ 12 ∧ k.n0 ≤ 1000 ∧ k.n7 ≤ 1000 := by
  unfold Kd.kindsFault at h
  split at h
  · omega
  · have := kgo_nums h k.k (List.mem_map.2 ⟨k, hk, rfl⟩)
    unfold Kd.numsFault at this
    split at this
    · omega
    · rename_i h1
      rw [Bool.not_eq_true, List.any_eq_false] at h1
      have a := h1 k.n0 (by simp [KV.k])
      have b := h1 k.n7 (by simp [KV.k])
      have c := h1 k.n4 (by simp [KV.k])
      have d := h1 k.n1 (by simp [KV.k])
      have e := h1 k.n2 (by simp [KV.k])
      have f := h1 k.n3 (by simp [KV.k])
      simp only [decide_eq_true_eq] at a b c d e f
      split at this
      · omega
      · rename_i h2
        have e0 : (k.k.nums).getD 0 0 = k.n0 := rfl
        have e4 : (k.k.nums).getD 4 0 = k.n4 := rfl
        have e2 : (k.k.nums).getD 2 0 = k.n2 := rfl
        have e3 : (k.k.nums).getD 3 0 = k.n3 := rfl
        omega
theorem find_more {us : List UnV} {n : UnV} {p : UnV → Bool} {u : UnV} (h : us.find? p = some u) : (us ++ [n]).find? p = some u := by
  rw [List.find?_append, h]; rfl
theorem put_right {ks : List KV} {W : WV} {pl kd at_ : Int} (h : WRight ks W) (hp : Wd.placeFault ks W pl kd at_ = 0) : Wd.wfault ks (Wd.put ks W pl kd at_) = 0 := by
  obtain ⟨h40, hpl, hat, kn, k, rfl, hkl, hkk, hop⟩ := pf_zero hp
  have hnu : Wd.newUnit ks W pl (kn : Nat) at_ = ⟨W.next, pl, (kn : Nat), at_, k.n0, 0, 0, 0⟩ := by unfold Wd.newUnit; rw [Int.toNat_natCast, hkk]
  have hn1 : 1 ≤ W.next := by
    have := (nums_ok h.nums).1
    unfold Wd.off at this
    simp at this
    omega
  have hk := kind_nums h.kinds (List.mem_of_getElem? hkk)
  obtain ⟨Wn, Hn, e1, e2, G⟩ := h.good
  unfold Wd.put
  rw [hnu]
  refine Wd.wfault_zero h.kinds (by show Fd.fault W.wide W.high W.gs W.os = 0; rw [e1, e2]; exact Fd.fault_good G) ?_ ?_ ?_ h.ql ?_
  · have hn := h.nums
    unfold Wd.numsBad at hn ⊢
    simp only [Bool.or_eq_false_iff] at hn ⊢
    refine ⟨hn.1, ?_, hn.2.2⟩
    unfold Wd.off
    simp
    omega
  · show (W.us ++ [_]).length ≤ 40
    rw [List.length_append]
    have := h40
    simp only [List.length_cons, List.length_nil]
    omega
  · intro i u hu
    have hu' : (W.us ++ [(⟨W.next, pl, (kn : Nat), at_, k.n0, 0, 0, 0⟩ : UnV)])[i]? = some u := hu
    rcases Nat.lt_or_ge i W.us.length with hi | hi
    · rw [List.getElem?_append_left hi] at hu'
      obtain ⟨k0, f⟩ := h.fine hu'
      refine ⟨k0, ⟨f.id1, ?_, ?_, f.p, f.k0, f.kk, f.life, f.load, f.task, f.at_, f.goal, ?_, f.rest⟩⟩
      · have := f.id2
        show u.id ≤ W.next + 1 - 1
        omega
      · have := f.up
        show Wd.notAbove (W.us ++ [_]) i u = false
        unfold Wd.notAbove at this ⊢
        cases i with
        | zero => rfl
        | succ j =>
          simp only at this ⊢
          rw [List.getElem?_append_left (by omega)]
          exact this
      · show Wd.open_ W.gs ((W.us ++ [_]).take i) u.at_ k0.f = true
        rw [List.take_append_of_le_length (by omega)]
        exact f.opn
    · rw [List.getElem?_append_right hi] at hu'
      have hil : i = W.us.length := by
        rcases Nat.eq_zero_or_pos (i - W.us.length) with h0 | h0
        · omega
        · rw [List.getElem?_eq_none (by simp; omega)] at hu'; cases hu'
      subst hil
      rw [Nat.sub_self] at hu'
      injection hu' with hu'
      subst hu'
      refine ⟨k, ⟨hn1, ?_, ?_, hpl, ⟨by simp, by simp; omega⟩, by simpa using hkk, ⟨hk.1, Int.le_refl _⟩, ⟨Int.le_refl _, hk.2.1⟩, ⟨by simp, by simp⟩, hat, ⟨by simp, Int.lt_of_le_of_lt hat.1 hat.2⟩, ?_, .inl rfl⟩⟩
      · show W.next ≤ W.next + 1 - 1
        omega
      · show Wd.notAbove (W.us ++ [_]) W.us.length _ = false
        unfold Wd.notAbove
        cases hl : W.us.length with
        | zero => rfl
        | succ j =>
          simp only
          rw [List.getElem?_append_left (by omega)]
          cases hx : W.us[j]? with
          | none => rfl
          | some x =>
            obtain ⟨k0, f⟩ := h.fine hx
            have := f.id2
            simp
            omega
      · show Wd.open_ W.gs ((W.us ++ [_]).take W.us.length) at_ k.f = true
        rw [List.take_left]
        exact hop
  · intro j hj
    have := h.job hj
    unfold Wd.jobFault at this ⊢
    cases hx : W.us.find? (fun u => u.id == j.unit) with
    | none => rw [hx] at this; cases this
    | some u =>
      rw [hx] at this
      have hm := find_more (n := (⟨W.next, pl, (kn : Nat), at_, k.n0, 0, 0, 0⟩ : UnV)) hx
      simp only [hm]
      exact this
/-- whoever comes next finds the cell taken. -/
theorem put_taken {ks : List KV} {W : WV} {pl kd at_ : Int} (h : WRight ks W) (hp : Wd.placeFault ks W pl kd at_ = 0) : Wd.putFault ks (Wd.put ks W pl kd at_) pl kd at_ ≠ 0 := by
  unfold Wd.putFault
  rw [if_pos (put_right h hp)]
  intro h0
  obtain ⟨-, -, -, kn, k, hkd, -, -, hop⟩ := pf_zero h0
  unfold Wd.open_ at hop
  have : (Wd.put ks W pl kd at_).us.any (fun u => u.at_ == at_) = true := by
    refine List.any_eq_true.2 ⟨Wd.newUnit ks W pl kd at_, ?_, by simp [Wd.newUnit]⟩
    show _ ∈ W.us ++ [_]
    simp
  rw [this] at hop
  simp at hop
end Go.Proofs.YtolmfekefjnggaaDoor

namespace Go.Proofs.YtolmfekefjnggaaDoor
set_option linter.unusedVariables false

def cntU (l : List JbV) (u : Int) : Nat := l.countP (fun j => decide (j.unit = u))
theorem cntU_next {l : List JbV} {q : Nat} {j : JbV} (h : l[q]? = some j) (u : Int) : cntU (l.take (q + 1)) u = cntU (l.take q) u + if j.unit = u then 1 else 0 := by
  unfold cntU
  rw [List.take_add_one, h, List.countP_append]
  simp [List.countP_cons]
/-- a job, one turn later, if none ahead is of its unit. -/
def dec1 (l : List JbV) (j : JbV) : JbV := if cntU l j.unit = 0 then { j with left := j.left - 1 } else j
def one1 (j : JbV) : JbV := { j with left := 1 }
def Comes (ks : List KV) (Y : WV) (j : JbV) (c : Int) : Prop := SpotSays ks Y j.unit j.kind c 0 ∧ Wd.placeFault ks Y j.player j.kind c = 0
def NoCome (ks : List KV) (Y : WV) (j : JbV) : Prop := ∃ c F, SpotSays ks Y j.unit j.kind c F ∧ (F ≠ 0 ∨ Wd.placeFault ks Y j.player j.kind c ≠ 0)
/-- the first q jobs are looked at: the world by then, what happened, which jobs are left. -/
inductive Tr (ks : List KV) (X : WV) : Nat → WV → List EvV → List JbV → Prop
  | zero : Tr ks X 0 X [] []
  | wait {q : Nat} {Y : WV} {es : List EvV} {qs : List JbV} {j : JbV} : Tr ks X q Y es qs → X.qs[q]? = some j → (dec1 (X.qs.take q) j).left ≠ 0 → Tr ks X (q + 1) Y es (qs ++ [dec1 (X.qs.take q) j])
  | come {q : Nat} {Y : WV} {es : List EvV} {qs : List JbV} {j : JbV} {c : Int} : Tr ks X q Y es qs → X.qs[q]? = some j → (dec1 (X.qs.take q) j).left = 0 → Comes ks Y j c → Tr ks X (q + 1) (Wd.put ks Y j.player j.kind c) (es ++ [⟨6, Y.next, c⟩]) qs
  | stay {q : Nat} {Y : WV} {es : List EvV} {qs : List JbV} {j : JbV} : Tr ks X q Y es qs → X.qs[q]? = some j → (dec1 (X.qs.take q) j).left = 0 → NoCome ks Y j → Tr ks X (q + 1) Y es (qs ++ [one1 j])
theorem Tr.keep {ks : List KV} {X : WV} (h : WRight ks X) {q : Nat} {Y : WV} {es : List EvV} {qs : List JbV} (t : Tr ks X q Y es qs) : WRight ks Y ∧ Y.qs = X.qs ∧ es.length ≤ q ∧ qs.length ≤ q ∧ Y.turn = X.turn ∧ Y.wide = X.wide ∧ Y.high = X.high ∧ Y.gs = X.gs ∧ Y.os = X.os ∧ Y.gold = X.gold := by
  induction t with
  | zero => exact ⟨h, rfl, by simp, by simp, rfl, rfl, rfl, rfl, rfl, rfl⟩
  | wait _ _ _ ih =>
    obtain ⟨i1, i2, i3, i4, i5⟩ := ih
    exact ⟨i1, i2, by omega, by simp; omega, i5⟩
  | come _ _ _ hc ih =>
    obtain ⟨i1, i2, i3, i4, i5⟩ := ih
    exact ⟨wright_of (put_right i1 hc.2), i2, by simp; omega, by omega, i5⟩
  | stay _ _ _ _ ih =>
    obtain ⟨i1, i2, i3, i4, i5⟩ := ih
    exact ⟨i1, i2, by omega, by simp; omega, i5⟩
end Go.Proofs.YtolmfekefjnggaaDoor

namespace Go.Proofs.YtolmfekefjnggaaDoor
open Go.RowKit
set_option linter.unusedVariables false

theorem own_two {w : World} {b1 b2 : Nat} {T S : TypeId} {s1 s2 : Nat} {u v : Value} {n m : Nat} {cs ds : List Value} (h : w.ownsRow b1 T s1 u n cs) (k : w.ownsRow b2 S s2 v m ds) (hT : T ≠ S) : ∀ b, u.ownBlock = some b → ¬ v.ownBlock = some b := by
  intro b hb hv
  rcases h.2 with ⟨h1, -⟩ | ⟨g, cap, cur, h1, -, h3, -⟩
  · rw [h1] at hb; cases hb
  · rcases k.2 with ⟨k1, -⟩ | ⟨g', cap', cur', k1, -, k3, -⟩
    · rw [k1] at hv; cases hv
    · rw [h1] at hb
      rw [k1] at hv
      simp [Value.ownBlock] at hb hv
      subst hb
      subst hv
      rw [h3] at k3
      injection k3 with k3
      injection k3 with _ k4
      exact hT k4
/-- the world in its box, its lists, the list of jobs that are left. -/
structure TrS (Y : WV) (es : List EvV) (qs : List JbV) (z b1 bm be : Nat) (w5 : World) (u1 u2 u3 u4 u5 ev qv : Value) (V : World) : Prop where
  x : Wx V z (.int .i64 Y.turn) (.int .i64 Y.next) (.int .i64 Y.wide) (.int .i64 Y.high) u1 u2 u3 u4 u5
  o1 : Ow V b1 u1 Y.gs
  o2 : Ow V b1 u2 Y.os
  o3 : Ow V b1 u3 Y.gold
  o4 : Uno V b1 u4 Y.us
  o5 : Jbo V b1 u5 Y.qs
  d : Dif u5 qv
  l : ∀ x ∈ [u1, u2, u3, u4, u5], ∀ k, x.ownBlock = some k → k < bm ∨ be ≤ k
  e : Evo V be ev es
  o : Jbo V be qv qs
  f : Fr (fun k => k = z ∨ k = bm) w5 V
  n : z < b1 ∧ b1 ≤ bm ∧ bm < be ∧ w5.heap.size = be
section
variable {Y : WV} {es : List EvV} {qs : List JbV} {z b1 bm be : Nat} {w5 : World} {u1 u2 u3 u4 u5 ev qv : Value} {V V' : World}
theorem TrS.below (h : TrS Y es qs z b1 bm be w5 u1 u2 u3 u4 u5 ev qv V) (hb : Below V.heap.size V V') : TrS Y es qs z b1 bm be w5 u1 u2 u3 u4 u5 ev qv V' :=
  ⟨h.x.below hb h.x.lt, h.o1.below hb, h.o2.below hb, h.o3.below hb, h.o4.below hb, h.o5.below hb, h.d, h.l, h.e.below hb, h.o.below hb, h.f.trans (Fr.below hb), h.n⟩
theorem TrS.wl (h : TrS Y es qs z b1 bm be w5 u1 u2 u3 u4 u5 ev qv V) : Wl V (.agg #[.int .i64 Y.turn, .int .i64 Y.next, .int .i64 Y.wide, .int .i64 Y.high, u1, u2, u3, u4, u5]) Y :=
  ⟨u1, u2, u3, u4, u5, rfl, h.o1.ro, h.o2.ro, h.o3.ro, h.o4.l, h.o5.l⟩
/-- the map has turned. -/
theorem TrS.map (h : TrS Y es qs z b1 bm be w5 u1 u2 u3 u4 u5 ev qv V) (hf : Fr (fun q => q = bm) V V') : TrS Y es qs z b1 bm be w5 u1 u2 u3 u4 u5 ev qv V' := by
  have hn := h.n
  have no : ∀ x ∈ [u1, u2, u3, u4, u5], ∀ k, x.ownBlock = some k → ¬ k = bm := fun x hx k hk => by have := h.l x hx k hk; omega
  exact ⟨hf.wx h.x (by omega), hf.own h.o1 (no u1 (by simp)), hf.own h.o2 (no u2 (by simp)), hf.own h.o3 (no u3 (by simp)), hf.own h.o4 (no u4 (by simp)), hf.own h.o5 (no u5 (by simp)), h.d, h.l,
    hf.own h.e (fun k hk => by have := (h.e.block k hk).1; omega), hf.own h.o (fun k hk => by have := (h.o.block k hk).1; omega), h.f.trans (hf.mono (fun k hk => .inr hk)), h.n⟩
/-- one more event. -/
theorem TrS.told (h : TrS Y es qs z b1 bm be w5 u1 u2 u3 u4 u5 ev qv V) {e : EvV} {ev' : Value} (g : V.grownBy V' ev.ownBlock) (he : Evo V' be ev' (es ++ [e])) : TrS Y (es ++ [e]) qs z b1 bm be w5 u1 u2 u3 u4 u5 ev' qv V' := by
  have hn := h.n
  have hf : Fr (fun q => ev.ownBlock = some q) V V' := Fr.gb g (fun k hk => hk)
  have ne : ∀ k, ev.ownBlock = some k → be ≤ k := fun k hk => (h.e.block k hk).1
  refine ⟨hf.wx h.x (fun e => by have := ne z e; omega), hf.own h.o1 (own_two h.o1 h.e (by decide)), hf.own h.o2 (own_two h.o2 h.e (by decide)), hf.own h.o3 (own_two h.o3 h.e (by decide)), hf.own h.o4 (own_two h.o4 h.e (by decide)), hf.own h.o5 (own_two h.o5 h.e (by decide)), h.d, h.l, he, hf.own h.o (own_two h.o h.e (by decide)), ?_, h.n⟩
  refine ⟨hf.os.trans h.f.os, hf.tape.trans h.f.tape, hf.output.trans h.f.output, Nat.le_trans h.f.size hf.size, fun q hq hm => (hf.block q (Nat.lt_of_lt_of_le hq h.f.size) (fun e => ?_)).trans (h.f.block q hq hm)⟩
  have := ne q e
  omega
/-- one more job that is left. -/
theorem TrS.left (h : TrS Y es qs z b1 bm be w5 u1 u2 u3 u4 u5 ev qv V) {j : JbV} {qv' : Value} {gq : Nat} (g : V.grownBy V' qv.ownBlock) (ho : Jbo V' be qv' (qs ++ [j])) (hq : qv'.ownBlock = some gq) (hg : qv.ownBlock = some gq ∨ gq = V.heap.size) : TrS Y es (qs ++ [j]) z b1 bm be w5 u1 u2 u3 u4 u5 ev qv' V' := by
  have hn := h.n
  have hf : Fr (fun q => qv.ownBlock = some q) V V' := Fr.gb g (fun k hk => hk)
  have ne : ∀ k, qv.ownBlock = some k → be ≤ k := fun k hk => (h.o.block k hk).1
  refine ⟨hf.wx h.x (fun e => by have := ne z e; omega), hf.own h.o1 (own_two h.o1 h.o (by decide)), hf.own h.o2 (own_two h.o2 h.o (by decide)), hf.own h.o3 (own_two h.o3 h.o (by decide)), hf.own h.o4 (own_two h.o4 h.o (by decide)), hf.own h.o5 h.d, ?_, h.l, hf.own h.e (own_two h.e h.o (by decide)), ho, ?_, h.n⟩
  · intro k hk e
    rw [hq] at e
    injection e with e
    subst e
    rcases hg with hg | hg
    · exact h.d _ hk hg
    · have := (h.o5.block _ hk).2; omega
  · refine ⟨hf.os.trans h.f.os, hf.tape.trans h.f.tape, hf.output.trans h.f.output, Nat.le_trans h.f.size hf.size, fun q hq hm => (hf.block q (Nat.lt_of_lt_of_le hq h.f.size) (fun e => ?_)).trans (h.f.block q hq hm)⟩
    have := ne q e
    omega
/-- a block that none of the lists lies in has turned. -/
theorem TrS.box (h : TrS Y es qs z b1 bm be w5 u1 u2 u3 u4 u5 ev qv V) {b : Nat} (hk : Kp b V V') (hb : be ≤ b) (hl : ∀ x ∈ [u1, u2, u3, u4, u5, ev, qv], ∀ k, x.ownBlock = some k → k < b) : TrS Y es qs z b1 bm be w5 u1 u2 u3 u4 u5 ev qv V' := by
  have hn := h.n
  have hf : Fr (fun q => q = b) V V' := Fr.kp hk rfl
  have no : ∀ x ∈ [u1, u2, u3, u4, u5, ev, qv], ∀ k, x.ownBlock = some k → ¬ k = b := fun x hx k hk => by have := hl x hx k hk; omega
  refine ⟨hf.wx h.x (by omega), hf.own h.o1 (no u1 (by simp)), hf.own h.o2 (no u2 (by simp)), hf.own h.o3 (no u3 (by simp)), hf.own h.o4 (no u4 (by simp)), hf.own h.o5 (no u5 (by simp)), h.d, h.l, hf.own h.e (no ev (by simp)), hf.own h.o (no qv (by simp)), ?_, h.n⟩
  exact ⟨hf.os.trans h.f.os, hf.tape.trans h.f.tape, hf.output.trans h.f.output, Nat.le_trans h.f.size hf.size, fun q hq hm => (hf.block q (Nat.lt_of_lt_of_le hq h.f.size) (fun e => by omega)).trans (h.f.block q hq hm)⟩
theorem TrS.under (h : TrS Y es qs z b1 bm be w5 u1 u2 u3 u4 u5 ev qv V) : ∀ x ∈ [u1, u2, u3, u4, u5, ev, qv], ∀ k, x.ownBlock = some k → k < V.heap.size := by
  intro x hx k hk
  simp only [List.mem_cons, List.not_mem_nil, or_false] at hx
  rcases hx with rfl | rfl | rfl | rfl | rfl | rfl | rfl
  · exact (h.o1.block k hk).2
  · exact (h.o2.block k hk).2
  · exact (h.o3.block k hk).2
  · exact (h.o4.block k hk).2
  · exact (h.o5.block k hk).2
  · exact (h.e.block k hk).2
  · exact (h.o.block k hk).2
/-- another world in the box: one whose lists lie behind all that was when it was made. -/
theorem TrS.puts (h : TrS Y es qs z b1 bm be w5 u1 u2 u3 u4 u5 ev qv V) {Z : WV} {k1 k2 k3 k4 k5 : Value} {B : Nat} (hB : be ≤ B) (hq : ∀ k, qv.ownBlock = some k → k < B) (hk : Kp z V V') (hx : Wx V' z (.int .i64 Z.turn) (.int .i64 Z.next) (.int .i64 Z.wide) (.int .i64 Z.high) k1 k2 k3 k4 k5)
    (p1 : Ow V B k1 Z.gs) (p2 : Ow V B k2 Z.os) (p3 : Ow V B k3 Z.gold) (p4 : Uno V B k4 Z.us) (p5 : Jbo V B k5 Z.qs) : TrS Z es qs z b1 bm be w5 k1 k2 k3 k4 k5 ev qv V' := by
  have hn := h.n
  have hf : Fr (fun q => q = z) V V' := Fr.kp hk rfl
  refine ⟨hx, Ow.mono (hf.own p1 (fun k hk => by have := (p1.block k hk).1; omega)) (by omega), Ow.mono (hf.own p2 (fun k hk => by have := (p2.block k hk).1; omega)) (by omega), Ow.mono (hf.own p3 (fun k hk => by have := (p3.block k hk).1; omega)) (by omega), Uno.mono (hf.own p4 (fun k hk => by have := (p4.block k hk).1; omega)) (by omega), Jbo.mono (hf.own p5 (fun k hk => by have := (p5.block k hk).1; omega)) (by omega), ?_, ?_, hf.own h.e (fun k hk => by have := (h.e.block k hk).1; omega), hf.own h.o (fun k hk => by have := (h.o.block k hk).1; omega), h.f.trans (hf.mono (fun k hk => .inl hk)), h.n⟩
  · intro k hk e
    have := (p5.block k hk).1
    have := hq k e
    omega
  · intro x hx k hk
    simp only [List.mem_cons, List.not_mem_nil, or_false] at hx
    rcases hx with rfl | rfl | rfl | rfl | rfl
    · have := (p1.block k hk).1; omega
    · have := (p2.block k hk).1; omega
    · have := (p3.block k hk).1; omega
    · have := (p4.block k hk).1; omega
    · have := (p5.block k hk).1; omega
end
end Go.Proofs.YtolmfekefjnggaaDoor

namespace Go.Proofs.YtolmfekefjnggaaDoor
open Go.RowKit
set_option linter.unusedVariables false

set_option maxRecDepth 100000 in
set_option maxHeartbeats 4000000 in
theorem cplace_any (vk vw : Value) (ks : List KV) (W : WV) (pl kd at_ : Int) (w : World) (hk : Kl w vk ks) (hw : Wl w vw W) (hr : WRight ks W) :
    Calls Tryd.prog 36 #[vk, vw, .int .i64 pl, .int .i64 kd, .int .i64 at_] w fun e w' => ∃ r, e = .returned r ∧ Er r (Wd.placeFault ks W pl kd at_) ∧ Below w.heap.size w w' := by
  have K : Hid (Kl w vk ks) := hk
  have H : Hid (Wl w vw W) := hw
  have R : Hid (WRight ks W) := hr
  obtain ⟨u1, u2, u3, u4, u5, rfl, r1, r2, r3, r4, r5⟩ := hw
  obtain ⟨p1, q1, rfl, -⟩ := r1
  obtain ⟨p2, q2, rfl, -⟩ := r2
  obtain ⟨p3, q3, rfl, -⟩ := r3
  obtain ⟨p4, q4, rfl, -⟩ := r4
  obtain ⟨p5, q5, rfl, -⟩ := r5
  obtain ⟨pk, qk, rfl, -, -, kc⟩ := hk
  have KC : Hid (ks ≠ [] → ∃ x, pk = some x ∧ x.block < w.heap.size ∧ ∀ (i : Nat) k, ks[i]? = some k → Kc w (x.add (i * 11)) k) := kc
  have lk : ks.length ≤ 8 := kinds_len hr.kinds
  have lg : W.gold.length ≤ 4 := (nums_ok hr.nums).2
  have lu : W.us.length ≤ 40 := hr.ul
  have lc : W.gs.length ≤ 144 := by
    obtain ⟨Wn, Hn, -, -, G⟩ := hr.good
    have h1 := G.pos
    have h2 := G.gl
    omega
  clear hr kc
  go_enter Tryd.func36, Tryd.ntmps36
  go_upto_region 1 with fail
  have B0 : Hid (Below w.heap.size w (w.alloc (Obj.cells #[.int .i64 W.turn, .int .i64 W.next, .int .i64 W.wide, .int .i64 W.high, .slice p1 W.gs.length q1, .slice p2 W.os.length q2, .slice p3 W.gold.length q3, .slice p4 W.us.length q4, .slice p5 W.qs.length q5] 29))) := (Below.refl _ _).alloc (Nat.le_refl _) _
  have X0 : Hid (Bw (w.alloc (Obj.cells #[.int .i64 W.turn, .int .i64 W.next, .int .i64 W.wide, .int .i64 W.high, .slice p1 W.gs.length q1, .slice p2 W.os.length q2, .slice p3 W.gold.length q3, .slice p4 W.us.length q4, .slice p5 W.qs.length q5] 29)) w.heap.size W (.slice p1 W.gs.length q1) (.slice p2 W.os.length q2) (.slice p3 W.gold.length q3) (.slice p4 W.us.length q4) (.slice p5 W.qs.length q5)) := Bw.mk' W _ _ _ _ _ rfl
  generalize (w.alloc (Obj.cells #[.int .i64 W.turn, .int .i64 W.next, .int .i64 W.wide, .int .i64 W.high, .slice p1 W.gs.length q1, .slice p2 W.os.length q2, .slice p3 W.gold.length q3, .slice p4 W.us.length q4, .slice p5 W.qs.length q5] 29)) = w0 at *
  obtain ⟨x0, x1, x2, x3, x4, x5, x6, x7, x8⟩ := X0.out
  by_cases h40 : (40 : Int) ≤ (W.us.length : Int)
  · go_wp2
    go_ret
    exact ⟨_, rfl, by rw [Wd.pf4 (.inl h40)]; exact Er.no (by decide), B0.out⟩
  by_cases hnx : (1000000 : Int) ≤ W.next
  · go_wp2
    go_ret
    exact ⟨_, rfl, by rw [Wd.pf4 (.inr hnx)]; exact Er.no (by decide), B0.out⟩
  have HF : Hid (¬ (40 ≤ (W.us.length : Int) ∨ 1000000 ≤ W.next)) := fun h => h.elim h40 hnx
  by_cases h1 : 0 ≤ pl ∧ pl < (W.gold.length : Int)
  case neg =>
    have t1 : decide (0 ≤ pl ∧ pl < (W.gold.length : Int)) = false := decide_eq_false h1
    have F : Hid (Wd.placeFault ks W pl kd at_ = 1) := Wd.pf1 HF.out (.inl h1)
    clear h1
    go_wp2_with fail
    refine (isone_ints _ _ _ _ _ (by omega)).mono ?_
    rintro e w1 ⟨rfl, hww⟩
    obtain rfl := hww.symm
    rw [t1]
    clear t1
    go_wp2
    go_ret
    exact ⟨_, rfl, by rw [F.out]; exact Er.no (by decide), B0.out⟩
  have t1 : decide (0 ≤ pl ∧ pl < (W.gold.length : Int)) = true := decide_eq_true h1
  have H1 : Hid (0 ≤ pl ∧ pl < (W.gold.length : Int)) := h1
  clear h1
  go_wp2_with fail
  refine (isone_ints _ _ _ _ _ (by omega)).mono ?_
  rintro e w1 ⟨rfl, hww⟩
  obtain rfl := hww.symm
  rw [t1]
  clear t1
  by_cases h2 : 0 ≤ kd ∧ kd < (ks.length : Int)
  case neg =>
    have t1 : decide (0 ≤ kd ∧ kd < (ks.length : Int)) = false := decide_eq_false h2
    have F : Hid (Wd.placeFault ks W pl kd at_ = 1) := Wd.pf1 HF.out (.inr h2)
    clear h2
    go_wp2_with fail
    refine (isone_kinds _ _ _ _ _ (by omega)).mono ?_
    rintro e w1 ⟨rfl, hww⟩
    obtain rfl := hww.symm
    rw [t1]
    clear t1
    go_wp2
    go_ret
    exact ⟨_, rfl, by rw [F.out]; exact Er.no (by decide), B0.out⟩
  have t1 : decide (0 ≤ kd ∧ kd < (ks.length : Int)) = true := decide_eq_true h2
  have H2 : Hid (0 ≤ kd ∧ kd < (ks.length : Int)) := h2
  clear h2
  go_wp2_with fail
  refine (isone_kinds _ _ _ _ _ (by omega)).mono ?_
  rintro e w1 ⟨rfl, hww⟩
  obtain rfl := hww.symm
  rw [t1]
  clear t1
  by_cases h3 : 0 ≤ at_ ∧ at_ < (W.gs.length : Int)
  case neg =>
    have t1 : decide (0 ≤ at_ ∧ at_ < (W.gs.length : Int)) = false := decide_eq_false h3
    have F : Hid (Wd.placeFault ks W pl kd at_ = 6) := Wd.pf6 HF.out H1.out H2.out h3
    clear h3
    go_wp2_with fail
    refine (isone_ints _ _ _ _ _ (by omega)).mono ?_
    rintro e w1 ⟨rfl, hww⟩
    obtain rfl := hww.symm
    rw [t1]
    clear t1
    go_wp2
    go_ret
    exact ⟨_, rfl, by rw [F.out]; exact Er.no (by decide), B0.out⟩
  have t1 : decide (0 ≤ at_ ∧ at_ < (W.gs.length : Int)) = true := decide_eq_true h3
  have H3 : Hid (0 ≤ at_ ∧ at_ < (W.gs.length : Int)) := h3
  go_wp2_with fail
  refine (isone_ints _ _ _ _ _ (by omega)).mono ?_
  rintro e w1 ⟨rfl, hww⟩
  obtain rfl := hww.symm
  rw [t1]
  clear t1
  obtain ⟨an, ea⟩ : ∃ an : Nat, at_ = an := ⟨at_.toNat, by omega⟩
  obtain ⟨kn, ek⟩ : ∃ kn : Nat, kd = kn := ⟨kd.toNat, by have := H2.out; omega⟩
  subst ea
  subst ek
  have hkl : kn < ks.length := by have := H2.out; omega
  have hki : (kn : Int) < (ks.length : Int) := by omega
  obtain ⟨k, hk⟩ : ∃ k, ks[kn]? = some k := ⟨_, List.getElem?_eq_getElem hkl⟩
  obtain ⟨g, hg0⟩ : ∃ g, W.gs[an]? = some g := ⟨_, List.getElem?_eq_getElem (by omega)⟩
  have FK : Hid (Wd.placeFault ks W pl (kn : Nat) (an : Nat) = if Wd.open_ W.gs W.us (an : Nat) k.f = false then 7 else 0) := Wd.pfk HF.out H1.out H2.out H3.out (by simpa using hk)
  have hgan : Hid (W.gs[an]? = some g) := hg0
  obtain ⟨xk, rfl, hxl, hxc⟩ := KC.out (by intro e; rw [e] at hkl; simp at hkl)
  have hkc : Hid (Kc w0 (xk.add (kn * 11)) k) := (hxc kn k hk).below B0.out (by rw [add_block]; exact hxl)
  have FC : Hid (∀ V, Below w0.heap.size w0 V → V.cell? ⟨w.heap.size, 2, none⟩ = some (.int .i64 W.wide) ∧ V.cell? ⟨w.heap.size, 3, none⟩ = some (.int .i64 W.high) ∧ V.cell? ⟨w.heap.size, 4, none⟩ = some (.slice p1 W.gs.length q1) ∧ V.cell? ⟨w.heap.size, 5, none⟩ = some (.slice p2 W.os.length q2) ∧ V.cell? ⟨w.heap.size, 7, none⟩ = some (.slice p4 W.us.length q4) ∧ V.cell? ⟨(xk.add (kn * 11)).block, (xk.add (kn * 11)).off + 9, none⟩ = some (.bool k.f)) := fun V hV => by
    obtain ⟨-, -, z2, z3, z4, z5, -, z7, -⟩ := X0.out.below hV X0.out.lt
    obtain ⟨-, -, -, -, -, -, -, -, -, m9, -⟩ := hkc.out.below hV hkc.out.lt
    exact ⟨z2, z3, z4, z5, z7, m9⟩
  have OPN : Hid (∀ V, Below w0.heap.size w0 V → Calls Tryd.prog 54 #[.agg #[.int .i64 W.wide, .int .i64 W.high, .slice p1 W.gs.length q1, .slice p2 W.os.length q2], .slice p4 W.us.length q4, .int .i64 (an : Nat), .bool k.f] V fun e w' => e = .returned (.bool (Wd.open_ W.gs W.us (an : Nat) k.f)) ∧ Below w0.heap.size w0 w') := fun V hV => by
    have BV : Below w.heap.size w V := B0.out.trans (hV.mono B0.out.size)
    obtain ⟨r1, r2, -, r4, -⟩ := (H.out.below BV).slices
    obtain ⟨Wn, Hn, hWn, hHn, hGood⟩ := R.out.good
    rw [hWn, hHn]
    exact (isopen_any _ _ Wn Hn W.gs W.os W.us an g k.f V ⟨_, _, rfl, r1, r2⟩ hGood r4 (by have := hGood.gl; omega) hgan.out).mono fun e w' ⟨h1, h2⟩ => ⟨h1, hV.trans (h2.mono hV.size)⟩
  have eo : ∀ args w, (callFunc 54 args).run Tryd.prog w = .ok (.enter 54 args) w := by intro args w; go_simp
  clear hxc hk hg0 h3 x0 x1 x2 x3 x4 x5 x6 x7 x8
  go_upto_region 9 with fail
  refine wp_region_class 11 (fun V => Below w0.heap.size w0 V) (by kernel_rfl) (by kernel_rfl) (Below.refl _ _).drew ?_
  simp only [List.take_succ_cons, List.take_zero, List.drop_succ_cons, List.drop_zero]
  refine head_step (.pointer (some ⟨w.heap.size, 2, none⟩)) (by go_simp) (fun V hV => by go_simp) ?_
  go_simp
  refine head_step (.agg #[.int .i64 W.wide, .int .i64 W.high, .slice p1 W.gs.length q1, .slice p2 W.os.length q2]) (by go_simp) (fun V hV => by obtain ⟨f2, f3, f4, f5, -⟩ := FC.out V hV; go_simp) ?_
  go_simp
  refine head_step (.pointer (some ⟨w.heap.size, 7, none⟩)) (by go_simp) (fun V hV => by go_simp) ?_
  go_simp
  refine head_step (.slice p4 W.us.length q4) (by go_simp) (fun V hV => by obtain ⟨-, -, -, -, f7, -⟩ := FC.out V hV; go_simp) ?_
  go_simp
  refine head_step (.int .i64 (an : Nat)) (by go_simp) (fun V hV => by go_simp) ?_
  go_simp
  refine head_step (.slice (some xk) ks.length qk) (by go_simp) (fun V hV => by go_simp) ?_
  go_simp
  refine head_step (.int .i64 (kn : Nat)) (by go_simp) (fun V hV => by go_simp) ?_
  go_simp
  refine head_step (.pointer (some (xk.add (kn * 11)))) (by go_simp) (fun V hV => by go_simp) ?_
  go_simp
  refine head_step (.pointer (some ⟨(xk.add (kn * 11)).block, (xk.add (kn * 11)).off + 9, none⟩)) (by go_simp) (fun V hV => by go_simp) ?_
  go_simp
  refine head_step (.bool k.f) (by go_simp) (fun V hV => by obtain ⟨-, -, -, -, -, f10⟩ := FC.out V hV; go_simp) ?_
  go_simp
  refine head_call (.bool (Wd.open_ W.gs W.us (an : Nat) k.f)) 54 #[.agg #[.int .i64 W.wide, .int .i64 W.high, .slice p1 W.gs.length q1, .slice p2 W.os.length q2], .slice p4 W.us.length q4, .int .i64 (an : Nat), .bool k.f] (by go_simp) (fun V hV => by go_simp) (fun V hV => OPN.out V hV) ?_
  go_simp
  intro V hV
  have BV : Hid (Below w.heap.size w V) := B0.out.trans (hV.mono B0.out.size)
  obtain ⟨b9, hb9⟩ : ∃ b, Wd.open_ W.gs W.us (an : Nat) k.f = b := ⟨_, rfl⟩
  rw [hb9] at FK ⊢
  clear hV FC OPN hb9
  cases b9 with
  | false =>
    go_wp2
    go_ret
    exact ⟨_, rfl, by rw [FK.out]; exact Er.no (by decide), BV.out⟩
  | true =>
    go_wp2
    go_ret
    exact ⟨_, rfl, by rw [FK.out]; exact Er.nil, BV.out⟩
end Go.Proofs.YtolmfekefjnggaaDoor

namespace Go.Proofs.YtolmfekefjnggaaDoor
open Go.RowKit
set_option linter.unusedVariables false

set_option maxRecDepth 100000 in
set_option maxHeartbeats 8000000 in
theorem place_any (vk vw : Value) (ks : List KV) (W : WV) (pl kd at_ : Int) (w : World) (hk : Kl w vk ks) (hb : ∀ k ∈ ks, k.b.size ≤ 9223372036854775807) (hw : Wl w vw W) :
    Calls Tryd.prog 19 #[vk, vw, .int .i64 pl, .int .i64 kd, .int .i64 at_] w fun e w' => ∃ u r, e = .returned (.tuple #[u, r]) ∧ Er r (Wd.putFault ks W pl kd at_) ∧ Wo w' w.heap.size u (Wd.placed ks W pl kd at_) ∧ Below w.heap.size w w' := by
  have K : Hid (Kl w vk ks ∧ ∀ k ∈ ks, k.b.size ≤ 9223372036854775807) := ⟨hk, hb⟩
  have H : Hid (Wl w vw W) := hw
  obtain ⟨u1, u2, u3, u4, u5, rfl, r1, r2, r3, r4, r5⟩ := hw
  obtain ⟨p1, q1, rfl, -⟩ := r1
  obtain ⟨p2, q2, rfl, -⟩ := r2
  obtain ⟨p3, q3, rfl, -⟩ := r3
  obtain ⟨p4, q4, rfl, -⟩ := r4
  obtain ⟨p5, q5, rfl, -⟩ := r5
  obtain ⟨pk, qk, rfl, -, -, kc⟩ := hk
  have KC : Hid (ks ≠ [] → ∃ x, pk = some x ∧ x.block < w.heap.size ∧ ∀ (i : Nat) k, ks[i]? = some k → Kc w (x.add (i * 11)) k) := kc
  clear hb kc
  go_enter Tryd.func19, Tryd.ntmps19
  go_upto_region 1 with fail
  have B0 : Hid (Below w.heap.size w ((w.alloc (.cells #[.int .i64 W.turn, .int .i64 W.next, .int .i64 W.wide, .int .i64 W.high, .slice p1 W.gs.length q1, .slice p2 W.os.length q2, .slice p3 W.gold.length q3, .slice p4 W.us.length q4, .slice p5 W.qs.length q5] 29)).alloc (.cells #[.int .i64 0, .int .i64 0, .int .i64 0, .int .i64 0, .slice none 0 0, .slice none 0 0, .slice none 0 0, .slice none 0 0, .slice none 0 0] 29))) := ((Below.refl _ _).alloc (Nat.le_refl _) _).alloc (by simp) _
  have X0 : Hid (Wx ((w.alloc (.cells #[.int .i64 W.turn, .int .i64 W.next, .int .i64 W.wide, .int .i64 W.high, .slice p1 W.gs.length q1, .slice p2 W.os.length q2, .slice p3 W.gold.length q3, .slice p4 W.us.length q4, .slice p5 W.qs.length q5] 29)).alloc (.cells #[.int .i64 0, .int .i64 0, .int .i64 0, .int .i64 0, .slice none 0 0, .slice none 0 0, .slice none 0 0, .slice none 0 0, .slice none 0 0] 29)) w.heap.size (.int .i64 W.turn) (.int .i64 W.next) (.int .i64 W.wide) (.int .i64 W.high) (.slice p1 W.gs.length q1) (.slice p2 W.os.length q2) (.slice p3 W.gold.length q3) (.slice p4 W.us.length q4) (.slice p5 W.qs.length q5)) := (Wx.new (w := w) _ _ _ _ _ _ _ _ _ rfl).below ((Below.refl _ _).alloc (Nat.le_refl _) _) (by simp)
  have Z0 : Hid (Wx ((w.alloc (.cells #[.int .i64 W.turn, .int .i64 W.next, .int .i64 W.wide, .int .i64 W.high, .slice p1 W.gs.length q1, .slice p2 W.os.length q2, .slice p3 W.gold.length q3, .slice p4 W.us.length q4, .slice p5 W.qs.length q5] 29)).alloc (.cells #[.int .i64 0, .int .i64 0, .int .i64 0, .int .i64 0, .slice none 0 0, .slice none 0 0, .slice none 0 0, .slice none 0 0, .slice none 0 0] 29)) (w.heap.size + 1) (.int .i64 0) (.int .i64 0) (.int .i64 0) (.int .i64 0) (.slice none 0 0) (.slice none 0 0) (.slice none 0 0) (.slice none 0 0) (.slice none 0 0)) := Wx.new _ _ _ _ _ _ _ _ _ (by simp)
  have S0 : Hid (w.heap.size + 2 ≤ ((w.alloc (.cells #[.int .i64 W.turn, .int .i64 W.next, .int .i64 W.wide, .int .i64 W.high, .slice p1 W.gs.length q1, .slice p2 W.os.length q2, .slice p3 W.gold.length q3, .slice p4 W.us.length q4, .slice p5 W.qs.length q5] 29)).alloc (.cells #[.int .i64 0, .int .i64 0, .int .i64 0, .int .i64 0, .slice none 0 0, .slice none 0 0, .slice none 0 0, .slice none 0 0, .slice none 0 0] 29)).heap.size) := by unfold Hid; simp
  generalize ((w.alloc (.cells #[.int .i64 W.turn, .int .i64 W.next, .int .i64 W.wide, .int .i64 W.high, .slice p1 W.gs.length q1, .slice p2 W.os.length q2, .slice p3 W.gold.length q3, .slice p4 W.us.length q4, .slice p5 W.qs.length q5] 29)).alloc (.cells #[.int .i64 0, .int .i64 0, .int .i64 0, .int .i64 0, .slice none 0 0, .slice none 0 0, .slice none 0 0, .slice none 0 0, .slice none 0 0] 29)) = w0 at *
  obtain ⟨x0, x1, x2, x3, x4, x5, x6, x7, x8⟩ := X0.out.cells
  go_wp2_with fail
  refine (wcheck_any _ _ ks W w0 (K.out.1.below B0.out) K.out.2 (H.out.below B0.out)).mono ?_
  rintro e w1 ⟨r, rfl, hr, hb1⟩
  clear x0 x1 x2 x3 x4 x5 x6 x7 x8
  have B1 : Hid (Below w.heap.size w w1) := B0.out.trans (hb1.mono B0.out.size)
  have X1 : Hid (Wx w1 w.heap.size (.int .i64 W.turn) (.int .i64 W.next) (.int .i64 W.wide) (.int .i64 W.high) (.slice p1 W.gs.length q1) (.slice p2 W.os.length q2) (.slice p3 W.gold.length q3) (.slice p4 W.us.length q4) (.slice p5 W.qs.length q5)) := X0.out.below hb1 X0.out.lt
  have Z1 : Hid (Wx w1 (w.heap.size + 1) (.int .i64 0) (.int .i64 0) (.int .i64 0) (.int .i64 0) (.slice none 0 0) (.slice none 0 0) (.slice none 0 0) (.slice none 0 0) (.slice none 0 0)) := Z0.out.below hb1 Z0.out.lt
  have S1 : Hid (w.heap.size + 2 ≤ w1.heap.size) := Nat.le_trans S0.out hb1.size
  clear hb1 B0 X0 Z0 S0
  rcases hr with ⟨hf, rfl⟩ | ⟨hf, rfl⟩
  case inr =>
    obtain ⟨fe, hfe⟩ : ∃ f, Wd.wfault ks W = f := ⟨_, rfl⟩
    have HFE : Hid (fe ≠ 0) := by rw [← hfe]; exact hf
    have FE : Hid (Wd.putFault ks W pl kd at_ = fe) := by unfold Hid Wd.putFault; rw [if_neg hf]; exact hfe
    rw [hfe]
    clear hf hfe
    obtain ⟨z0, z1, z2, z3, z4, z5, z6, z7, z8⟩ := Z1.out.cells
    obtain ⟨t0, t1, t2, t3, t4, t5, t6, t7, t8⟩ := Z1.out.thaws
    have KZ : Hid (Kp (w.heap.size + 1) w1 (((((((((w1.setCell ⟨w.heap.size + 1, 0, none⟩ (.int .i64 0)).setCell ⟨w.heap.size + 1, 1, none⟩ (.int .i64 0)).setCell ⟨w.heap.size + 1, 2, none⟩ (.int .i64 0)).setCell ⟨w.heap.size + 1, 3, none⟩ (.int .i64 0)).setCell ⟨w.heap.size + 1, 4, none⟩ (.slice none 0 0)).setCell ⟨w.heap.size + 1, 5, none⟩ (.slice none 0 0)).setCell ⟨w.heap.size + 1, 6, none⟩ (.slice none 0 0)).setCell ⟨w.heap.size + 1, 7, none⟩ (.slice none 0 0)).setCell ⟨w.heap.size + 1, 8, none⟩ (.slice none 0 0))) := put_kp _ _ _ _ _ _ _ _ _ _ _
    obtain ⟨y0, y1, y2, y3, y4, y5, y6, y7, y8⟩ := (Z1.out.put (.int .i64 0) (.int .i64 0) (.int .i64 0) (.int .i64 0) (.slice none 0 0) (.slice none 0 0) (.slice none 0 0) (.slice none 0 0) (.slice none 0 0)).cells
    go_wp2
    clear z0 z1 z2 z3 z4 z5 z6 z7 z8 t0 t1 t2 t3 t4 t5 t6 t7 t8
    generalize (((((((((w1.setCell ⟨w.heap.size + 1, 0, none⟩ (.int .i64 0)).setCell ⟨w.heap.size + 1, 1, none⟩ (.int .i64 0)).setCell ⟨w.heap.size + 1, 2, none⟩ (.int .i64 0)).setCell ⟨w.heap.size + 1, 3, none⟩ (.int .i64 0)).setCell ⟨w.heap.size + 1, 4, none⟩ (.slice none 0 0)).setCell ⟨w.heap.size + 1, 5, none⟩ (.slice none 0 0)).setCell ⟨w.heap.size + 1, 6, none⟩ (.slice none 0 0)).setCell ⟨w.heap.size + 1, 7, none⟩ (.slice none 0 0)).setCell ⟨w.heap.size + 1, 8, none⟩ (.slice none 0 0)) = w9 at *
    refine bodyPost_ret (v := .tuple #[.agg #[.int .i64 0, .int .i64 0, .int .i64 0, .int .i64 0, .slice none 0 0, .slice none 0 0, .slice none 0 0, .slice none 0 0, .slice none 0 0], .iface 69 (.int .i64 fe)]) (by simp [results, Tryd.results19, go_sem, y0, y1, y2, y3, y4, y5, y6, y7, y8]) rfl ⟨_, _, rfl, by rw [FE.out]; exact Er.no HFE.out, by rw [placed_bad (by rw [FE.out]; exact HFE.out)]; exact zero_wo _ _, KZ.out.below B1.out B1.out.size (by omega)⟩
  have HF : Hid (Wd.wfault ks W = 0) := hf
  have PF : Hid (Wd.putFault ks W pl kd at_ = Wd.placeFault ks W pl kd at_) := by unfold Hid Wd.putFault; rw [if_pos hf]
  have RT : Hid (WRight ks W) := wright_of hf
  clear hf
  obtain ⟨x0, x1, x2, x3, x4, x5, x6, x7, x8⟩ := X1.out.cells
  go_wp2_with fail
  refine (cplace_any _ _ ks W pl kd at_ w1 (K.out.1.below B1.out) (H.out.below B1.out) RT.out).mono ?_
  rintro e w2 ⟨r, rfl, hr, hb2⟩
  clear x0 x1 x2 x3 x4 x5 x6 x7 x8
  have B2 : Hid (Below w.heap.size w w2) := B1.out.trans (hb2.mono B1.out.size)
  have X2 : Hid (Wx w2 w.heap.size (.int .i64 W.turn) (.int .i64 W.next) (.int .i64 W.wide) (.int .i64 W.high) (.slice p1 W.gs.length q1) (.slice p2 W.os.length q2) (.slice p3 W.gold.length q3) (.slice p4 W.us.length q4) (.slice p5 W.qs.length q5)) := X1.out.below hb2 X1.out.lt
  have Z2 : Hid (Wx w2 (w.heap.size + 1) (.int .i64 0) (.int .i64 0) (.int .i64 0) (.int .i64 0) (.slice none 0 0) (.slice none 0 0) (.slice none 0 0) (.slice none 0 0) (.slice none 0 0)) := Z1.out.below hb2 Z1.out.lt
  have S2 : Hid (w.heap.size + 2 ≤ w2.heap.size) := Nat.le_trans S1.out hb2.size
  clear hb2 B1 X1 Z1 S1
  rcases hr with ⟨hf, rfl⟩ | ⟨hf, rfl⟩
  case inr =>
    obtain ⟨fe, hfe⟩ : ∃ f, Wd.placeFault ks W pl kd at_ = f := ⟨_, rfl⟩
    have HFE : Hid (fe ≠ 0) := by rw [← hfe]; exact hf
    have FE : Hid (Wd.putFault ks W pl kd at_ = fe) := by unfold Hid; rw [PF.out]; exact hfe
    rw [hfe]
    clear hf hfe
    obtain ⟨z0, z1, z2, z3, z4, z5, z6, z7, z8⟩ := Z2.out.cells
    obtain ⟨t0, t1, t2, t3, t4, t5, t6, t7, t8⟩ := Z2.out.thaws
    have KZ : Hid (Kp (w.heap.size + 1) w2 (((((((((w2.setCell ⟨w.heap.size + 1, 0, none⟩ (.int .i64 0)).setCell ⟨w.heap.size + 1, 1, none⟩ (.int .i64 0)).setCell ⟨w.heap.size + 1, 2, none⟩ (.int .i64 0)).setCell ⟨w.heap.size + 1, 3, none⟩ (.int .i64 0)).setCell ⟨w.heap.size + 1, 4, none⟩ (.slice none 0 0)).setCell ⟨w.heap.size + 1, 5, none⟩ (.slice none 0 0)).setCell ⟨w.heap.size + 1, 6, none⟩ (.slice none 0 0)).setCell ⟨w.heap.size + 1, 7, none⟩ (.slice none 0 0)).setCell ⟨w.heap.size + 1, 8, none⟩ (.slice none 0 0))) := put_kp _ _ _ _ _ _ _ _ _ _ _
    obtain ⟨y0, y1, y2, y3, y4, y5, y6, y7, y8⟩ := (Z2.out.put (.int .i64 0) (.int .i64 0) (.int .i64 0) (.int .i64 0) (.slice none 0 0) (.slice none 0 0) (.slice none 0 0) (.slice none 0 0) (.slice none 0 0)).cells
    go_wp2
    clear z0 z1 z2 z3 z4 z5 z6 z7 z8 t0 t1 t2 t3 t4 t5 t6 t7 t8
    generalize (((((((((w2.setCell ⟨w.heap.size + 1, 0, none⟩ (.int .i64 0)).setCell ⟨w.heap.size + 1, 1, none⟩ (.int .i64 0)).setCell ⟨w.heap.size + 1, 2, none⟩ (.int .i64 0)).setCell ⟨w.heap.size + 1, 3, none⟩ (.int .i64 0)).setCell ⟨w.heap.size + 1, 4, none⟩ (.slice none 0 0)).setCell ⟨w.heap.size + 1, 5, none⟩ (.slice none 0 0)).setCell ⟨w.heap.size + 1, 6, none⟩ (.slice none 0 0)).setCell ⟨w.heap.size + 1, 7, none⟩ (.slice none 0 0)).setCell ⟨w.heap.size + 1, 8, none⟩ (.slice none 0 0)) = w9 at *
    refine bodyPost_ret (v := .tuple #[.agg #[.int .i64 0, .int .i64 0, .int .i64 0, .int .i64 0, .slice none 0 0, .slice none 0 0, .slice none 0 0, .slice none 0 0, .slice none 0 0], .iface 69 (.int .i64 fe)]) (by simp [results, Tryd.results19, go_sem, y0, y1, y2, y3, y4, y5, y6, y7, y8]) rfl ⟨_, _, rfl, by rw [FE.out]; exact Er.no HFE.out, by rw [placed_bad (by rw [FE.out]; exact HFE.out)]; exact zero_wo _ _, KZ.out.below B2.out B2.out.size (by omega)⟩
  obtain ⟨h40, hpl, hat, kn, k, rfl, hkn, hkk, hop⟩ := pf_zero hf
  have P0 : Hid (Wd.putFault ks W pl (kn : Nat) at_ = 0) := by unfold Hid; rw [PF.out]; exact hf
  have NU : Hid (Wd.newUnit ks W pl (kn : Nat) at_ = ⟨W.next, pl, (kn : Nat), at_, k.n0, 0, 0, 0⟩) := by unfold Hid Wd.newUnit; rw [Int.toNat_natCast, hkk]
  have L40 : Hid (W.us.length < 40) := by unfold Hid; omega
  have hnx : W.next < 1000000 := by omega
  have hn1 : 1 ≤ W.next := by
    have := (nums_ok RT.out.nums).1
    unfold Wd.off at this
    simp at this
    omega
  obtain ⟨xk, rfl, hxl, hxc⟩ := KC.out (by intro e; rw [e] at hkn; simp at hkn)
  have HK : Hid (Kc w (xk.add (kn * 11)) k ∧ (xk.add (kn * 11)).block < w.heap.size) := ⟨hxc kn k hkk, by rw [add_block]; exact hxl⟩
  have hki : (kn : Int) < (ks.length : Int) := by omega
  clear hf h40 hpl hat hkn hkk hop hxc hxl
  obtain ⟨x0, x1, x2, x3, x4, x5, x6, x7, x8⟩ := X2.out.cells
  go_wp2_with fail
  refine (copy_any _ W w2 (H.out.below B2.out) RT.out.len).mono ?_
  rintro e w3 ⟨u, rfl, ho, hb3⟩
  clear x0 x1 x2 x3 x4 x5 x6 x7 x8
  have B3 : Hid (Below w.heap.size w w3) := B2.out.trans (hb3.mono B2.out.size)
  have X3 : Hid (Wx w3 w.heap.size (.int .i64 W.turn) (.int .i64 W.next) (.int .i64 W.wide) (.int .i64 W.high) (.slice p1 W.gs.length q1) (.slice p2 W.os.length q2) (.slice p3 W.gold.length q3) (.slice p4 W.us.length q4) (.slice p5 W.qs.length q5)) := X2.out.below hb3 X2.out.lt
  have Z3 : Hid (Wx w3 (w.heap.size + 1) (.int .i64 0) (.int .i64 0) (.int .i64 0) (.int .i64 0) (.slice none 0 0) (.slice none 0 0) (.slice none 0 0) (.slice none 0 0) (.slice none 0 0)) := Z2.out.below hb3 Z2.out.lt
  have S3 : Hid (w.heap.size + 2 ≤ w3.heap.size) := Nat.le_trans S2.out hb3.size
  obtain ⟨v1, v2, v3, v4, v5, rfl, ⟨o1, o2, o3, o4, o5⟩, -, -, d14, -, -, d24, -, d34, -, d45⟩ := ho.mono S2.out
  have O1 : Hid (Ow w3 (w.heap.size + 2) v1 W.gs ∧ Ow w3 (w.heap.size + 2) v2 W.os ∧ Ow w3 (w.heap.size + 2) v3 W.gold ∧ Uno w3 (w.heap.size + 2) v4 W.us ∧ Jbo w3 (w.heap.size + 2) v5 W.qs) := ⟨o1, o2, o3, o4, o5⟩
  have DD : Hid (Dif v1 v4 ∧ Dif v2 v4 ∧ Dif v3 v4 ∧ Dif v5 v4) := ⟨d14, d24, d34, d45.symm⟩
  clear d14 d24 d34 d45
  obtain ⟨a1, b1, rfl⟩ := o1.len
  obtain ⟨a2, b2, rfl⟩ := o2.len
  obtain ⟨a3, b3, rfl⟩ := o3.len
  obtain ⟨a4, b4, rfl⟩ := o4.len
  obtain ⟨a5, b5, rfl⟩ := o5.len
  clear ho hb3 B2 X2 Z2 S2 o1 o2 o3 o4 o5
  obtain ⟨x0, x1, x2, x3, x4, x5, x6, x7, x8⟩ := X3.out.cells
  obtain ⟨t0, t1, t2, t3, t4, t5, t6, t7, t8⟩ := X3.out.thaws
  have K4 : Hid (Kp w.heap.size w3 (((((((((w3.setCell ⟨w.heap.size, 0, none⟩ (.int .i64 W.turn)).setCell ⟨w.heap.size, 1, none⟩ (.int .i64 W.next)).setCell ⟨w.heap.size, 2, none⟩ (.int .i64 W.wide)).setCell ⟨w.heap.size, 3, none⟩ (.int .i64 W.high)).setCell ⟨w.heap.size, 4, none⟩ (.slice a1 W.gs.length b1)).setCell ⟨w.heap.size, 5, none⟩ (.slice a2 W.os.length b2)).setCell ⟨w.heap.size, 6, none⟩ (.slice a3 W.gold.length b3)).setCell ⟨w.heap.size, 7, none⟩ (.slice a4 W.us.length b4)).setCell ⟨w.heap.size, 8, none⟩ (.slice a5 W.qs.length b5))) := put_kp _ _ _ _ _ _ _ _ _ _ _
  have X4 : Hid (Wx (((((((((w3.setCell ⟨w.heap.size, 0, none⟩ (.int .i64 W.turn)).setCell ⟨w.heap.size, 1, none⟩ (.int .i64 W.next)).setCell ⟨w.heap.size, 2, none⟩ (.int .i64 W.wide)).setCell ⟨w.heap.size, 3, none⟩ (.int .i64 W.high)).setCell ⟨w.heap.size, 4, none⟩ (.slice a1 W.gs.length b1)).setCell ⟨w.heap.size, 5, none⟩ (.slice a2 W.os.length b2)).setCell ⟨w.heap.size, 6, none⟩ (.slice a3 W.gold.length b3)).setCell ⟨w.heap.size, 7, none⟩ (.slice a4 W.us.length b4)).setCell ⟨w.heap.size, 8, none⟩ (.slice a5 W.qs.length b5)) w.heap.size (.int .i64 W.turn) (.int .i64 W.next) (.int .i64 W.wide) (.int .i64 W.high) (.slice a1 W.gs.length b1) (.slice a2 W.os.length b2) (.slice a3 W.gold.length b3) (.slice a4 W.us.length b4) (.slice a5 W.qs.length b5)) := X3.out.put (.int .i64 W.turn) (.int .i64 W.next) (.int .i64 W.wide) (.int .i64 W.high) (.slice a1 W.gs.length b1) (.slice a2 W.os.length b2) (.slice a3 W.gold.length b3) (.slice a4 W.us.length b4) (.slice a5 W.qs.length b5)
  go_upto_region 8 with fail
  clear x0 x1 x2 x3 x4 x5 x6 x7 x8 t0 t1 t2 t3 t4 t5 t6 t7 t8
  generalize (((((((((w3.setCell ⟨w.heap.size, 0, none⟩ (.int .i64 W.turn)).setCell ⟨w.heap.size, 1, none⟩ (.int .i64 W.next)).setCell ⟨w.heap.size, 2, none⟩ (.int .i64 W.wide)).setCell ⟨w.heap.size, 3, none⟩ (.int .i64 W.high)).setCell ⟨w.heap.size, 4, none⟩ (.slice a1 W.gs.length b1)).setCell ⟨w.heap.size, 5, none⟩ (.slice a2 W.os.length b2)).setCell ⟨w.heap.size, 6, none⟩ (.slice a3 W.gold.length b3)).setCell ⟨w.heap.size, 7, none⟩ (.slice a4 W.us.length b4)).setCell ⟨w.heap.size, 8, none⟩ (.slice a5 W.qs.length b5)) = w4 at *
  have B4 : Hid (Below w.heap.size w w4) := K4.out.below B3.out B3.out.size (Nat.le_refl _)
  have Z4 : Hid (Wx w4 (w.heap.size + 1) (.int .i64 0) (.int .i64 0) (.int .i64 0) (.int .i64 0) (.slice none 0 0) (.slice none 0 0) (.slice none 0 0) (.slice none 0 0) (.slice none 0 0)) := Z3.out.kp K4.out (by omega)
  have S4 : Hid (w.heap.size + 2 ≤ w4.heap.size) := Nat.le_trans S3.out K4.out.size
  have O4 : Hid (Ow w4 (w.heap.size + 2) (.slice a1 W.gs.length b1) W.gs ∧ Ow w4 (w.heap.size + 2) (.slice a2 W.os.length b2) W.os ∧ Ow w4 (w.heap.size + 2) (.slice a3 W.gold.length b3) W.gold ∧ Uno w4 (w.heap.size + 2) (.slice a4 W.us.length b4) W.us ∧ Jbo w4 (w.heap.size + 2) (.slice a5 W.qs.length b5) W.qs) :=
    ⟨O1.out.1.kp K4.out (by omega), O1.out.2.1.kp K4.out (by omega), O1.out.2.2.1.kp K4.out (by omega), O1.out.2.2.2.1.kp K4.out (by omega), O1.out.2.2.2.2.kp K4.out (by omega)⟩
  clear K4 B3 X3 Z3 S3 O1
  -- the region that draws
  refine wp_region_two [(true, 0), (true, 1), (true, 2), (true, 3), (true, 4), (true, 5), (true, 6), (true, 7), (true, 8), (true, 9), (true, 10), (true, 11), (true, 12), (false, 13), (false, 14)] [(false, 15), (false, 16)] (fun V => V.cell? ⟨w.heap.size, 7, none⟩ = some (.slice a4 W.us.length b4) ∧ V.cell? ⟨w.heap.size, 1, none⟩ = some (.int .i64 W.next) ∧ V.cell? ⟨(xk.add (kn * 11)).block, (xk.add (kn * 11)).off + 1, none⟩ = some (.int .i64 k.n0)) (by kernel_rfl) (by kernel_rfl) (by kernel_rfl) (by kernel_rfl) (by kernel_rfl) ?_ ?_
  · obtain ⟨-, x1, -, -, -, -, -, x7, -⟩ := X4.out.cells
    exact ⟨x7, x1, (HK.out.1.below B4.out HK.out.2).c1⟩
  have X5 : Hid (Wx { w4 with drawn := w4.drawn + 1 } w.heap.size (.int .i64 W.turn) (.int .i64 W.next) (.int .i64 W.wide) (.int .i64 W.high) (.slice a1 W.gs.length b1) (.slice a2 W.os.length b2) (.slice a3 W.gold.length b3) (.slice a4 W.us.length b4) (.slice a5 W.qs.length b5)) := X4.out
  have B5 : Hid (Below w.heap.size w { w4 with drawn := w4.drawn + 1 }) := B4.out.drew
  have Z5 : Hid (Wx { w4 with drawn := w4.drawn + 1 } (w.heap.size + 1) (.int .i64 0) (.int .i64 0) (.int .i64 0) (.int .i64 0) (.slice none 0 0) (.slice none 0 0) (.slice none 0 0) (.slice none 0 0) (.slice none 0 0)) := Z4.out
  have S5 : Hid (w.heap.size + 2 ≤ ({ w4 with drawn := w4.drawn + 1 } : World).heap.size) := S4.out
  have D5 : Hid (Below w4.heap.size w4 { w4 with drawn := w4.drawn + 1 }) := (Below.refl _ _).drew
  generalize ({ w4 with drawn := w4.drawn + 1 } : World) = w5 at *
  have O5 : Hid (Ow w5 (w.heap.size + 2) (.slice a1 W.gs.length b1) W.gs ∧ Ow w5 (w.heap.size + 2) (.slice a2 W.os.length b2) W.os ∧ Ow w5 (w.heap.size + 2) (.slice a3 W.gold.length b3) W.gold ∧ Uno w5 (w.heap.size + 2) (.slice a4 W.us.length b4) W.us ∧ Jbo w5 (w.heap.size + 2) (.slice a5 W.qs.length b5) W.qs) :=
    ⟨O4.out.1.below D5.out, O4.out.2.1.below D5.out, O4.out.2.2.1.below D5.out, O4.out.2.2.2.1.below D5.out, O4.out.2.2.2.2.below D5.out⟩
  clear X4 B4 Z4 S4 O4 D5
  refine headT_read rfl (.pointer (some ⟨w.heap.size, 7, none⟩)) (by go_simp) (fun V hV => by go_simp) ?_
  go_simp
  refine headT_read rfl (.slice a4 W.us.length b4) (by go_simp) (fun V hV => by obtain ⟨f7, f1, fk⟩ := hV; go_simp) ?_
  go_simp
  refine headT_read rfl (.pointer (some ⟨w.heap.size, 1, none⟩)) (by go_simp) (fun V hV => by go_simp) ?_
  go_simp
  refine headT_read rfl (.int .i64 W.next) (by go_simp) (fun V hV => by obtain ⟨f7, f1, fk⟩ := hV; go_simp) ?_
  go_simp
  refine headT_read rfl (.int .i64 pl) (by go_simp) (fun V hV => by go_simp) ?_
  go_simp
  refine headT_read rfl (.int .i64 (kn : Nat)) (by go_simp) (fun V hV => by go_simp) ?_
  go_simp
  refine headT_read rfl (.int .i64 at_) (by go_simp) (fun V hV => by go_simp) ?_
  go_simp
  refine headT_read rfl (.slice (some xk) ks.length qk) (by go_simp) (fun V hV => by go_simp) ?_
  go_simp
  refine headT_read rfl (.int .i64 (kn : Nat)) (by go_simp) (fun V hV => by go_simp) ?_
  go_simp
  refine headT_read rfl (.pointer (some (xk.add (kn * 11)))) (by go_simp) (fun V hV => by go_simp) ?_
  go_simp
  refine headT_read rfl (.pointer (some ⟨(xk.add (kn * 11)).block, (xk.add (kn * 11)).off + 1, none⟩)) (by go_simp) (fun V hV => by go_simp) ?_
  go_simp
  refine headT_read rfl (.int .i64 k.n0) (by go_simp) (fun V hV => by obtain ⟨f7, f1, fk⟩ := hV; go_simp) ?_
  go_simp
  refine headT_read rfl (.agg #[.int .i64 W.next, .int .i64 pl, .int .i64 (kn : Nat), .int .i64 at_, .int .i64 k.n0, .int .i64 0, .int .i64 0, .int .i64 0]) (by go_simp) (fun V hV => by go_simp) ?_
  go_simp
  have CL : Hid (∀ V, Wx V w.heap.size (.int .i64 W.turn) (.int .i64 W.next) (.int .i64 W.wide) (.int .i64 W.high) (.slice a1 W.gs.length b1) (.slice a2 W.os.length b2) (.slice a3 W.gold.length b3) (.slice a4 W.us.length b4) (.slice a5 W.qs.length b5) → Below w.heap.size w V → V.cell? ⟨w.heap.size, 7, none⟩ = some (.slice a4 W.us.length b4) ∧ V.cell? ⟨w.heap.size, 1, none⟩ = some (.int .i64 W.next) ∧ V.cell? ⟨(xk.add (kn * 11)).block, (xk.add (kn * 11)).off + 1, none⟩ = some (.int .i64 k.n0)) := fun V hX hB => by
    obtain ⟨-, x1, -, -, -, -, -, x7, -⟩ := hX.cells
    exact ⟨x7, x1, (HK.out.1.below hB HK.out.2).c1⟩
  have BA : Hid (Below w5.heap.size w5 (w5.alloc (.cells #[.int .i64 W.next, .int .i64 pl, .int .i64 (kn : Nat), .int .i64 at_, .int .i64 k.n0, .int .i64 0, .int .i64 0, .int .i64 0] 33))) := (Below.refl _ _).alloc (Nat.le_refl _) _
  have SA : Hid ((w5.alloc (.cells #[.int .i64 W.next, .int .i64 pl, .int .i64 (kn : Nat), .int .i64 at_, .int .i64 k.n0, .int .i64 0, .int .i64 0, .int .i64 0] 33)).heap.size = w5.heap.size + 1) := by unfold Hid; simp
  have UA : Hid (Unc (w5.alloc (.cells #[.int .i64 W.next, .int .i64 pl, .int .i64 (kn : Nat), .int .i64 at_, .int .i64 k.n0, .int .i64 0, .int .i64 0, .int .i64 0] 33)) ⟨w5.heap.size, 0, none⟩ (⟨W.next, pl, (kn : Nat), at_, k.n0, 0, 0, 0⟩ : UnV)) := Unc.mk' (w := w5) (⟨W.next, pl, (kn : Nat), at_, k.n0, 0, 0, 0⟩ : UnV) rfl
  have OA : Hid (Uno (w5.alloc (.cells #[.int .i64 W.next, .int .i64 pl, .int .i64 (kn : Nat), .int .i64 at_, .int .i64 k.n0, .int .i64 0, .int .i64 0, .int .i64 0] 33)) (w.heap.size + 2) (.slice a4 W.us.length b4) W.us) := O5.out.2.2.2.1.alloc _
  have XA : Hid (Wx (w5.alloc (.cells #[.int .i64 W.next, .int .i64 pl, .int .i64 (kn : Nat), .int .i64 at_, .int .i64 k.n0, .int .i64 0, .int .i64 0, .int .i64 0] 33)) w.heap.size (.int .i64 W.turn) (.int .i64 W.next) (.int .i64 W.wide) (.int .i64 W.high) (.slice a1 W.gs.length b1) (.slice a2 W.os.length b2) (.slice a3 W.gold.length b3) (.slice a4 W.us.length b4) (.slice a5 W.qs.length b5)) := X5.out.below BA.out X5.out.lt
  have BB : Hid (Below w.heap.size w (w5.alloc (.cells #[.int .i64 W.next, .int .i64 pl, .int .i64 (kn : Nat), .int .i64 at_, .int .i64 k.n0, .int .i64 0, .int .i64 0, .int .i64 0] 33))) := B5.out.trans (BA.out.mono B5.out.size)
  refine headT_value rfl (.slice (some ⟨w5.heap.size, 0, none⟩) 1 1) (w5.alloc (.cells #[.int .i64 W.next, .int .i64 pl, .int .i64 (kn : Nat), .int .i64 at_, .int .i64 k.n0, .int .i64 0, .int .i64 0, .int .i64 0] 33)) (by go_simp) (by go_simp) (CL.out _ XA.out BB.out) ?_
  go_simp
  generalize (w5.alloc (.cells #[.int .i64 W.next, .int .i64 pl, .int .i64 (kn : Nat), .int .i64 at_, .int .i64 k.n0, .int .i64 0, .int .i64 0, .int .i64 0] 33)) = wa at *
  obtain ⟨i0, hi, hz0, hz1, hz2⟩ := info_parts info_un
  obtain ⟨g, cap, w6, hr, ho6, hg6, ha6, hl6⟩ := run_append_lies (P := Tryd.prog) wa 26 26 (w.heap.size + 2) 33 i0 _ 8 64 Tryd.underlying26 hi hz0 hz1 hz2 rfl (by decide) (.slice a4 W.us.length b4) W.us.length _ OA.out ⟨w5.heap.size, 0, none⟩ 1 1 (UnV.cs (⟨W.next, pl, (kn : Nat), at_, k.n0, 0, 0, 0⟩ : UnV)) rfl (fun j u hj => by
    have hd := UA.out
    have hjn : j < 8 := (List.getElem?_eq_some_iff.1 hj).1
    rw [Addr.add_lit, Nat.zero_add]
    match j, hjn, hj with
    | 0, _, hj => simp [UnV.cs] at hj; subst hj; exact hd.c0
    | 1, _, hj => simp [UnV.cs] at hj; subst hj; exact hd.c1
    | 2, _, hj => simp [UnV.cs] at hj; subst hj; exact hd.c2
    | 3, _, hj => simp [UnV.cs] at hj; subst hj; exact hd.c3
    | 4, _, hj => simp [UnV.cs] at hj; subst hj; exact hd.c4
    | 5, _, hj => simp [UnV.cs] at hj; subst hj; exact hd.c5
    | 6, _, hj => simp [UnV.cs] at hj; subst hj; exact hd.c6
    | 7, _, hj => simp [UnV.cs] at hj; subst hj; exact hd.c7) (fun u hu => by
    simp [UnV.cs] at hu
    rcases hu with rfl | rfl | rfl | rfl | rfl | rfl | rfl | rfl <;> rfl) (by decide) (by have := L40.out; unfold maxLen; omega) (by have := L40.out; omega) (by have := S5.out; have := SA.out; omega) _ rfl
  have ON : Hid (Uno w6 (w.heap.size + 2) (.slice (some ⟨g, 0, none⟩) (W.us.length + 1) cap) (W.us ++ [(⟨W.next, pl, (kn : Nat), at_, k.n0, 0, 0, 0⟩ : UnV)])) := by
    unfold Hid Uno
    rw [List.length_append, List.flatMap_append]
    simpa using ho6
  have GB : Hid (∀ b, ((.slice a4 W.us.length b4) : Value).ownBlock = some b → w.heap.size + 2 ≤ b) := fun b hb => (OA.out.block b hb).1
  have BG : Hid (Below (w.heap.size + 2) wa w6) := (Below.refl _ _).grown hg6 (by have := S5.out; have := SA.out; omega) (fun b hb => GB.out b hb)
  have X6 : Hid (Wx w6 w.heap.size (.int .i64 W.turn) (.int .i64 W.next) (.int .i64 W.wide) (.int .i64 W.high) (.slice a1 W.gs.length b1) (.slice a2 W.os.length b2) (.slice a3 W.gold.length b3) (.slice a4 W.us.length b4) (.slice a5 W.qs.length b5)) := XA.out.below BG.out (by omega)
  have Z6 : Hid (Wx w6 (w.heap.size + 1) (.int .i64 0) (.int .i64 0) (.int .i64 0) (.int .i64 0) (.slice none 0 0) (.slice none 0 0) (.slice none 0 0) (.slice none 0 0) (.slice none 0 0)) := (Z5.out.below BA.out Z5.out.lt).below BG.out (by omega)
  have B6 : Hid (Below w.heap.size w w6) := BB.out.trans (BG.out.mono (by omega))
  refine headT_value rfl (.slice (some ⟨g, 0, none⟩) (W.us.length + 1) cap) w6 (by go_simp) (exec_append _ _ _ _ rfl _ _ (by go_simp) (by go_simp) hr) (CL.out _ X6.out B6.out) ?_
  have S6 : Hid (w.heap.size + 2 ≤ w6.heap.size) := by have := S5.out; have := SA.out; have := BG.out.size; unfold Hid; omega
  have N1 : Hid (Ow w6 (w.heap.size + 2) (.slice a1 W.gs.length b1) W.gs) := ((O5.out.1).below BA.out).kept hg6 DD.out.1.ne
  have N2 : Hid (Ow w6 (w.heap.size + 2) (.slice a2 W.os.length b2) W.os) := ((O5.out.2.1).below BA.out).kept hg6 DD.out.2.1.ne
  have N3 : Hid (Ow w6 (w.heap.size + 2) (.slice a3 W.gold.length b3) W.gold) := ((O5.out.2.2.1).below BA.out).kept hg6 DD.out.2.2.1.ne
  have N5 : Hid (Jbo w6 (w.heap.size + 2) (.slice a5 W.qs.length b5) W.qs) := ((O5.out.2.2.2.2).below BA.out).kept hg6 DD.out.2.2.2.ne
  clear hr ho6 hg6 ha6 hl6 hi hz0 hz1 hz2 BG GB OA UA XA BB BA X5 Z5 S5 B5 O5 CL SA DD
  go_simp
  unfold wpHeadT
  refine sched_value rfl (.pointer (some ⟨w.heap.size, 7, none⟩)) w6 (by go_simp) (by go_simp) trivial ?_
  go_simp
  have K7 : Hid (Kp w.heap.size w6 (w6.setCell ⟨w.heap.size, 7, none⟩ (.slice (some ⟨g, 0, none⟩) (W.us.length + 1) cap))) := Kp.set _ _ _
  have X7 : Hid (Wx (w6.setCell ⟨w.heap.size, 7, none⟩ (.slice (some ⟨g, 0, none⟩) (W.us.length + 1) cap)) w.heap.size (.int .i64 W.turn) (.int .i64 W.next) (.int .i64 W.wide) (.int .i64 W.high) (.slice a1 W.gs.length b1) (.slice a2 W.os.length b2) (.slice a3 W.gold.length b3) (.slice (some ⟨g, 0, none⟩) (W.us.length + 1) cap) (.slice a5 W.qs.length b5)) := X6.out.set7 _
  have t7 := X6.out.thaw 7
  obtain ⟨-, -, -, -, -, -, -, x7, -⟩ := X6.out.cells
  refine sched_skip rfl (w6.setCell ⟨w.heap.size, 7, none⟩ (.slice (some ⟨g, 0, none⟩) (W.us.length + 1) cap)) (by go_simp) (by go_simp) trivial ?_
  go_simp
  clear t7 x7
  generalize (w6.setCell ⟨w.heap.size, 7, none⟩ (.slice (some ⟨g, 0, none⟩) (W.us.length + 1) cap)) = w7 at *
  have B7 : Hid (Below w.heap.size w w7) := K7.out.below B6.out B6.out.size (Nat.le_refl _)
  have Z7 : Hid (Wx w7 (w.heap.size + 1) (.int .i64 0) (.int .i64 0) (.int .i64 0) (.int .i64 0) (.slice none 0 0) (.slice none 0 0) (.slice none 0 0) (.slice none 0 0) (.slice none 0 0)) := Z6.out.kp K7.out (by omega)
  have S7 : Hid (w.heap.size + 2 ≤ w7.heap.size) := Nat.le_trans S6.out K7.out.size
  have M : Hid (Ow w7 (w.heap.size + 2) (.slice a1 W.gs.length b1) W.gs ∧ Ow w7 (w.heap.size + 2) (.slice a2 W.os.length b2) W.os ∧ Ow w7 (w.heap.size + 2) (.slice a3 W.gold.length b3) W.gold ∧ Uno w7 (w.heap.size + 2) (.slice (some ⟨g, 0, none⟩) (W.us.length + 1) cap) (W.us ++ [(⟨W.next, pl, (kn : Nat), at_, k.n0, 0, 0, 0⟩ : UnV)]) ∧ Jbo w7 (w.heap.size + 2) (.slice a5 W.qs.length b5) W.qs) :=
    ⟨N1.out.kp K7.out (by omega), N2.out.kp K7.out (by omega), N3.out.kp K7.out (by omega), ON.out.kp K7.out (by omega), N5.out.kp K7.out (by omega)⟩
  clear K7 B6 Z6 S6 N1 N2 N3 N5 ON X6
  unfold wpSched
  have wn : IntKind.i64.wrap (W.next + 1) = W.next + 1 := by rw [IntKind.wrap_i64]; omega
  have K8 : Hid (Kp w.heap.size w7 (w7.setCell ⟨w.heap.size, 1, none⟩ (.int .i64 (W.next + 1)))) := Kp.set _ _ _
  have X8 : Hid (Wx (w7.setCell ⟨w.heap.size, 1, none⟩ (.int .i64 (W.next + 1))) w.heap.size (.int .i64 W.turn) (.int .i64 (W.next + 1)) (.int .i64 W.wide) (.int .i64 W.high) (.slice a1 W.gs.length b1) (.slice a2 W.os.length b2) (.slice a3 W.gold.length b3) (.slice (some ⟨g, 0, none⟩) (W.us.length + 1) cap) (.slice a5 W.qs.length b5)) := X7.out.set1 _
  have t1 := X7.out.thaw 1
  obtain ⟨-, x1, -, -, -, -, -, -, -⟩ := X7.out.cells
  go_upto_region 10 with fail
  clear t1 x1 wn
  generalize (w7.setCell ⟨w.heap.size, 1, none⟩ (.int .i64 (W.next + 1))) = w8 at *
  have B8 : Hid (Below w.heap.size w w8) := K8.out.below B7.out B7.out.size (Nat.le_refl _)
  have Z8 : Hid (Wx w8 (w.heap.size + 1) (.int .i64 0) (.int .i64 0) (.int .i64 0) (.int .i64 0) (.slice none 0 0) (.slice none 0 0) (.slice none 0 0) (.slice none 0 0) (.slice none 0 0)) := Z7.out.kp K8.out (by omega)
  have S8 : Hid (w.heap.size + 2 ≤ w8.heap.size) := Nat.le_trans S7.out K8.out.size
  have M8 : Hid (Ow w8 (w.heap.size + 2) (.slice a1 W.gs.length b1) W.gs ∧ Ow w8 (w.heap.size + 2) (.slice a2 W.os.length b2) W.os ∧ Ow w8 (w.heap.size + 2) (.slice a3 W.gold.length b3) W.gold ∧ Uno w8 (w.heap.size + 2) (.slice (some ⟨g, 0, none⟩) (W.us.length + 1) cap) (W.us ++ [(⟨W.next, pl, (kn : Nat), at_, k.n0, 0, 0, 0⟩ : UnV)]) ∧ Jbo w8 (w.heap.size + 2) (.slice a5 W.qs.length b5) W.qs) :=
    ⟨M.out.1.kp K8.out (by omega), M.out.2.1.kp K8.out (by omega), M.out.2.2.1.kp K8.out (by omega), M.out.2.2.2.1.kp K8.out (by omega), M.out.2.2.2.2.kp K8.out (by omega)⟩
  clear K8 B7 Z7 S7 M X7
  obtain ⟨x0, x1, x2, x3, x4, x5, x6, x7, x8⟩ := X8.out.cells
  obtain ⟨z0, z1, z2, z3, z4, z5, z6, z7, z8⟩ := Z8.out.cells
  obtain ⟨t0, t1, t2, t3, t4, t5, t6, t7, t8⟩ := Z8.out.thaws
  have KZ : Hid (Kp (w.heap.size + 1) w8 (((((((((w8.setCell ⟨w.heap.size + 1, 0, none⟩ (.int .i64 W.turn)).setCell ⟨w.heap.size + 1, 1, none⟩ (.int .i64 (W.next + 1))).setCell ⟨w.heap.size + 1, 2, none⟩ (.int .i64 W.wide)).setCell ⟨w.heap.size + 1, 3, none⟩ (.int .i64 W.high)).setCell ⟨w.heap.size + 1, 4, none⟩ (.slice a1 W.gs.length b1)).setCell ⟨w.heap.size + 1, 5, none⟩ (.slice a2 W.os.length b2)).setCell ⟨w.heap.size + 1, 6, none⟩ (.slice a3 W.gold.length b3)).setCell ⟨w.heap.size + 1, 7, none⟩ (.slice (some ⟨g, 0, none⟩) (W.us.length + 1) cap)).setCell ⟨w.heap.size + 1, 8, none⟩ (.slice a5 W.qs.length b5))) := put_kp _ _ _ _ _ _ _ _ _ _ _
  obtain ⟨y0, y1, y2, y3, y4, y5, y6, y7, y8⟩ := (Z8.out.put (.int .i64 W.turn) (.int .i64 (W.next + 1)) (.int .i64 W.wide) (.int .i64 W.high) (.slice a1 W.gs.length b1) (.slice a2 W.os.length b2) (.slice a3 W.gold.length b3) (.slice (some ⟨g, 0, none⟩) (W.us.length + 1) cap) (.slice a5 W.qs.length b5)).cells
  go_wp2
  clear x0 x1 x2 x3 x4 x5 x6 x7 x8 z0 z1 z2 z3 z4 z5 z6 z7 z8 t0 t1 t2 t3 t4 t5 t6 t7 t8
  generalize (((((((((w8.setCell ⟨w.heap.size + 1, 0, none⟩ (.int .i64 W.turn)).setCell ⟨w.heap.size + 1, 1, none⟩ (.int .i64 (W.next + 1))).setCell ⟨w.heap.size + 1, 2, none⟩ (.int .i64 W.wide)).setCell ⟨w.heap.size + 1, 3, none⟩ (.int .i64 W.high)).setCell ⟨w.heap.size + 1, 4, none⟩ (.slice a1 W.gs.length b1)).setCell ⟨w.heap.size + 1, 5, none⟩ (.slice a2 W.os.length b2)).setCell ⟨w.heap.size + 1, 6, none⟩ (.slice a3 W.gold.length b3)).setCell ⟨w.heap.size + 1, 7, none⟩ (.slice (some ⟨g, 0, none⟩) (W.us.length + 1) cap)).setCell ⟨w.heap.size + 1, 8, none⟩ (.slice a5 W.qs.length b5)) = w9 at *
  refine bodyPost_ret (v := .tuple #[.agg #[.int .i64 W.turn, .int .i64 (W.next + 1), .int .i64 W.wide, .int .i64 W.high, .slice a1 W.gs.length b1, .slice a2 W.os.length b2, .slice a3 W.gold.length b3, .slice (some ⟨g, 0, none⟩) (W.us.length + 1) cap, .slice a5 W.qs.length b5], .nilIface]) (by simp [results, Tryd.results19, go_sem, y0, y1, y2, y3, y4, y5, y6, y7, y8]) rfl ⟨_, _, rfl, by rw [P0.out]; exact Er.nil, ?_, KZ.out.below B8.out B8.out.size (by omega)⟩
  rw [placed_ok P0.out]
  unfold Wd.put
  rw [NU.out]
  exact ⟨_, _, _, _, _, rfl, (M8.out.1.kp KZ.out (by omega)).mono (by omega), (M8.out.2.1.kp KZ.out (by omega)).mono (by omega), (M8.out.2.2.1.kp KZ.out (by omega)).mono (by omega), (M8.out.2.2.2.1.kp KZ.out (by omega)).mono (by omega), (M8.out.2.2.2.2.kp KZ.out (by omega)).mono (by omega)⟩
end Go.Proofs.YtolmfekefjnggaaDoor

namespace Go.Proofs.YtolmfekefjnggaaDoor
open Go.RowKit
set_option linter.unusedVariables false

set_option maxRecDepth 100000 in
set_option maxHeartbeats 16000000 in
theorem come_any (vk vw : Value) (ks : List KV) (Y : WV) (j : JbV) (w : World) (hk : Kl w vk ks) (hb : ∀ k ∈ ks, k.b.size ≤ 9223372036854775807) (hw : Wl w vw Y) (hr : Wd.wfault ks Y = 0) (hs : Sd w) :
    Calls Tryd.prog 26 #[vk, vw, j.val] w fun e w' => ∃ u r Z, e = .returned (.tuple #[u, r]) ∧ Wo w' w.heap.size u Z ∧ Below w.heap.size w w' ∧ ((∃ c, Comes ks Y j c ∧ r = .nilIface ∧ Z = Wd.put ks Y j.player j.kind c) ∨ (NoCome ks Y j ∧ ∃ n : Int, n ≠ 0 ∧ r = .iface 69 (.int .i64 n))) := by
  have K : Hid (Kl w vk ks ∧ ∀ k ∈ ks, k.b.size ≤ 9223372036854775807) := ⟨hk, hb⟩
  have H : Hid (Wl w vw Y ∧ Wd.wfault ks Y = 0 ∧ Sd w) := ⟨hw, hr, hs⟩
  obtain ⟨p1, q1, p2, q2, p3, q3, p4, q4, p5, q5, rfl⟩ := wl_shape9 hw
  obtain ⟨pk, qk, rfl, ck1, ck2, kc⟩ := hk
  clear hb hw kc hr hs
  unfold JbV.val
  go_enter Tryd.func26, Tryd.ntmps26
  go_upto_region 1 with fail
  obtain ⟨z, hz⟩ : ∃ z, w.heap.size = z := ⟨_, rfl⟩
  have HZ : Hid (w.heap.size = z) := hz
  have z1 : (w.alloc (Obj.cells #[.int .i64 Y.turn, .int .i64 Y.next, .int .i64 Y.wide, .int .i64 Y.high, .slice p1 Y.gs.length q1, .slice p2 Y.os.length q2, .slice p3 Y.gold.length q3, .slice p4 Y.us.length q4, .slice p5 Y.qs.length q5] 29)).heap.size = z + 1 := by rw [← hz]; simp
  have z2 : ((w.alloc (Obj.cells #[.int .i64 Y.turn, .int .i64 Y.next, .int .i64 Y.wide, .int .i64 Y.high, .slice p1 Y.gs.length q1, .slice p2 Y.os.length q2, .slice p3 Y.gold.length q3, .slice p4 Y.us.length q4, .slice p5 Y.qs.length q5] 29)).alloc (Obj.cells #[.int .i64 j.player, .int .i64 j.unit, .int .i64 j.kind, .int .i64 j.left] 63)).heap.size = z + 2 := by rw [← hz]; simp
  have X0 : Hid (Wx (((w.alloc (Obj.cells #[.int .i64 Y.turn, .int .i64 Y.next, .int .i64 Y.wide, .int .i64 Y.high, .slice p1 Y.gs.length q1, .slice p2 Y.os.length q2, .slice p3 Y.gold.length q3, .slice p4 Y.us.length q4, .slice p5 Y.qs.length q5] 29)).alloc (Obj.cells #[.int .i64 j.player, .int .i64 j.unit, .int .i64 j.kind, .int .i64 j.left] 63)).alloc (Obj.cells #[.int .i64 0, .int .i64 0, .int .i64 0, .int .i64 0, .slice none 0 0, .slice none 0 0, .slice none 0 0, .slice none 0 0, .slice none 0 0] 29)) z (.int .i64 Y.turn) (.int .i64 Y.next) (.int .i64 Y.wide) (.int .i64 Y.high) (.slice p1 Y.gs.length q1) (.slice p2 Y.os.length q2) (.slice p3 Y.gold.length q3) (.slice p4 Y.us.length q4) (.slice p5 Y.qs.length q5)) := ((Wx.new (w := w) (.int .i64 Y.turn) (.int .i64 Y.next) (.int .i64 Y.wide) (.int .i64 Y.high) (.slice p1 Y.gs.length q1) (.slice p2 Y.os.length q2) (.slice p3 Y.gold.length q3) (.slice p4 Y.us.length q4) (.slice p5 Y.qs.length q5) hz).below ((Below.refl _ _).alloc (Nat.le_refl _) _) (Wx.new (w := w) (.int .i64 Y.turn) (.int .i64 Y.next) (.int .i64 Y.wide) (.int .i64 Y.high) (.slice p1 Y.gs.length q1) (.slice p2 Y.os.length q2) (.slice p3 Y.gold.length q3) (.slice p4 Y.us.length q4) (.slice p5 Y.qs.length q5) hz).lt).below ((Below.refl _ _).alloc (Nat.le_refl _) _) (by rw [z2]; omega)
  have J0 : Hid (Jbc (((w.alloc (Obj.cells #[.int .i64 Y.turn, .int .i64 Y.next, .int .i64 Y.wide, .int .i64 Y.high, .slice p1 Y.gs.length q1, .slice p2 Y.os.length q2, .slice p3 Y.gold.length q3, .slice p4 Y.us.length q4, .slice p5 Y.qs.length q5] 29)).alloc (Obj.cells #[.int .i64 j.player, .int .i64 j.unit, .int .i64 j.kind, .int .i64 j.left] 63)).alloc (Obj.cells #[.int .i64 0, .int .i64 0, .int .i64 0, .int .i64 0, .slice none 0 0, .slice none 0 0, .slice none 0 0, .slice none 0 0, .slice none 0 0] 29)) ⟨z + 1, 0, none⟩ j) := (Jbc.mk' (w := (w.alloc (Obj.cells #[.int .i64 Y.turn, .int .i64 Y.next, .int .i64 Y.wide, .int .i64 Y.high, .slice p1 Y.gs.length q1, .slice p2 Y.os.length q2, .slice p3 Y.gold.length q3, .slice p4 Y.us.length q4, .slice p5 Y.qs.length q5] 29))) j z1).below ((Below.refl _ _).alloc (Nat.le_refl _) _) (Jbc.mk' (w := (w.alloc (Obj.cells #[.int .i64 Y.turn, .int .i64 Y.next, .int .i64 Y.wide, .int .i64 Y.high, .slice p1 Y.gs.length q1, .slice p2 Y.os.length q2, .slice p3 Y.gold.length q3, .slice p4 Y.us.length q4, .slice p5 Y.qs.length q5] 29))) j z1).lt
  have Z0 : Hid (Wx (((w.alloc (Obj.cells #[.int .i64 Y.turn, .int .i64 Y.next, .int .i64 Y.wide, .int .i64 Y.high, .slice p1 Y.gs.length q1, .slice p2 Y.os.length q2, .slice p3 Y.gold.length q3, .slice p4 Y.us.length q4, .slice p5 Y.qs.length q5] 29)).alloc (Obj.cells #[.int .i64 j.player, .int .i64 j.unit, .int .i64 j.kind, .int .i64 j.left] 63)).alloc (Obj.cells #[.int .i64 0, .int .i64 0, .int .i64 0, .int .i64 0, .slice none 0 0, .slice none 0 0, .slice none 0 0, .slice none 0 0, .slice none 0 0] 29)) (z + 2) (.int .i64 0) (.int .i64 0) (.int .i64 0) (.int .i64 0) (.slice none 0 0) (.slice none 0 0) (.slice none 0 0) (.slice none 0 0) (.slice none 0 0)) := Wx.new (w := ((w.alloc (Obj.cells #[.int .i64 Y.turn, .int .i64 Y.next, .int .i64 Y.wide, .int .i64 Y.high, .slice p1 Y.gs.length q1, .slice p2 Y.os.length q2, .slice p3 Y.gold.length q3, .slice p4 Y.us.length q4, .slice p5 Y.qs.length q5] 29)).alloc (Obj.cells #[.int .i64 j.player, .int .i64 j.unit, .int .i64 j.kind, .int .i64 j.left] 63))) (.int .i64 0) (.int .i64 0) (.int .i64 0) (.int .i64 0) (.slice none 0 0) (.slice none 0 0) (.slice none 0 0) (.slice none 0 0) (.slice none 0 0) z2
  have B0 : Hid (Below w.heap.size w (((w.alloc (Obj.cells #[.int .i64 Y.turn, .int .i64 Y.next, .int .i64 Y.wide, .int .i64 Y.high, .slice p1 Y.gs.length q1, .slice p2 Y.os.length q2, .slice p3 Y.gold.length q3, .slice p4 Y.us.length q4, .slice p5 Y.qs.length q5] 29)).alloc (Obj.cells #[.int .i64 j.player, .int .i64 j.unit, .int .i64 j.kind, .int .i64 j.left] 63)).alloc (Obj.cells #[.int .i64 0, .int .i64 0, .int .i64 0, .int .i64 0, .slice none 0 0, .slice none 0 0, .slice none 0 0, .slice none 0 0, .slice none 0 0] 29))) := (((Below.refl _ _).alloc (Nat.le_refl _) _).alloc (by simp) _).alloc (by simp; omega) _
  rw [hz]
  clear hz z1 z2
  generalize (((w.alloc (Obj.cells #[.int .i64 Y.turn, .int .i64 Y.next, .int .i64 Y.wide, .int .i64 Y.high, .slice p1 Y.gs.length q1, .slice p2 Y.os.length q2, .slice p3 Y.gold.length q3, .slice p4 Y.us.length q4, .slice p5 Y.qs.length q5] 29)).alloc (Obj.cells #[.int .i64 j.player, .int .i64 j.unit, .int .i64 j.kind, .int .i64 j.left] 63)).alloc (Obj.cells #[.int .i64 0, .int .i64 0, .int .i64 0, .int .i64 0, .slice none 0 0, .slice none 0 0, .slice none 0 0, .slice none 0 0, .slice none 0 0] 29)) = w0 at *
  obtain ⟨x0, x1, x2, x3, x4, x5, x6, x7, x8⟩ := X0.out.cells
  obtain ⟨j0, j1, j2, j3⟩ := J0.out
  go_wp2_with fail
  refine (spot_any _ _ ks Y j.unit j.kind w0 (K.out.1.below B0.out) K.out.2 (H.out.1.below B0.out) (H.out.2.2.below B0.out)).mono ?_
  rintro e w1 ⟨c, r, F, rfl, hr, hs, hb⟩
  have SS : Hid (SpotSays ks Y j.unit j.kind c F) := hs
  have B1 : Hid (Below w.heap.size w w1) := B0.out.trans (hb.mono B0.out.size)
  have X1 : Hid (Wx w1 z (.int .i64 Y.turn) (.int .i64 Y.next) (.int .i64 Y.wide) (.int .i64 Y.high) (.slice p1 Y.gs.length q1) (.slice p2 Y.os.length q2) (.slice p3 Y.gold.length q3) (.slice p4 Y.us.length q4) (.slice p5 Y.qs.length q5)) := X0.out.below hb X0.out.lt
  have J1 : Hid (Jbc w1 ⟨z + 1, 0, none⟩ j) := J0.out.below hb J0.out.lt
  have Z1 : Hid (Wx w1 (z + 2) (.int .i64 0) (.int .i64 0) (.int .i64 0) (.int .i64 0) (.slice none 0 0) (.slice none 0 0) (.slice none 0 0) (.slice none 0 0) (.slice none 0 0)) := Z0.out.below hb Z0.out.lt
  clear hb hs x0 x1 x2 x3 x4 x5 x6 x7 x8 j0 j1 j2 j3 X0 J0 Z0 B0
  rcases hr with ⟨rfl, rfl⟩ | ⟨hf, rfl⟩
  case inr =>
    have HF : Hid (F ≠ 0) := hf
    clear hf
    obtain ⟨z0, z1, z2, z3, z4, z5, z6, z7, z8⟩ := Z1.out.cells
    obtain ⟨t0, t1, t2, t3, t4, t5, t6, t7, t8⟩ := Z1.out.thaws
    have KZ : Hid (Kp (z + 2) w1 (((((((((w1.setCell ⟨z + 2, 0, none⟩ (.int .i64 0)).setCell ⟨z + 2, 1, none⟩ (.int .i64 0)).setCell ⟨z + 2, 2, none⟩ (.int .i64 0)).setCell ⟨z + 2, 3, none⟩ (.int .i64 0)).setCell ⟨z + 2, 4, none⟩ (.slice none 0 0)).setCell ⟨z + 2, 5, none⟩ (.slice none 0 0)).setCell ⟨z + 2, 6, none⟩ (.slice none 0 0)).setCell ⟨z + 2, 7, none⟩ (.slice none 0 0)).setCell ⟨z + 2, 8, none⟩ (.slice none 0 0))) := put_kp _ _ _ _ _ _ _ _ _ _ _
    obtain ⟨y0, y1, y2, y3, y4, y5, y6, y7, y8⟩ := (Z1.out.put (.int .i64 0) (.int .i64 0) (.int .i64 0) (.int .i64 0) (.slice none 0 0) (.slice none 0 0) (.slice none 0 0) (.slice none 0 0) (.slice none 0 0)).cells
    go_wp2
    clear z0 z1 z2 z3 z4 z5 z6 z7 z8 t0 t1 t2 t3 t4 t5 t6 t7 t8
    generalize (((((((((w1.setCell ⟨z + 2, 0, none⟩ (.int .i64 0)).setCell ⟨z + 2, 1, none⟩ (.int .i64 0)).setCell ⟨z + 2, 2, none⟩ (.int .i64 0)).setCell ⟨z + 2, 3, none⟩ (.int .i64 0)).setCell ⟨z + 2, 4, none⟩ (.slice none 0 0)).setCell ⟨z + 2, 5, none⟩ (.slice none 0 0)).setCell ⟨z + 2, 6, none⟩ (.slice none 0 0)).setCell ⟨z + 2, 7, none⟩ (.slice none 0 0)).setCell ⟨z + 2, 8, none⟩ (.slice none 0 0)) = w2 at *
    refine bodyPost_ret (v := .tuple #[.agg #[.int .i64 0, .int .i64 0, .int .i64 0, .int .i64 0, .slice none 0 0, .slice none 0 0, .slice none 0 0, .slice none 0 0, .slice none 0 0], .iface 69 (.int .i64 F)]) (by simp [results, Tryd.results26, go_sem, y0, y1, y2, y3, y4, y5, y6, y7, y8]) rfl ⟨_, _, WV.zero, rfl, zero_wo _ _, ?_, .inr ⟨⟨c, F, SS.out, .inl HF.out⟩, F, HF.out, rfl⟩⟩
    exact KZ.out.below B1.out B1.out.size (by have := HZ.out; omega)
  obtain ⟨x0, x1, x2, x3, x4, x5, x6, x7, x8⟩ := X1.out.cells
  obtain ⟨j0, j1, j2, j3⟩ := J1.out
  go_wp2_with fail
  refine (place_any _ _ ks Y j.player j.kind c w1 (K.out.1.below B1.out) K.out.2 (H.out.1.below B1.out)).mono ?_
  rintro e w2 ⟨u, r, rfl, hr, hu, hb⟩
  have PF : Hid (Wd.putFault ks Y j.player j.kind c = Wd.placeFault ks Y j.player j.kind c) := by unfold Hid Wd.putFault; rw [if_pos H.out.2.1]
  rw [PF.out] at hr
  have B2 : Hid (Below w.heap.size w w2) := B1.out.trans (hb.mono B1.out.size)
  have X2 : Hid (Wx w2 z (.int .i64 Y.turn) (.int .i64 Y.next) (.int .i64 Y.wide) (.int .i64 Y.high) (.slice p1 Y.gs.length q1) (.slice p2 Y.os.length q2) (.slice p3 Y.gold.length q3) (.slice p4 Y.us.length q4) (.slice p5 Y.qs.length q5)) := X1.out.below hb X1.out.lt
  have J2 : Hid (Jbc w2 ⟨z + 1, 0, none⟩ j) := J1.out.below hb J1.out.lt
  have Z2 : Hid (Wx w2 (z + 2) (.int .i64 0) (.int .i64 0) (.int .i64 0) (.int .i64 0) (.slice none 0 0) (.slice none 0 0) (.slice none 0 0) (.slice none 0 0) (.slice none 0 0)) := Z1.out.below hb Z1.out.lt
  have U2 : Hid (Wo w2 w1.heap.size u (Wd.placed ks Y j.player j.kind c)) := hu
  have S1 : Hid (z + 2 < w1.heap.size) := Z1.out.lt
  obtain ⟨Z, hZ⟩ : ∃ Z, Wd.placed ks Y j.player j.kind c = Z := ⟨_, rfl⟩
  have HP : Hid (Wd.placed ks Y j.player j.kind c = Z) := hZ
  rw [hZ] at U2 hu
  obtain ⟨k1, k2, k3, k4, k5, rfl, o1, o2, o3, o4, o5⟩ := hu
  obtain ⟨a1, r1, rfl⟩ := o1.len
  obtain ⟨a2, r2, rfl⟩ := o2.len
  obtain ⟨a3, r3, rfl⟩ := o3.len
  obtain ⟨a4, r4, rfl⟩ := o4.len
  obtain ⟨a5, r5, rfl⟩ := o5.len
  have OO : Hid (Ow w2 w1.heap.size (Value.slice a1 Z.gs.length r1) Z.gs ∧ Ow w2 w1.heap.size (Value.slice a2 Z.os.length r2) Z.os ∧ Ow w2 w1.heap.size (Value.slice a3 Z.gold.length r3) Z.gold ∧ Uno w2 w1.heap.size (Value.slice a4 Z.us.length r4) Z.us ∧ Jbo w2 w1.heap.size (Value.slice a5 Z.qs.length r5) Z.qs) := ⟨o1, o2, o3, o4, o5⟩
  have ND : Hid (((∃ c, Comes ks Y j c ∧ r = .nilIface ∧ Z = Wd.put ks Y j.player j.kind c) ∨ (NoCome ks Y j ∧ ∃ n : Int, n ≠ 0 ∧ r = .iface 69 (.int .i64 n)))) := by
    unfold Hid
    rcases hr with ⟨h0, rfl⟩ | ⟨h0, rfl⟩
    · exact .inl ⟨c, ⟨SS.out, h0⟩, rfl, by rw [← HP.out, placed_ok (by rw [PF.out]; exact h0)]⟩
    · exact .inr ⟨⟨c, 0, SS.out, .inr h0⟩, _, h0, rfl⟩
  clear hb hr hZ o1 o2 o3 o4 o5 x0 x1 x2 x3 x4 x5 x6 x7 x8 j0 j1 j2 j3 X1 J1 Z1 B1 U2 HP PF SS
  obtain ⟨z0, z1, z2, z3, z4, z5, z6, z7, z8⟩ := Z2.out.cells
  obtain ⟨t0, t1, t2, t3, t4, t5, t6, t7, t8⟩ := Z2.out.thaws
  have KZ : Hid (Kp (z + 2) w2 (((((((((w2.setCell ⟨z + 2, 0, none⟩ (.int .i64 Z.turn)).setCell ⟨z + 2, 1, none⟩ (.int .i64 Z.next)).setCell ⟨z + 2, 2, none⟩ (.int .i64 Z.wide)).setCell ⟨z + 2, 3, none⟩ (.int .i64 Z.high)).setCell ⟨z + 2, 4, none⟩ (Value.slice a1 Z.gs.length r1)).setCell ⟨z + 2, 5, none⟩ (Value.slice a2 Z.os.length r2)).setCell ⟨z + 2, 6, none⟩ (Value.slice a3 Z.gold.length r3)).setCell ⟨z + 2, 7, none⟩ (Value.slice a4 Z.us.length r4)).setCell ⟨z + 2, 8, none⟩ (Value.slice a5 Z.qs.length r5))) := put_kp _ _ _ _ _ _ _ _ _ _ _
  obtain ⟨y0, y1, y2, y3, y4, y5, y6, y7, y8⟩ := (Z2.out.put (.int .i64 Z.turn) (.int .i64 Z.next) (.int .i64 Z.wide) (.int .i64 Z.high) (Value.slice a1 Z.gs.length r1) (Value.slice a2 Z.os.length r2) (Value.slice a3 Z.gold.length r3) (Value.slice a4 Z.us.length r4) (Value.slice a5 Z.qs.length r5)).cells
  go_wp2
  clear z0 z1 z2 z3 z4 z5 z6 z7 z8 t0 t1 t2 t3 t4 t5 t6 t7 t8
  generalize (((((((((w2.setCell ⟨z + 2, 0, none⟩ (.int .i64 Z.turn)).setCell ⟨z + 2, 1, none⟩ (.int .i64 Z.next)).setCell ⟨z + 2, 2, none⟩ (.int .i64 Z.wide)).setCell ⟨z + 2, 3, none⟩ (.int .i64 Z.high)).setCell ⟨z + 2, 4, none⟩ (Value.slice a1 Z.gs.length r1)).setCell ⟨z + 2, 5, none⟩ (Value.slice a2 Z.os.length r2)).setCell ⟨z + 2, 6, none⟩ (Value.slice a3 Z.gold.length r3)).setCell ⟨z + 2, 7, none⟩ (Value.slice a4 Z.us.length r4)).setCell ⟨z + 2, 8, none⟩ (Value.slice a5 Z.qs.length r5)) = w3 at *
  have h1 := S1.out
  have h2 := HZ.out
  refine bodyPost_ret (v := .tuple #[.agg #[.int .i64 Z.turn, .int .i64 Z.next, .int .i64 Z.wide, .int .i64 Z.high, Value.slice a1 Z.gs.length r1, Value.slice a2 Z.os.length r2, Value.slice a3 Z.gold.length r3, Value.slice a4 Z.us.length r4, Value.slice a5 Z.qs.length r5], r]) (by simp [results, Tryd.results26, go_sem, y0, y1, y2, y3, y4, y5, y6, y7, y8]) rfl ⟨_, _, Z, rfl, ⟨_, _, _, _, _, rfl, (OO.out.1.kp KZ.out (by omega)).mono (by omega), (OO.out.2.1.kp KZ.out (by omega)).mono (by omega), (OO.out.2.2.1.kp KZ.out (by omega)).mono (by omega), (OO.out.2.2.2.1.kp KZ.out (by omega)).mono (by omega), (OO.out.2.2.2.2.kp KZ.out (by omega)).mono (by omega)⟩, ?_, ND.out⟩
  exact KZ.out.below B2.out B2.out.size (by omega)
end Go.Proofs.YtolmfekefjnggaaDoor

namespace Go.Proofs.YtolmfekefjnggaaDoor
open Go.RowKit
set_option linter.unusedVariables false

/-- block g has these jobs, and more behind them. -/
def Jk (w : World) (g : Nat) (ks : List JbV) (rest : List Value) : Prop := w.heap[g]? = some (.cells (ks.flatMap JbV.cs ++ rest).toArray 63 (0, 0))
theorem Jk.lt {w : World} {g : Nat} {ks : List JbV} {rest : List Value} (h : Jk w g ks rest) : g < w.heap.size := lt_of_block h
theorem Jk.thaw {w : World} {g : Nat} {ks : List JbV} {rest : List Value} (h : Jk w g ks rest) (i : Nat) : w.frozen? ⟨g, i, none⟩ = false := by
  unfold Jk at h
  simp [World.frozen?, h]
theorem Jk.below {w w' : World} {g B : Nat} {ks : List JbV} {rest : List Value} (h : Jk w g ks rest) (hb : Below B w w') (hB : g < B) : Jk w' g ks rest := by
  unfold Jk at *
  rw [hb.block g hB]; exact h
theorem Jk.at_ {w : World} {g : Nat} {ks : List JbV} {rest : List Value} (h : Jk w g ks rest) {i : Nat} {o : JbV} (ho : ks[i]? = some o) {j : Nat} (hj : j < 4) : w.cell? ⟨g, i * 4 + j, none⟩ = o.cs[j]? := by
  unfold Jk at h
  have hi : i < ks.length := (List.getElem?_eq_some_iff.1 ho).1
  simp only [World.cell?, h]
  have e : (ks.flatMap JbV.cs ++ rest).toArray[i * 4 + j]? = o.cs[j]? := by
    rw [List.getElem?_toArray, List.getElem?_append_left (by rw [len_jb]; omega), flat_jb ks i j o ho hj]
  simp only [e]
  simp
theorem Jk.jbc {w : World} {g : Nat} {ks : List JbV} {rest : List Value} (h : Jk w g ks rest) {i : Nat} {o : JbV} (ho : ks[i]? = some o) : Jbc w ⟨g, i * 4, none⟩ o :=
  ⟨h.at_ ho (j := 0) (by decide), h.at_ ho (j := 1) (by decide), h.at_ ho (j := 2) (by decide), h.at_ ho (j := 3) (by decide)⟩
theorem jflat_set : ∀ (ks : List JbV) (i : Nat) (o : JbV) (rest : List Value), i < ks.length →
    (ks.set i o).flatMap JbV.cs ++ rest = ((((ks.flatMap JbV.cs ++ rest).set (i * 4) (.int .i64 o.player)).set (i * 4 + 1) (.int .i64 o.unit)).set (i * 4 + 2) (.int .i64 o.kind)).set (i * 4 + 3) (.int .i64 o.left)
  | [], i, o, rest, h => by simp at h
  | k :: ks, 0, o, rest, _ => by
    simp [JbV.cs]
  | k :: ks, i + 1, o, rest, h => by
    have ih := jflat_set ks i o rest (by simpa using h)
    rw [show (i + 1) * 4 = i * 4 + 4 by omega, show i * 4 + 4 + 1 = i * 4 + 1 + 4 by omega, show i * 4 + 4 + 2 = i * 4 + 2 + 4 by omega, show i * 4 + 4 + 3 = i * 4 + 3 + 4 by omega, List.set_cons_succ, List.flatMap_cons, List.append_assoc, ih, List.flatMap_cons]
    simp [JbV.cs]
theorem Jk.put {w : World} {g : Nat} {ks : List JbV} {rest : List Value} (h : Jk w g ks rest) {i : Nat} (hi : i < ks.length) (o : JbV) :
    Jk ((((w.setCell ⟨g, i * 4, none⟩ (.int .i64 o.player)).setCell ⟨g, i * 4 + 1, none⟩ (.int .i64 o.unit)).setCell ⟨g, i * 4 + 2, none⟩ (.int .i64 o.kind)).setCell ⟨g, i * 4 + 3, none⟩ (.int .i64 o.left)) g (ks.set i o) rest := by
  unfold Jk at *
  have h0 := heap_setCell_same w g (i * 4) _ _ (.int .i64 o.player) h
  have h1 := heap_setCell_same _ g (i * 4 + 1) _ _ (.int .i64 o.unit) h0
  have h2 := heap_setCell_same _ g (i * 4 + 2) _ _ (.int .i64 o.kind) h1
  have h3 := heap_setCell_same _ g (i * 4 + 3) _ _ (.int .i64 o.left) h2
  rw [h3, jflat_set ks i o rest hi]
  simp
theorem jk_below {B g : Nat} {w W : World} {i : Nat} (o : JbV) (h : Below B w W) (hb : B ≤ g) : Below B w ((((W.setCell ⟨g, i * 4, none⟩ (.int .i64 o.player)).setCell ⟨g, i * 4 + 1, none⟩ (.int .i64 o.unit)).setCell ⟨g, i * 4 + 2, none⟩ (.int .i64 o.kind)).setCell ⟨g, i * 4 + 3, none⟩ (.int .i64 o.left)) :=
  (((h.setCell (p := ⟨g, i * 4, none⟩) hb _).setCell (p := ⟨g, i * 4 + 1, none⟩) hb _).setCell (p := ⟨g, i * 4 + 2, none⟩) hb _).setCell (p := ⟨g, i * 4 + 3, none⟩) hb _
theorem jflat_set3 : ∀ (ks : List JbV) (i : Nat) (o : JbV) (a : Int) (rest : List Value), ks[i]? = some o → (ks.set i { o with left := a }).flatMap JbV.cs ++ rest = (ks.flatMap JbV.cs ++ rest).set (i * 4 + 3) (.int .i64 a)
  | [], i, o, a, rest, h => by simp at h
  | k :: ks, 0, o, a, rest, h => by
    simp at h
    subst h
    simp [JbV.cs]
  | k :: ks, i + 1, o, a, rest, h => by
    have ih := jflat_set3 ks i o a rest (by simpa using h)
    rw [show (i + 1) * 4 + 3 = i * 4 + 3 + 4 by omega, List.set_cons_succ, List.flatMap_cons, List.append_assoc, ih, List.flatMap_cons]
    simp [JbV.cs]
theorem Jk.set3 {w : World} {g : Nat} {ks : List JbV} {rest : List Value} (h : Jk w g ks rest) {i : Nat} {o : JbV} (ho : ks[i]? = some o) (a : Int) : Jk (w.setCell ⟨g, i * 4 + 3, none⟩ (.int .i64 a)) g (ks.set i { o with left := a }) rest := by
  unfold Jk at *
  have h0 := heap_setCell_same w g (i * 4 + 3) _ _ (.int .i64 a) h
  rw [h0, jflat_set3 ks i o a rest ho]
  simp
/-- a list of its own, as a block. -/
theorem Jbo.jk {w : World} {base : Nat} {v : Value} {ks : List JbV} (h : Jbo w base v ks) : (v = .slice none 0 0 ∧ ks = []) ∨ ∃ g cap rest, v = .slice (some ⟨g, 0, none⟩) ks.length cap ∧ base ≤ g ∧ ks.length ≤ cap ∧ cap ≤ maxLen ∧ ks.length * 4 + rest.length = cap * 4 ∧ Jk w g ks rest := by
  rcases h.2 with ⟨h1, h2⟩ | ⟨g, cap, cur, h1, h2, h3, h4, h5, h6, h7⟩
  · exact .inl ⟨h1, List.length_eq_zero_iff.1 h2⟩
  · refine .inr ⟨g, cap, cur.toList.drop (ks.length * 4), h1, h2, h4, h5, ?_, ?_⟩
    · have e6 : cur.toList.length = cap * 4 := by simpa using h6
      rw [List.length_drop, e6]
      have : ks.length * 4 ≤ cap * 4 := Nat.mul_le_mul_right _ h4
      omega
    · unfold Jk
      rw [← h7, List.take_append_drop, Array.toArray_toList]
      exact h3
theorem Jk.jbo {w : World} {base g cap : Nat} {ks : List JbV} {rest : List Value} (h : Jk w g ks rest) (hb : base ≤ g) (h1 : ks.length ≤ cap) (h2 : cap ≤ maxLen) (h3 : ks.length * 4 + rest.length = cap * 4) : Jbo w base (.slice (some ⟨g, 0, none⟩) ks.length cap) ks := by
  refine ⟨len_jb ks, .inr ⟨g, cap, _, rfl, hb, h, h1, h2, ?_, ?_⟩⟩
  · simp only [List.size_toArray, List.length_append, len_jb]; omega
  · show (ks.flatMap JbV.cs ++ rest).take (ks.length * 4) = _
    rw [List.take_append_of_le_length (by rw [len_jb]; exact Nat.le_refl _), List.take_of_length_le (by rw [len_jb]; exact Nat.le_refl _)]
/-- the first m of them, and the others behind. -/
theorem Jk.take {w : World} {g : Nat} {ks : List JbV} {rest : List Value} (h : Jk w g ks rest) (m : Nat) : Jk w g (ks.take m) ((ks.drop m).flatMap JbV.cs ++ rest) := by
  unfold Jk at *
  rw [← List.append_assoc, ← List.flatMap_append, List.take_append_drop]
  exact h
end Go.Proofs.YtolmfekefjnggaaDoor

