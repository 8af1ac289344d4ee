/- How far each cell is from one, as the program finds it: it goes on from the cells of a list till there is none. -/
import Derived.Test.YtogdaegnpoknlaaDoorPwL
import Derived.Test.YtogdaegnpoknlaaDoorPwQ
import Derived.Test.YtogdaegnpoknlaaDoorPwR
import Derived.Test.YtogdaegnpoknlaaDoorLit
import Derived.Test.YtogdaegnpoknlaaDoorFdWay
namespace Go.Proofs.YtogdaegnpoknlaaDoor
open Go.RowKit Wy
set_option linter.unusedVariables false

/-- what is left, as memory has it. -/
def wleft (w : World) (b M : Nat) : Nat := match w.heap[b]? with
  | some (.cells cs _ _) => left M (cs.toList.map intOf)
  | _ => 0
theorem Bk.left {w : World} {b : Nat} {l : List Int} (h : Bk w b l #[]) (M : Nat) : wleft w b M = Wy.left M l := by
  unfold Bk at h
  unfold wleft
  rw [h]
  simp [intCells, intOf, Function.comp_def]
/-- how long a slice is. -/
def vlen : Value → Nat
  | .slice _ n _ => n
  | _ => 0
theorem Qu.vlen {w : World} {base : Nat} {v : Value} {xs : List Int} (h : Qu w base v xs) : vlen v = xs.length := by
  obtain ⟨g, off, cap, cur, h1, -⟩ := h
  rw [h1]
  rfl

theorem cell_new {w : World} {z : Nat} (d : Value) (hz : w.heap.size = z) : (w.alloc (Obj.cells #[d] 3)).cell? ⟨z, 0, none⟩ = some d := by
  subst hz
  simp

def ints (td : List Nat) : List Int := td.map Int.ofNat
theorem ints_len (td : List Nat) : (ints td).length = td.length := by simp [ints]

set_option maxRecDepth 100000 in
set_option maxHeartbeats 4000000 in
theorem spread_ok (K : Nat) (eK : ∀ args w, (callFunc K args).run Tryd.prog w = .ok (.enter K args) w) (q v : Value) (n t : Nat) (nb : Nat → List Int) (ss : List Int) (st : Nat → Nat → Int) (w : World) (h : Ld w v n nb ss) (E : Even nb st n) (ht : t < n) (hn : n ≤ 144) (h4 : ∀ i, (nb i).length ≤ 4)
    (hon : ∀ w' (i j : Nat), i < n → j < n → Below w.heap.size w w' → Calls Tryd.prog K #[.int .i64 (i : Nat), .int .i64 (j : Nat), q] w' fun e w'' => e = .returned (.int .i64 (st j i)) ∧ w'' = w') :
    Calls Tryd.prog 31 #[v, .int .i64 (t : Nat), .func (Fn.func K) #[] #[q]] w fun e w' => ∃ b l, e = .returned (.slice (some ⟨b, 0, none⟩) n n) ∧ w.heap.size ≤ b ∧ Bk w' b l #[] ∧ (IsFar nb st t n l ∧ Flat l) ∧ Below w.heap.size w w' := by
  obtain ⟨u1, u2, rfl, ⟨x, c, rfl, c1, c2, hx⟩, ⟨a2, d, rfl, d1, d2, ca⟩, hl⟩ := h
  rw [hl] at d1 ⊢
  have Hx : Hid (∀ i, i < n → ∃ u, w.cell? (x.add i) = some u ∧ Ro w u (nb i)) := hx
  have Ho : Hid (∀ w' (i j : Nat), i < n → j < n → Below w.heap.size w w' → Calls Tryd.prog K #[.int .i64 (i : Nat), .int .i64 (j : Nat), q] w' fun e w'' => e = .returned (.int .i64 (st j i)) ∧ w'' = w') := hon
  have H4 : Hid (∀ i, (nb i).length ≤ 4) := h4
  have E0 : Hid (Even nb st n) := E
  clear hx ca hon h4 E hl
  go_enter Tryd.func31, Tryd.ntmps31
  go_wp2_with fail
  refine (repeat_ok _ n _ (Ro.lit1 (w := w.alloc _) (-1) (by simp)) (by omega) hn).mono ?_
  rintro e w1 ⟨b, rfl, hbz, hbk, hbel⟩
  have bz : Hid (w.heap.size + 2 ≤ b) := by unfold Hid; simpa using hbz
  have B1 : Hid (Below w.heap.size w w1) := (((Below.refl _ _).alloc (Nat.le_refl _) _).alloc (by simp) _).trans (hbel.mono (by simp; omega))
  have X1 : Hid (Bl w1 w.heap.size (.slice (some x) n c) (.slice a2 n d)) := ((Bl.mk' (w := w) (.slice (some x) n c) (.slice a2 n d) rfl).below ((Below.refl _ _).alloc (Nat.le_refl _) (Obj.cells #[Value.int IntKind.i64 (-1)] 3)) (by simp)).below hbel (by simp; omega)
  have K1 : Hid (Bk w1 b (List.replicate n (-1)) #[]) := hbk
  have ct := hbk.cell (i := t) (d := -1) (by rw [List.getElem?_replicate, if_pos ht])
  have ft := hbk.thaw t
  clear hbz hbk hbel
  have k12 := Kp.set (z := b) w1 t (.int .i64 0)
  have K2 : Hid (Bk (w1.setCell ⟨b, t, none⟩ (.int .i64 0)) b ((List.replicate n (-1)).set t 0) #[]) := K1.out.set t 0 (by simp; exact ht)
  have X2 : Hid (Bl (w1.setCell ⟨b, t, none⟩ (.int .i64 0)) w.heap.size (.slice (some x) n c) (.slice a2 n d)) := X1.out.kp k12 (by have := bz.out; omega)
  have B2 : Hid (Below w.heap.size w (w1.setCell ⟨b, t, none⟩ (.int .i64 0))) := k12.below B1.out B1.out.size (by have := bz.out; omega)
  have Z2 : Hid ((w1.setCell ⟨b, t, none⟩ (.int .i64 0)).heap.size = w1.heap.size) := by unfold Hid; simp
  have bB : Hid (b < w1.heap.size) := K1.out.lt
  clear k12 K1 X1 B1
  go_wp2_with fail
  generalize w1.setCell ⟨b, t, none⟩ (.int .i64 0) = w2 at *
  clear ct ft
  obtain ⟨B, hB⟩ : ∃ B, w1.heap.size = B := ⟨_, rfl⟩
  rw [hB] at bB Z2 ⊢
  have Q3 : Hid (Qu (w2.alloc (Obj.cells #[.int .i64 (t : Nat)] 3)) B (.slice (some ⟨B, 0, none⟩) 1 1) (ints [t])) := Qu.one (w := w2) (t : Nat) (by rw [Z2.out]; exact Nat.le_refl _) Z2.out
  have b23 : Below w2.heap.size w2 (w2.alloc (Obj.cells #[.int .i64 (t : Nat)] 3)) := (Below.refl _ _).alloc (Nat.le_refl _) _
  have K3 : Hid (Bk (w2.alloc (Obj.cells #[.int .i64 (t : Nat)] 3)) b ((List.replicate n (-1)).set t 0) #[]) := K2.out.below b23
  have X3 : Hid (Bl (w2.alloc (Obj.cells #[.int .i64 (t : Nat)] 3)) w.heap.size (.slice (some x) n c) (.slice a2 n d)) := X2.out.below b23 X2.out.lt
  have B3 : Hid (Below w.heap.size w (w2.alloc (Obj.cells #[.int .i64 (t : Nat)] 3))) := B2.out.trans (b23.mono B2.out.size)
  have S3 : Hid (B ≤ (w2.alloc (Obj.cells #[.int .i64 (t : Nat)] 3)).heap.size) := by
    have := b23.size
    rw [Z2.out] at this
    exact this
  generalize w2.alloc (Obj.cells #[.int .i64 (t : Nat)] 3) = w3 at *
  clear K2 X2 B2 Z2 b23 hB
  go_loopw [8] (fun v W' => ∃ l td, Qu W' B v (ints td) ∧ Bk W' b l #[] ∧ Wk nb st t n l td ∧ Bl W' w.heap.size (.slice (some x) n c) (.slice a2 n d) ∧ Below w.heap.size w W' ∧ B ≤ W'.heap.size ∧ 2 * left (2 * n + 1) l + td.length ≤ 100000) (fun v W' => 2 * wleft W' b (2 * n + 1) + vlen v)
  case atStart => exact ⟨_, [t], Q3, K3, Wk.start ht, X3, B3, S3, by have := left_start ht hn; simp only [List.length_cons, List.length_nil]; omega⟩
  case round =>
    obtain ⟨l, td, hq, hk, hw, hxx, hb, hsz, hmx⟩ := hrel
    clear Q3 K3 X3 B3 S3
    have Kb : Hid (Bk wr b l #[]) := hk
    have Ww : Hid (Wk nb st t n l td) := hw
    have X : Hid (Bl wr w.heap.size (.slice (some x) n c) (.slice a2 n d)) := hxx
    have Bw : Hid (Below w.heap.size w wr) := hb
    have Sz : Hid (B ≤ wr.heap.size) := hsz
    clear hk hw hxx hb hsz
    cases td with
    | nil =>
      obtain ⟨g, off, cap, cur, rfl, -, -, -⟩ := hq
      go_wp2
      go_ret
      exact ⟨b, l, rfl, by have := bz.out; omega, Kb, ⟨Ww.out.far E0.out, Ww.out.flat⟩, Bw⟩
    | cons a rest =>
      have Q : Hid (Qu wr B u8 (ints (a :: rest))) := hq
      have an : a < n := by
        obtain ⟨y, hy, -⟩ := Ww.out.todo a (List.mem_cons_self ..)
        have := (List.getElem?_eq_some_iff.1 hy).1
        rw [Ww.out.len] at this
        exact this
      obtain ⟨m0, hm0⟩ : ∃ m0, 2 * wleft wr b (2 * n + 1) + vlen u8 = m0 := ⟨_, rfl⟩
      have M0 : Hid (2 * wleft wr b (2 * n + 1) + vlen u8 = m0) := hm0
      have ML : Hid (2 * left (2 * n + 1) l + rest.length + 1 ≤ m0) := by
        unfold Hid
        rw [← hm0, Kb.out.left, hq.vlen, ints_len]
        simp only [List.length_cons]
        omega
      have m9 : m0 ≤ 100000 := by
        rw [← hm0, Kb.out.left, hq.vlen, ints_len]
        exact hmx
      clear hm0 hmx
      obtain ⟨g, off, cap, hu8, o1, o2, hc⟩ := Qu.first (x := (a : Int)) (xs := ints rest) hq
      subst hu8
      clear hq
      obtain ⟨u, hu, hr⟩ := Hx.out a an
      have hu' : wr.cell? (x.add a) = some u := by rw [Bw.out.cell (p := x.add a) (by have := cell_lt hu; rw [add_block] at this ⊢; exact this)]; exact hu
      have Hr0 : Hid (Ro w u (nb a)) := hr
      obtain ⟨a3, c3, rfl, e1, e2, -⟩ := hr
      have L4 := H4.out a
      have x0 := X.out.c0
      clear hu
      go_wp2_with fail
      clear hc x0 hu' o1 o2 ht
      go_loopw [8, 37] (fun v i W' => ∃ l rest k, i = .int .i64 (k : Nat) ∧ k ≤ (nb a).length ∧ Qu W' B v (ints (a :: rest)) ∧ Bk W' b l #[] ∧ Wi nb st t n l a rest k ∧ Bl W' w.heap.size (.slice (some x) n c) (.slice a2 n d) ∧ Below w.heap.size w W' ∧ B ≤ W'.heap.size ∧ 2 * left (2 * n + 1) l + rest.length + 1 ≤ m0) (fun _ i _ => (nb a).length - (intOf i).toNat)
      case atStart => exact ⟨l, rest, 0, rfl, Nat.zero_le _, Q, Kb, ⟨Ww, fun q i hq => absurd hq (Nat.not_lt_zero _)⟩, X, Bw, Sz, ML⟩
      case round =>
        clear Q Kb Ww X ML
        obtain ⟨l, rest, k, rfl, hk, hq, hkb, hwi, hx, hb, hsz, hml⟩ := hrel
        have Q : Hid (Qu wr B u8 (ints (a :: rest))) := hq
        have Kb : Hid (Bk wr b l #[]) := hkb
        have Wi : Hid (Wi nb st t n l a rest k) := hwi
        have X : Hid (Bl wr w.heap.size (.slice (some x) n c) (.slice a2 n d)) := hx
        have Bw' : Hid (Below w.heap.size w wr) := hb
        have Sz' : Hid (B ≤ wr.heap.size) := hsz
        have ML : Hid (2 * left (2 * n + 1) l + rest.length + 1 ≤ m0) := hml
        clear hkb hwi hx hb hsz hml
        by_cases h0 : k = (nb a).length
        · have Wd : Hid (Wk nb st t n l rest) := by
            have := Wi.out
            rw [h0] at this
            exact this.done E0.out
          subst h0
          obtain ⟨v', qv, sv⟩ := Qu.rest (x := (a : Int)) (xs := ints rest) Q.out
          have Q' : Hid (Qu wr B v' (ints rest)) := qv
          clear qv hq Q Wi
          go_wp2
          go_round
          case rel => exact ⟨l, rest, Q', Kb, Wd, X, Bw', Sz', by have := ML.out; omega⟩
          case measure =>
            rw [Kb.out.left, Q'.out.vlen, ints_len]
            have := ML.out
            have := M0.out
            omega
        · have hkl : k < (nb a).length := by omega
          obtain ⟨j, hj, jn, -⟩ := E0.out.cell a _ an (List.getElem_mem hkl)
          have Hj : Hid ((nb a)[k]? = some (j : Int)) := by unfold Hid; rw [List.getElem?_eq_getElem hkl, hj]
          clear hj
          obtain ⟨a4, c4, e4, -, -, ca⟩ := Hr0.out.below Bw'.out
          injection e4 with e5 e6 e7
          subst e5
          obtain ⟨y, rfl, -, hy⟩ := ca (by intro h; rw [h] at hkl; simp at hkl)
          have cj := hy k _ Hj.out
          clear hy e6 e7 ca hq
          have l2 := E0.out.two j a
          obtain ⟨yv, hyv, y0⟩ := Wi.out.wk.todo a (List.mem_cons_self ..)
          have ll : l.length = n := Wi.out.wk.len
          obtain ⟨xv, hxv⟩ : ∃ xv, l[j]? = some xv := ⟨l[j]'(by rw [ll]; exact jn), List.getElem?_eq_getElem _⟩
          have tl := told_le l
          have fx := Wi.out.wk.flat j xv hxv
          have fy := Wi.out.wk.flat a yv hyv
          have xb : xv ≤ 288 := by omega
          have yb : yv ≤ 288 := by omega
          have xm : -1 ≤ xv := by
            rcases Wi.out.wk.sound j xv hxv with h | h
            · omega
            · have := h.nonneg; omega
          have cx := Kb.out.cell hxv
          have cy := Kb.out.cell hyv
          have fz := Kb.out.thaw j
          clear tl fx fy ll
          go_wp2_with fail
          refine (Ho.out wr a j an jn Bw'.out).mono ?_
          rintro e w' ⟨rfl, rfl⟩
          obtain ⟨m, hm⟩ : ∃ m, st j a = m := ⟨_, rfl⟩
          have HD : Hid (st j a = m) := hm
          rw [hm] at l2 ⊢
          clear hm
          by_cases h1 : 0 < m
          · by_cases h2 : xv < 0
            · have HS := Wi.out.set E0.out Hj.out hxv hyv (by rw [HD.out]; exact h1) (.inl h2)
              rw [HD.out, Int.add_comm m yv] at HS
              have HT : Hid (Wy.Wi nb st t n (l.set j (yv + m)) a (rest ++ [j]) (k + 1) ∧ left (2 * n + 1) (l.set j (yv + m)) < left (2 * n + 1) l) := HS
              clear HS HD
              go_wp2
              go_quiet (fail)
              have kq : Below w'.heap.size w' (w'.drewN nq) := below_drewN (Below.refl _ _) _
              have K5 : Hid (Bk (w'.drewN nq) b l #[]) := Kb.out.below kq
              have Q5 : Hid (Qu (w'.drewN nq) B u8 (ints (a :: rest))) := Q.out.below kq
              have X5 : Hid (Bl (w'.drewN nq) w.heap.size (.slice (some x) n c) (.slice a2 n d)) := X.out.below kq X.out.lt
              have B5 : Hid (Below w.heap.size w (w'.drewN nq)) := Bw'.out.trans (kq.mono Bw'.out.size)
              have S5 : Hid (B ≤ (w'.drewN nq).heap.size) := Nat.le_trans Sz'.out kq.size
              generalize w'.drewN nq = w5 at *
              clear Kb Q X Bw' Sz' kq cx cy fz cj
              have cx := K5.out.cell hxv
              have cy := K5.out.cell hyv
              have fz := K5.out.thaw j
              have k6 := Kp.set (z := b) w5 j (.int .i64 (yv + m))
              have K6 : Hid (Bk (w5.setCell ⟨b, j, none⟩ (.int .i64 (yv + m))) b (l.set j (yv + m)) #[]) := K5.out.set j (yv + m) (List.getElem?_eq_some_iff.1 hxv).1
              have Q6 : Hid (Qu (w5.setCell ⟨b, j, none⟩ (.int .i64 (yv + m))) B u8 (ints (a :: rest))) := Q5.out.kp k6 bB.out
              have X6 : Hid (Bl (w5.setCell ⟨b, j, none⟩ (.int .i64 (yv + m))) w.heap.size (.slice (some x) n c) (.slice a2 n d)) := X5.out.kp k6 (by have := bz.out; omega)
              have B6 : Hid (Below w.heap.size w (w5.setCell ⟨b, j, none⟩ (.int .i64 (yv + m)))) := k6.below B5.out B5.out.size (by have := bz.out; omega)
              have S6 : Hid (B ≤ (w5.setCell ⟨b, j, none⟩ (.int .i64 (yv + m))).heap.size) := Nat.le_trans S5.out k6.size
              clear k6 K5 Q5 X5 B5 S5 hxv hyv
              have RL : Hid ((ints (a :: rest)).length ≤ 1000000) := by
                unfold Hid
                rw [ints_len]
                simp only [List.length_cons]
                have := ML.out
                omega
              have Sb : Hid (b < B ∧ w.heap.size < B) := by
                have := bz.out
                have := bB.out
                exact ⟨by omega, by omega⟩
              have Ba : Hid (Below (w5.setCell ⟨b, j, none⟩ (.int .i64 (yv + m))).heap.size (w5.setCell ⟨b, j, none⟩ (.int .i64 (yv + m))) ((w5.setCell ⟨b, j, none⟩ (.int .i64 (yv + m))).alloc (Obj.cells #[.int .i64 (j : Nat)] 3))) := (Below.refl _ _).alloc (Nat.le_refl _) _
              have Cd : Hid (((w5.setCell ⟨b, j, none⟩ (.int .i64 (yv + m))).alloc (Obj.cells #[.int .i64 (j : Nat)] 3)).cell? ⟨w5.heap.size, 0, none⟩ = some (.int .i64 (j : Nat))) := cell_new (w := w5.setCell ⟨b, j, none⟩ (.int .i64 (yv + m))) _ (World.size_setCell _ _ _)
              go_wp2_with (at_builtin; refine app_q _ rfl _ _ rfl B _ (ints (a :: rest)) rfl (Q6.out.below Ba.out) ⟨w5.heap.size, 0, none⟩ (j : Nat) rfl Cd.out RL.out (Nat.le_trans S6.out Ba.out.size) ?_)
              intro v7 w7 q7 b7
              have ba := Ba.out
              have Q7 : Hid (Qu w7 B v7 (ints (a :: (rest ++ [j])))) := by
                have e : ints (a :: (rest ++ [j])) = ints (a :: rest) ++ [(j : Int)] := by simp [ints]
                unfold Hid
                rw [e]
                exact q7
              have K7 : Hid (Bk w7 b (l.set j (yv + m)) #[]) := (K6.out.below ba).low b7 Sb.out.1
              have X7 : Hid (Bl w7 w.heap.size (.slice (some x) n c) (.slice a2 n d)) := (X6.out.below ba X6.out.lt).below b7 Sb.out.2
              have B7 : Hid (Below w.heap.size w w7) := (B6.out.trans (ba.mono B6.out.size)).trans (b7.mono (Nat.le_of_lt Sb.out.2))
              have S7 : Hid (B ≤ w7.heap.size) := Nat.le_trans (Nat.le_trans S6.out ba.size) b7.size
              clear q7 b7 ba Ba Cd K6 Q6 X6 B6 S6 cx cy fz
              go_wp2
              go_round
              case rel => exact ⟨l.set j (yv + m), rest ++ [j], k + 1, by go_num, by omega, Q7, K7, HT.out.1, X7, B7, S7, by have := HT.out.2; have := ML.out; simp only [List.length_append, List.length_cons, List.length_nil]; omega⟩
              case measure => simp [intOf]; omega
            · have h2' : decide (xv < 0) = false := decide_eq_false h2
              by_cases h3 : yv + m < xv
              · have HS := Wi.out.set E0.out Hj.out hxv hyv (by rw [HD.out]; exact h1) (.inr (by rw [HD.out]; omega))
                rw [HD.out, Int.add_comm m yv] at HS
                have HT : Hid (Wy.Wi nb st t n (l.set j (yv + m)) a (rest ++ [j]) (k + 1) ∧ left (2 * n + 1) (l.set j (yv + m)) < left (2 * n + 1) l) := HS
                clear HS HD
                go_wp2
                go_quiet (fail)
                have kq : Below w'.heap.size w' (w'.drewN nq) := below_drewN (Below.refl _ _) _
                have K5 : Hid (Bk (w'.drewN nq) b l #[]) := Kb.out.below kq
                have Q5 : Hid (Qu (w'.drewN nq) B u8 (ints (a :: rest))) := Q.out.below kq
                have X5 : Hid (Bl (w'.drewN nq) w.heap.size (.slice (some x) n c) (.slice a2 n d)) := X.out.below kq X.out.lt
                have B5 : Hid (Below w.heap.size w (w'.drewN nq)) := Bw'.out.trans (kq.mono Bw'.out.size)
                have S5 : Hid (B ≤ (w'.drewN nq).heap.size) := Nat.le_trans Sz'.out kq.size
                generalize w'.drewN nq = w5 at *
                clear Kb Q X Bw' Sz' kq cx cy fz cj
                have cx := K5.out.cell hxv
                have cy := K5.out.cell hyv
                have fz := K5.out.thaw j
                have k6 := Kp.set (z := b) w5 j (.int .i64 (yv + m))
                have K6 : Hid (Bk (w5.setCell ⟨b, j, none⟩ (.int .i64 (yv + m))) b (l.set j (yv + m)) #[]) := K5.out.set j (yv + m) (List.getElem?_eq_some_iff.1 hxv).1
                have Q6 : Hid (Qu (w5.setCell ⟨b, j, none⟩ (.int .i64 (yv + m))) B u8 (ints (a :: rest))) := Q5.out.kp k6 bB.out
                have X6 : Hid (Bl (w5.setCell ⟨b, j, none⟩ (.int .i64 (yv + m))) w.heap.size (.slice (some x) n c) (.slice a2 n d)) := X5.out.kp k6 (by have := bz.out; omega)
                have B6 : Hid (Below w.heap.size w (w5.setCell ⟨b, j, none⟩ (.int .i64 (yv + m)))) := k6.below B5.out B5.out.size (by have := bz.out; omega)
                have S6 : Hid (B ≤ (w5.setCell ⟨b, j, none⟩ (.int .i64 (yv + m))).heap.size) := Nat.le_trans S5.out k6.size
                clear k6 K5 Q5 X5 B5 S5 hxv hyv
                have RL : Hid ((ints (a :: rest)).length ≤ 1000000) := by
                  unfold Hid
                  rw [ints_len]
                  simp only [List.length_cons]
                  have := ML.out
                  omega
                have Sb : Hid (b < B ∧ w.heap.size < B) := by
                  have := bz.out
                  have := bB.out
                  exact ⟨by omega, by omega⟩
                have Ba : Hid (Below (w5.setCell ⟨b, j, none⟩ (.int .i64 (yv + m))).heap.size (w5.setCell ⟨b, j, none⟩ (.int .i64 (yv + m))) ((w5.setCell ⟨b, j, none⟩ (.int .i64 (yv + m))).alloc (Obj.cells #[.int .i64 (j : Nat)] 3))) := (Below.refl _ _).alloc (Nat.le_refl _) _
                have Cd : Hid (((w5.setCell ⟨b, j, none⟩ (.int .i64 (yv + m))).alloc (Obj.cells #[.int .i64 (j : Nat)] 3)).cell? ⟨w5.heap.size, 0, none⟩ = some (.int .i64 (j : Nat))) := cell_new (w := w5.setCell ⟨b, j, none⟩ (.int .i64 (yv + m))) _ (World.size_setCell _ _ _)
                go_wp2_with (at_builtin; refine app_q _ rfl _ _ rfl B _ (ints (a :: rest)) rfl (Q6.out.below Ba.out) ⟨w5.heap.size, 0, none⟩ (j : Nat) rfl Cd.out RL.out (Nat.le_trans S6.out Ba.out.size) ?_)
                intro v7 w7 q7 b7
                have ba := Ba.out
                have Q7 : Hid (Qu w7 B v7 (ints (a :: (rest ++ [j])))) := by
                  have e : ints (a :: (rest ++ [j])) = ints (a :: rest) ++ [(j : Int)] := by simp [ints]
                  unfold Hid
                  rw [e]
                  exact q7
                have K7 : Hid (Bk w7 b (l.set j (yv + m)) #[]) := (K6.out.below ba).low b7 Sb.out.1
                have X7 : Hid (Bl w7 w.heap.size (.slice (some x) n c) (.slice a2 n d)) := (X6.out.below ba X6.out.lt).below b7 Sb.out.2
                have B7 : Hid (Below w.heap.size w w7) := (B6.out.trans (ba.mono B6.out.size)).trans (b7.mono (Nat.le_of_lt Sb.out.2))
                have S7 : Hid (B ≤ w7.heap.size) := Nat.le_trans (Nat.le_trans S6.out ba.size) b7.size
                clear q7 b7 ba Ba Cd K6 Q6 X6 B6 S6 cx cy fz
                go_wp2
                go_round
                case rel => exact ⟨l.set j (yv + m), rest ++ [j], k + 1, by go_num, by omega, Q7, K7, HT.out.1, X7, B7, S7, by have := HT.out.2; have := ML.out; simp only [List.length_append, List.length_cons, List.length_nil]; omega⟩
                case measure => simp [intOf]; omega
              · have h3' : decide (yv + m < xv) = false := decide_eq_false h3
                have HS : Hid (Wy.Wi nb st t n l a rest (k + 1)) := Wi.out.skip Hj.out hxv hyv (fun h => by rw [HD.out]; omega)
                clear HD
                go_wp2
                go_quiet (fail)
                have kq : Below w'.heap.size w' (w'.drewN nq) := below_drewN (Below.refl _ _) _
                have Q5 : Hid (Qu (w'.drewN nq) B u8 (ints (a :: rest))) := Q.out.below kq
                have K5 : Hid (Bk (w'.drewN nq) b l #[]) := Kb.out.below kq
                have X5 : Hid (Bl (w'.drewN nq) w.heap.size (.slice (some x) n c) (.slice a2 n d)) := X.out.below kq X.out.lt
                have B5 : Hid (Below w.heap.size w (w'.drewN nq)) := Bw'.out.trans (kq.mono Bw'.out.size)
                have S5 : Hid (B ≤ (w'.drewN nq).heap.size) := Nat.le_trans Sz'.out kq.size
                generalize w'.drewN nq = w5 at *
                clear Kb Q X Bw' Sz' kq cx cy fz cj
                go_wp2
                go_round
                case rel => exact ⟨l, rest, k + 1, by go_num, by omega, Q5, K5, HS, X5, B5, S5, ML⟩
                case measure => simp [intOf]; omega
          · have h1' : decide (0 < m) = false := decide_eq_false h1
            have HS : Hid (Wy.Wi nb st t n l a rest (k + 1)) := Wi.out.skip Hj.out hxv hyv (fun h => absurd (by rw [HD.out] at h; exact h) h1)
            clear HD
            go_wp2
            go_quiet (fail)
            have kq : Below w'.heap.size w' (w'.drewN nq) := below_drewN (Below.refl _ _) _
            have Q5 : Hid (Qu (w'.drewN nq) B u8 (ints (a :: rest))) := Q.out.below kq
            have K5 : Hid (Bk (w'.drewN nq) b l #[]) := Kb.out.below kq
            have X5 : Hid (Bl (w'.drewN nq) w.heap.size (.slice (some x) n c) (.slice a2 n d)) := X.out.below kq X.out.lt
            have B5 : Hid (Below w.heap.size w (w'.drewN nq)) := Bw'.out.trans (kq.mono Bw'.out.size)
            have S5 : Hid (B ≤ (w'.drewN nq).heap.size) := Nat.le_trans Sz'.out kq.size
            generalize w'.drewN nq = w5 at *
            clear Kb Q X Bw' Sz' kq cx cy fz cj
            go_wp2
            go_round
            case rel => exact ⟨l, rest, k + 1, by go_num, by omega, Q5, K5, HS, X5, B5, S5, ML⟩
            case measure => simp [intOf]; omega
end Go.Proofs.YtogdaegnpoknlaaDoor
