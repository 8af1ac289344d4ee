/- The reference: the next cell on a way. -/
import Derived.Test.YtogdaegnpoknlaaDoorRfT
namespace Go.Proofs.YtogdaegnpoknlaaDoor
open Go.RowKit Wy
set_option linter.unusedVariables false

theorem get_at {l : List Int} {i n : Nat} (hl : l.length = n) (h : i < n) : l[i]? = some (l.getD i 0) := by rw [List.getD_eq_getElem?_getD, List.getElem?_eq_getElem (by omega)]; rfl
theorem nx_none {nb : Nat → List Int} {ss l : List Int} {t n i : Nat} (E : Even nb (fun _ j => ss.getD j 0) n) (h : IsFar nb (fun _ j => ss.getD j 0) t n l) (hi : i < n) (h0 : 0 ≤ l.getD i 0) (hn : (nb i).any (pn ss l i) = false) : Nxt nb ss l t i i := by
  by_cases e : i = t
  · exact .inl ⟨e, rfl⟩
  · obtain ⟨x, hx, hp⟩ := has_next E h hi h0 e
    rw [List.any_eq_false] at hn
    exact absurd hp (hn x hx)
theorem nx_some {nb : Nat → List Int} {ss l : List Int} {t n i j k : Nat} (h : IsFar nb (fun _ j => ss.getD j 0) t n l) (ht : t < n) (hk : (nb i)[k]? = some (j : Int)) (hp : pn ss l i j = true) (hn : ((nb i).take k).any (pn ss l i) = false) : Nxt nb ss l t i j := by
  refine .inr ⟨?_, k, hk, hp, hn⟩
  rintro rfl
  have h1 := pn_true hp
  rw [getD_of (h.here ht)] at h1
  omega

set_option maxRecDepth 100000 in
set_option maxHeartbeats 4000000 in
theorem ref_next (v uf : Value) (W H : Nat) (gs os l : List Int) (i t : Nat) (fl : Bool) (w : World) (h : Fl w v W H gs os) (G : Fd.Good W H gs os) (hi : i < W * H) (E : Even (Fd.near W H) (fun _ j => (gs.map fun g => Fd.onto g fl).getD j 0) (W * H)) (hf : Ro w uf l) (hl : IsFar (Fd.near W H) (fun _ j => (gs.map fun g => Fd.onto g fl).getD j 0) t (W * H) l) (hfl : ∀ j, l.getD j 0 ≤ 288) (hd : 0 ≤ l.getD i 0) (ht : t < W * H) :
    Calls Tryd.prog 11 #[v, uf, .int .i64 (i : Nat), .bool fl] w fun e w' => ∃ j : Nat, e = .returned (.int .i64 (j : Nat)) ∧ Nxt (Fd.near W H) (gs.map fun g => Fd.onto g fl) l t i j ∧ Below w.heap.size w w' := by
  have F0 : Hid (Fl w v W H gs os) := h
  have G0 : Hid (Fd.Good W H gs os) := G
  obtain ⟨u1, u2, rfl, ⟨a1, c, rfl, c1, c2, ca⟩, ⟨b1, d, rfl, d1, d2, cb⟩⟩ := h
  obtain ⟨n, hn⟩ : ∃ n, W * H = n := ⟨_, rfl⟩
  have Hn : Hid (W * H = n) := hn
  have gl : gs.length = n := by rw [← hn]; exact G.gl
  have Gl : Hid (gs.length = n) := gl
  have n1 : n ≤ 144 := by rw [← hn]; exact G.pos.2
  obtain ⟨ss, hss⟩ : ∃ ss, (gs.map fun g => Fd.onto g fl) = ss := ⟨_, rfl⟩
  have Hss : Hid ((gs.map fun g => Fd.onto g fl) = ss) := hss
  rw [hn] at hi E hl ht
  rw [hss] at E hl
  rw [hss]
  have E0 : Hid (Even (Fd.near W H) (fun _ j => ss.getD j 0) n) := E
  have HL : Hid (IsFar (Fd.near W H) (fun _ j => ss.getD j 0) t n l) := hl
  have LB : Hid (∀ j, l.getD j 0 ≤ 288) := hfl
  have D0 : Hid (0 ≤ l.getD i 0) := hd
  have T0 : Hid (t < n) := ht
  have ll : l.length = n := hl.1
  have R0 : Hid (Ro w uf l) := hf
  obtain ⟨af, cf, rfl, f1, f2, cfa⟩ := hf
  obtain ⟨yf, rfl, -, -⟩ := cfa (by intro e; rw [e] at ll; simp at ll; omega)
  rw [ll] at f1 R0 ⊢
  rw [gl] at c1 ⊢
  have Ll : Hid (l.length = n) := ll
  clear ca cb G hn hss gl E hl hfl hd ht cfa ll
  have b0 : Hid (Below w.heap.size w (w.alloc (Obj.cells #[.int .i64 W, .int .i64 H, .slice a1 n c, .slice b1 os.length d] 24))) := (Below.refl _ _).alloc (Nat.le_refl _) _
  have X0 : Hid (Bf (w.alloc (Obj.cells #[.int .i64 W, .int .i64 H, .slice a1 n c, .slice b1 os.length d] 24)) w.heap.size W H (.slice a1 n c) (.slice b1 os.length d)) := Bf.mk' _ _ _ _ rfl
  go_enter Tryd.func11, Tryd.ntmps11
  go_wp2_with fail
  have F1 : Fl (w.alloc (Obj.cells #[.int .i64 W, .int .i64 H, .slice a1 n c, .slice b1 os.length d] 24)) (.agg #[.int .i64 W, .int .i64 H, .slice a1 n c, .slice b1 os.length d]) W H gs os := by
    have := F0.out
    rw [Gl.out] at this
    exact this.below b0.out
  refine (ref_near_own _ W H gs os i _ F1 G0.out.w1 G0.out.w2 G0.out.h2 (by rw [Hn.out]; exact hi)).mono ?_
  rintro e w3 ⟨u, rfl, hu, hb3⟩
  have X3 : Hid (Bf w3 w.heap.size W H (.slice a1 n c) (.slice b1 os.length d)) := X0.out.below hb3 X0.out.lt
  have B3 : Hid (Below w.heap.size w w3) := b0.out.trans (hb3.mono b0.out.size)
  have U3 : Hid (Ro w3 u (Fd.near W H i)) := hu.ro
  obtain ⟨an, cn, rfl, e1, e2, -⟩ := hu.ro
  have L4 : (Fd.near W H i).length ≤ 4 := Fd.near_len W H i
  clear hu hb3 F1 b0 X0
  go_wp2_with fail
  go_loopw [10] (fun i' W' => ∃ q, i' = .int .i64 (q : Nat) ∧ q ≤ (Fd.near W H i).length ∧ ((Fd.near W H i).take q).any (pn ss l i) = false ∧ Bf W' w.heap.size W H (.slice a1 n c) (.slice b1 os.length d) ∧ Below w.heap.size w W' ∧ Ro W' (.slice an (Fd.near W H i).length cn) (Fd.near W H i)) (fun i' _ => (Fd.near W H i).length - (intOf i').toNat)
  case atStart => exact ⟨0, rfl, Nat.zero_le _, by simp, X3, B3, U3⟩
  case round =>
    clear X3 B3 U3
    obtain ⟨q, rfl, hq, hany, hx, hB, hu⟩ := hrel
    have X : Hid (Bf wr w.heap.size W H (.slice a1 n c) (.slice b1 os.length d)) := hx
    have B : Hid (Below w.heap.size w wr) := hB
    have U : Hid (Ro wr (.slice an (Fd.near W H i).length cn) (Fd.near W H i)) := hu
    have An : Hid (((Fd.near W H i).take q).any (pn ss l i) = false) := hany
    clear hx hB hu hany
    by_cases h2 : q = (Fd.near W H i).length
    · have NN : Hid (Nxt (Fd.near W H) ss l t i i) := nx_none E0.out HL.out hi D0.out (by have := An.out; rw [h2, List.take_of_length_le (Nat.le_refl _)] at this; exact this)
      subst h2
      clear An
      go_wp2
      go_ret
      exact ⟨i, rfl, NN, B⟩
    · have hql : q < (Fd.near W H i).length := by omega
      obtain ⟨j, hj, jn, -⟩ := E0.out.cell i _ hi (List.getElem_mem hql)
      have Hj : Hid ((Fd.near W H i)[q]? = some (j : Int)) := by unfold Hid; rw [List.getElem?_eq_getElem hql, hj]
      have As : Hid (((Fd.near W H i).take (q + 1)).any (pn ss l i) = (((Fd.near W H i).take q).any (pn ss l i) || pn ss l i j)) := by unfold Hid; rw [any_next hql, hj]
      clear hj
      obtain ⟨a4, c4, e4, -, -, ca⟩ := U.out
      injection e4 with e5 e6 e7
      subst e5
      obtain ⟨yn, rfl, hyl, hy⟩ := ca (by intro h; rw [h] at hql; simp at hql)
      have cj := hy q _ Hj.out
      have Yl : Hid (yn.block < wr.heap.size) := hyl
      clear hy e6 e7 ca hyl
      have hgl : j < gs.length := by rw [Gl.out]; exact jn
      obtain ⟨g, hg⟩ : ∃ g, gs[j]? = some g := ⟨_, List.getElem?_eq_getElem hgl⟩
      obtain ⟨o, ho⟩ : ∃ o, os[j]? = some o := ⟨_, List.getElem?_eq_getElem (by rw [G0.out.ol, Hn.out]; exact jn)⟩
      have hcl := G0.out.cell j g o hg ho
      obtain ⟨m, hm⟩ : ∃ m, ss.getD j 0 = m := ⟨_, rfl⟩
      have hon : Fd.onto g fl = m := by rw [← hm, ← Hss.out, List.getD_eq_getElem?_getD, List.getElem?_map, hg]; rfl
      have HD : Hid (ss.getD j 0 = m) := hm
      have l2 : m ≤ 2 := by rw [← hon]; have := E0.out.two i j; rw [← hm] at hon; rw [hon]; exact this
      have F1 : Fl wr (.agg #[.int .i64 W, .int .i64 H, .slice a1 n c, .slice b1 os.length d]) W H gs os := by
        have := F0.out.below B.out
        rw [Gl.out] at this
        exact this
      have CO : Hid (Calls Tryd.prog 19 #[.agg #[.int .i64 W, .int .i64 H, .slice a1 n c, .slice b1 os.length d], .int .i64 (j : Nat), .bool fl] wr.drew fun e w' => e = .returned (.int .i64 m) ∧ Below wr.heap.size wr w' ∧ w'.cell? ⟨w.heap.size, 0, none⟩ = some (.int .i64 W) ∧ w'.cell? ⟨w.heap.size, 1, none⟩ = some (.int .i64 H) ∧ w'.cell? ⟨w.heap.size, 2, none⟩ = some (.slice a1 n c) ∧ w'.cell? ⟨w.heap.size, 3, none⟩ = some (.slice b1 os.length d) ∧ w'.cell? (yn.add q) = some (.int .i64 (j : Nat))) := by
        refine (ref_onto _ W H gs os j g fl wr.drew (F1.below (Below.refl _ _).drew) (by rw [Gl.out]; exact n1) hg hcl.1 hcl.2.1).mono ?_
        rintro e w' ⟨h1, h2⟩
        have h4 : Below wr.heap.size wr w' := ((Below.refl _ _).drew).trans h2
        obtain ⟨y0, y1, y2, y3⟩ := X.out.below h4 X.out.lt
        exact ⟨by rw [h1, hon], h4, y0, y1, y2, y3, by rw [h4.cell (p := yn.add q) (by rw [add_block]; exact Yl.out)]; exact cj⟩
      obtain ⟨x0, x1, x2, x3⟩ := X.out
      clear hg ho hcl hon hm F1 hgl
      go_wp2_with fail
      go_region_held3 (fun w' => w'.cell? ⟨w.heap.size, 0, none⟩ = some (.int .i64 W) ∧ w'.cell? ⟨w.heap.size, 1, none⟩ = some (.int .i64 H) ∧ w'.cell? ⟨w.heap.size, 2, none⟩ = some (.slice a1 n c) ∧ w'.cell? ⟨w.heap.size, 3, none⟩ = some (.slice b1 os.length d) ∧ w'.cell? (yn.add q) = some (.int .i64 (j : Nat)))
        (go_keep)
        ((go_at_call 19; refine Calls.mono CO.out ?_; rintro e w6 ⟨rfl, k6, y0, y1, y2, y3, y4⟩))
      have X5 : Hid (Bf w6 w.heap.size W H (.slice a1 n c) (.slice b1 os.length d)) := X.out.below k6 X.out.lt
      have B5 : Hid (Below w.heap.size w w6) := B.out.trans (k6.mono B.out.size)
      have U5 : Hid (Ro w6 (.slice (some yn) (Fd.near W H i).length cn) (Fd.near W H i)) := U.out.below k6
      obtain ⟨a5, c5, e5, -, -, ca⟩ := R0.out.below B5.out
      injection e5 with e5 e6 e7
      subst e5
      obtain ⟨yy, hyy, -, hy⟩ := ca (by intro h; have := Ll.out; rw [h] at this; simp at this; omega)
      injection hyy with hyy
      subst hyy
      have cd := hy j _ (get_at Ll.out jn)
      have ce := hy i _ (get_at Ll.out hi)
      have P : Hid (pn ss l i j = (decide (0 < m) && (decide (0 ≤ l.getD j 0) && decide (m + l.getD j 0 = l.getD i 0)))) := by unfold Hid pn; rw [Int.toNat_natCast, HD.out]
      have yb := LB.out j
      clear X B U k6 CO Yl x0 x1 x2 x3 y0 y1 y2 y3 hy ca e6 e7 HD
      generalize l.getD j 0 = yv at *
      generalize l.getD i 0 = xv at *
      by_cases h1 : 0 < m
      · by_cases h2 : 0 ≤ yv
        · by_cases h3 : m + yv = xv
          · have NN : Hid (Nxt (Fd.near W H) ss l t i j) := nx_some HL.out T0.out Hj.out (by rw [P.out, decide_eq_true h1, decide_eq_true h2, decide_eq_true h3]; rfl) An.out
            clear P As
            go_wp2
            go_ret
            exact ⟨j, rfl, NN, B5⟩
          · have h3' : (m + yv == xv) = false := by simpa using h3
            have A' : Hid (((Fd.near W H i).take (q + 1)).any (pn ss l i) = false) := by
              unfold Hid
              rw [As.out, An.out, P.out, decide_eq_true h1, decide_eq_true h2, decide_eq_false h3]
              rfl
            clear P As An
            go_wp2
            go_round
            case rel => exact ⟨q + 1, by go_num, by omega, A', X5, B5, U5⟩
            case measure => simp [intOf]; omega
        · have h2x := h2
          have A' : Hid (((Fd.near W H i).take (q + 1)).any (pn ss l i) = false) := by
            unfold Hid
            rw [As.out, An.out, P.out, decide_eq_true h1, decide_eq_false h2]
            rfl
          clear P As An
          go_wp2
          go_round
          case rel => exact ⟨q + 1, by go_num, by omega, A', X5, B5, U5⟩
          case measure => simp [intOf]; omega
      · have h1x := h1
        have A' : Hid (((Fd.near W H i).take (q + 1)).any (pn ss l i) = false) := by
          unfold Hid
          rw [As.out, An.out, P.out, decide_eq_false h1]
          rfl
        clear P As An
        go_wp2
        go_round
        case rel => exact ⟨q + 1, by go_num, by omega, A', X5, B5, U5⟩
        case measure => simp [intOf]; omega
end Go.Proofs.YtogdaegnpoknlaaDoor
