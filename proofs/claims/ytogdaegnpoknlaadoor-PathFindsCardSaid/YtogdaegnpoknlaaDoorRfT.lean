/- The reference: how far it is from each cell to one. -/
import Derived.Test.YtogdaegnpoknlaaDoorRfN
import Derived.Test.YtogdaegnpoknlaaDoorBk
import Derived.Test.YtogdaegnpoknlaaDoorFdPass
import Derived.Test.YtogdaegnpoknlaaDoorPwM
import Derived.Deep.RegionHeld3
namespace Go.Proofs.YtogdaegnpoknlaaDoor
open Go.RowKit Wy
set_option linter.unusedVariables false

/-- what is left, as memory has it. -/
def mleft (w : World) (b M : Nat) : Nat := match w.heap[b]? with
  | some (.cells cs _ _) => left M (cs.toList.map intOf)
  | _ => 0
theorem Bk.mleft {w : World} {b : Nat} {l : List Int} (h : Bk w b l #[]) (M : Nat) : mleft w b M = Wy.left M l := by
  unfold Bk at h
  unfold Go.Proofs.YtogdaegnpoknlaaDoor.mleft
  rw [h]
  simp [intCells, intOf, Function.comp_def]
def one : Value → Nat
  | .bool true => 1
  | _ => 0
theorem one_le (b : Bool) : 0 ≤ one (.bool b) := Nat.zero_le _
theorem Ow.kp {w w' : World} {base z : Nat} {v : Value} {xs : List Int} (h : Ow w base v xs) (hk : Kp z w w') (hz : z < base) : Ow w' base v xs := by
  have hg : w.grownBy w' (some z) := ⟨hk.os, hk.tape, hk.output, hk.size, fun k h1 h2 => hk.block k h1 (fun e => h2 (by rw [e]))⟩
  refine h.kept hg ?_
  cases hb : v.ownBlock with
  | none => exact .inl rfl
  | some k =>
    have := (h.block k hb).1
    exact .inr (by simp; omega)
theorem Bf.kp {w w' : World} {z b : Nat} {W H : Int} {u1 u2 : Value} (h : Bf w z W H u1 u2) (hk : Kp b w w') (hz : z ≠ b) : Bf w' z W H u1 u2 := by
  have e := hk.block z h.lt hz
  exact ⟨by rw [World.cell?_of_block (w := w) (a := ⟨z, 0, none⟩) e]; exact h.c0, by rw [World.cell?_of_block (w := w) (a := ⟨z, 1, none⟩) e]; exact h.c1, by rw [World.cell?_of_block (w := w) (a := ⟨z, 2, none⟩) e]; exact h.c2, by rw [World.cell?_of_block (w := w) (a := ⟨z, 3, none⟩) e]; exact h.c3⟩

/-- a list of zeros, of which the first k have been made -1. -/
theorem fill_set (n k : Nat) (h : k < n) : (List.replicate k (-1 : Int) ++ List.replicate (n - k) 0).set k (-1) = List.replicate (k + 1) (-1) ++ List.replicate (n - (k + 1)) 0 := by
  rw [List.set_append, if_neg (by simp), List.length_replicate, Nat.sub_self]
  obtain ⟨m, hm⟩ : ∃ m, n - k = m + 1 := ⟨n - k - 1, by omega⟩
  rw [hm, List.replicate_succ, List.set_cons_zero, List.replicate_succ', show n - (k + 1) = m by omega]
  simp

/-- what To says. -/
def ToSays (W H : Nat) (ss : List Int) (t n : Nat) (w : World) (e : Ending) (w' : World) : Prop := ∃ b l, e = .returned (.slice (some ⟨b, 0, none⟩) n n) ∧ w.heap.size ≤ b ∧ Bk w' b l #[] ∧ (IsFar (Fd.near W H) (fun _ j => ss.getD j 0) t n l ∧ Flat l) ∧ Below w.heap.size w w'
theorem ToSays.of {W H : Nat} {ss : List Int} {t n : Nat} {w : World} {e : Ending} {w' : World} (h : ∃ b l, e = .returned (.slice (some ⟨b, 0, none⟩) n n) ∧ w.heap.size ≤ b ∧ Bk w' b l #[] ∧ (IsFar (Fd.near W H) (fun _ j => ss.getD j 0) t n l ∧ Flat l) ∧ Below w.heap.size w w') : ToSays W H ss t n w e w' := h

set_option maxRecDepth 100000 in
set_option maxHeartbeats 4000000 in
theorem ref_to (v : Value) (W H : Nat) (gs os : List Int) (t : Nat) (fl : Bool) (w : World) (h : Fl w v W H gs os) (G : Fd.Good W H gs os) (ht : t < W * H) (E : Even (Fd.near W H) (fun _ j => (gs.map fun g => Fd.onto g fl).getD j 0) (W * H)) :
    Calls Tryd.prog 7 #[v, .int .i64 (t : Nat), .bool fl] w fun e w' => ToSays W H (gs.map fun g => Fd.onto g fl) t (W * H) w e w' := by
  have F0 : Hid (Fl w v W H gs os) := h
  have G0 : Hid (Fd.Good W H gs os) := G
  obtain ⟨u1, u2, rfl, ⟨a1, c, rfl, c1, c2, ca⟩, ⟨b1, d, rfl, d1, d2, cb⟩⟩ := h
  obtain ⟨n, hn⟩ : ∃ n, W * H = n := ⟨_, rfl⟩
  have Hn : Hid (W * H = n) := hn
  have gl : gs.length = n := by rw [← hn]; exact G.gl
  have Gl : Hid (gs.length = n) := gl
  have n0 : 0 < n := by rw [← hn]; have := G.pos; omega
  have n1 : n ≤ 144 := by rw [← hn]; exact G.pos.2
  obtain ⟨ss, hss⟩ : ∃ ss, (gs.map fun g => Fd.onto g fl) = ss := ⟨_, rfl⟩
  have Hss : Hid ((gs.map fun g => Fd.onto g fl) = ss) := hss
  have Sl : Hid (ss.length = n) := by unfold Hid; rw [← hss, List.length_map]; exact gl
  rw [hn] at ht E
  rw [hss] at E
  rw [hn, hss]
  have E0 : Hid (Even (Fd.near W H) (fun _ j => ss.getD j 0) n) := E
  rw [gl] at c1 ⊢
  clear ca cb G hn hss gl E
  generalize hw0 : w.alloc (Obj.cells #[.int .i64 W, .int .i64 H, .slice a1 n c, .slice b1 os.length d] 24) = w0
  have B0 : Hid (Below w.heap.size w w0) := by rw [← hw0]; exact (Below.refl _ _).alloc (Nat.le_refl _) _
  have X0 : Hid (Bf w0 w.heap.size W H (.slice a1 n c) (.slice b1 os.length d)) := by rw [← hw0]; exact Bf.mk' _ _ _ _ rfl
  have Hw : Hid (w.alloc (Obj.cells #[.int .i64 W, .int .i64 H, .slice a1 n c, .slice b1 os.length d] 24) = w0) := hw0
  clear hw0
  go_enter Tryd.func7, Tryd.ntmps7
  go_wp2_with (at_make; rw [Hw.out]; obtain ⟨i0, hi, hz0, hz1, hz2⟩ := info_parts info_int; refine wpList_make_full _ rfl _ _ 22 rfl w0.heap.size 3 i0 (.int .i64 0) 1 Tryd.underlying22 hi hz0 hz1 _ _ _ _ n rfl rfl rfl rfl (by rw [hz2]; omega) (by unfold maxLen; omega) (Nat.le_refl _) ?_)
  intro w1 o1 g1
  clear hi hz0 hz1 hz2
  have K1 : Hid (Bk w1 w0.heap.size (List.replicate n 0) #[]) := by
    rcases o1.2 with ⟨h, _⟩ | ⟨g, cap, cur, hv, hb, hg, h1, h2, h3, h4⟩
    · cases h
    · cases hv
      unfold Hid Bk
      rw [hg]
      congr 1
      have e : cur.toList = List.replicate n (Value.int .i64 0) := by
        have := toList_madeCells_one (.int .i64 0) n
        rw [List.take_of_length_le (by simp; omega)] at h4
        rw [h4]
        exact this
      have e' : cur = (List.replicate n (Value.int .i64 0)).toArray := by rw [← e]
      rw [e']
      simp [intCells]
  have b01 : Below w0.heap.size w0 w1 := (Below.refl _ _).grown g1 (Nat.le_refl _) (fun k hk => by cases hk)
  have X1 : Hid (Bf w1 w.heap.size W H (.slice a1 n c) (.slice b1 os.length d)) := X0.out.below b01 X0.out.lt
  have B1 : Hid (Below w.heap.size w w1) := B0.out.trans (b01.mono B0.out.size)
  have Zb : Hid (w.heap.size < w0.heap.size) := X0.out.lt
  clear o1 g1 b01 X0 B0 Hw
  obtain ⟨b, hb⟩ : ∃ b, w0.heap.size = b := ⟨_, rfl⟩
  rw [hb] at K1 Zb ⊢
  clear hb
  go_wp2
  go_loopw [9] (fun i W' => ∃ k : Nat, k ≤ n ∧ i = .int .i64 (k : Nat) ∧ Bk W' b (List.replicate k (-1) ++ List.replicate (n - k) 0) #[] ∧ Bf W' w.heap.size W H (.slice a1 n c) (.slice b1 os.length d) ∧ Below w.heap.size w W') (fun i _ => n - (intOf i).toNat)
  case atStart => exact ⟨0, Nat.zero_le _, rfl, K1, X1, B1⟩
  case round =>
    obtain ⟨k, hk, rfl, hkb, hx, hB⟩ := hrel
    clear K1 X1 B1
    have Kb : Hid (Bk wr b (List.replicate k (-1) ++ List.replicate (n - k) 0) #[]) := hkb
    have X : Hid (Bf wr w.heap.size W H (.slice a1 n c) (.slice b1 os.length d)) := hx
    have B : Hid (Below w.heap.size w wr) := hB
    clear hx hB
    by_cases h0 : k = n
    · have K2 : Hid (Bk (wr.setCell ⟨b, t, none⟩ (.int .i64 0)) b ((List.replicate n (-1)).set t 0) #[]) := by
        have := Kb.out
        rw [h0, Nat.sub_self, List.replicate_zero, List.append_nil] at this
        exact this.set t 0 (by simp; exact ht)
      have ct : wr.cell? ⟨b, t, none⟩ = some (.int .i64 (-1)) := by
        rw [h0, Nat.sub_self, List.replicate_zero, List.append_nil] at hkb
        exact hkb.cell (by rw [List.getElem?_replicate, if_pos ht])
      have ft := hkb.thaw t
      have k12 := Kp.set (z := b) wr t (.int .i64 0)
      have X2 : Hid (Bf (wr.setCell ⟨b, t, none⟩ (.int .i64 0)) w.heap.size W H (.slice a1 n c) (.slice b1 os.length d)) := X.out.kp k12 (by have := Zb.out; omega)
      have B2 : Hid (Below w.heap.size w (wr.setCell ⟨b, t, none⟩ (.int .i64 0))) := k12.below B.out B.out.size (by have := Zb.out; omega)
      subst h0
      clear k12 Kb X B hkb
      go_wp2_with fail
      generalize wr.setCell ⟨b, t, none⟩ (.int .i64 0) = w2 at *
      clear ct ft
      go_loopw [10] (fun m W' => ∃ l mb, m = .bool mb ∧ Bk W' b l #[] ∧ Rt (Fd.near W H) (fun _ j => ss.getD j 0) t k l ∧ (mb = false → Fine (Fd.near W H) (fun _ j => ss.getD j 0) l k 0) ∧ Bf W' w.heap.size W H (.slice a1 k c) (.slice b1 os.length d) ∧ Below w.heap.size w W') (fun m W' => mleft W' b (2 * k + 1) + one m)
      case atStart => exact ⟨_, true, rfl, K2, Rt.start ht, fun h => (by cases h), X2, B2⟩
      case round =>
        obtain ⟨l, mb, rfl, hkb, hrt, hfn, hx, hB⟩ := hrel
        clear K2 X2 B2
        have Kb : Hid (Bk wr b l #[]) := hkb
        have R : Hid (Rt (Fd.near W H) (fun _ j => ss.getD j 0) t k l) := hrt
        have X : Hid (Bf wr w.heap.size W H (.slice a1 k c) (.slice b1 os.length d)) := hx
        have B : Hid (Below w.heap.size w wr) := hB
        have Fn : Hid (mb = false → Fine (Fd.near W H) (fun _ j => ss.getD j 0) l k 0) := hfn
        clear hkb hrt hx hB hfn
        cases mb with
        | false =>
          have FN : Hid (Fine (Fd.near W H) (fun _ j => ss.getD j 0) l k 0) := Fn.out rfl
          clear Fn
          go_wp2
          go_ret
          exact ToSays.of ⟨b, l, rfl, by have := Zb.out; omega, Kb, ⟨R.out.far E0.out FN.out, R.out.flat⟩, B⟩
        | true =>
          obtain ⟨m0, hm0⟩ : ∃ m0, mleft wr b (2 * k + 1) + one (.bool true) = m0 := ⟨_, rfl⟩
          have M0 : Hid (mleft wr b (2 * k + 1) + one (.bool true) = m0) := hm0
          have ML : Hid (left (2 * k + 1) l + 1 ≤ m0) := by
            unfold Hid
            rw [← hm0, Kb.out.mleft]
            exact Nat.le_refl _
          clear hm0 Fn
          go_wp2_with fail
          go_loopw [10, 11] (fun m i W' => ∃ l mb j, m = .bool mb ∧ i = .int .i64 (j : Nat) ∧ j ≤ k ∧ Bk W' b l #[] ∧ Rt (Fd.near W H) (fun _ j => ss.getD j 0) t k l ∧ (mb = false → Fine (Fd.near W H) (fun _ j => ss.getD j 0) l j 0) ∧ Bf W' w.heap.size W H (.slice a1 k c) (.slice b1 os.length d) ∧ Below w.heap.size w W' ∧ left (2 * k + 1) l + one (.bool mb) < m0) (fun _ i _ => k - (intOf i).toNat)
          case atStart => exact ⟨l, false, 0, rfl, rfl, Nat.zero_le _, Kb, R, fun _ => Fine.start l, X, B, by have := ML.out; show left (2 * k + 1) l + 0 < m0; omega⟩
          case round =>
            clear Kb R X B ML
            obtain ⟨l, mb, i, rfl, rfl, hi, hkb, hrt, hfn, hx, hB, hml⟩ := hrel
            have Kb : Hid (Bk wr b l #[]) := hkb
            have R : Hid (Rt (Fd.near W H) (fun _ j => ss.getD j 0) t k l) := hrt
            have X : Hid (Bf wr w.heap.size W H (.slice a1 k c) (.slice b1 os.length d)) := hx
            have B : Hid (Below w.heap.size w wr) := hB
            have Fn : Hid (mb = false → Fine (Fd.near W H) (fun _ j => ss.getD j 0) l i 0) := hfn
            have ML : Hid (left (2 * k + 1) l + one (.bool mb) < m0) := hml
            clear hkb hrt hx hB hfn hml
            by_cases h1 : i = k
            · have Fn' : Hid (mb = false → Fine (Fd.near W H) (fun _ j => ss.getD j 0) l k 0) := by rw [← h1]; exact Fn
              subst h1
              clear Fn
              go_wp2
              go_round
              case rel => exact ⟨l, mb, rfl, Kb, R, Fn', X, B⟩
              case measure =>
                rw [Kb.out.mleft]
                exact Nat.lt_of_lt_of_eq ML.out M0.out.symm
            · have hik : i < k := by omega
              have F1 : Hid (Fl wr (.agg #[.int .i64 W, .int .i64 H, .slice a1 k c, .slice b1 os.length d]) W H gs os) := by
                have := F0.out.below B.out
                rw [Gl.out] at this
                exact this
              obtain ⟨x0, x1, x2, x3⟩ := X.out
              have bwr : Hid (b < wr.heap.size) := Kb.out.lt
              go_wp2_with fail
              refine (ref_near_own _ W H gs os i _ F1.out G0.out.w1 G0.out.w2 G0.out.h2 (by rw [Hn.out]; exact hik)).mono ?_
              rintro e w3 ⟨u, rfl, hu, hb3⟩
              have K3 : Hid (Bk w3 b l #[]) := Kb.out.below hb3
              have X3 : Hid (Bf w3 w.heap.size W H (.slice a1 k c) (.slice b1 os.length d)) := X.out.below hb3 X.out.lt
              have B3 : Hid (Below w.heap.size w w3) := B.out.trans (hb3.mono B.out.size)
              obtain ⟨z3, hz3⟩ : ∃ z3, wr.heap.size = z3 := ⟨_, rfl⟩
              rw [hz3] at hu bwr
              have bz3 : Hid (b < z3) := bwr
              have U3 : Hid (Ow w3 z3 u (Fd.near W H i)) := hu
              obtain ⟨an, cn, rfl, e1, e2, -⟩ := hu.ro
              have Fn3 : Hid (mb = false → Fine (Fd.near W H) (fun _ j => ss.getD j 0) l i 0) := Fn
              have L4 : (Fd.near W H i).length ≤ 4 := Fd.near_len W H i
              clear hu hb3 hz3 bwr Kb X B Fn F1 x0 x1 x2 x3
              go_wp2_with fail
              go_loopw [10, 13] (fun m i' W' => ∃ l mb q, m = .bool mb ∧ i' = .int .i64 (q : Nat) ∧ q ≤ (Fd.near W H i).length ∧ Bk W' b l #[] ∧ Rt (Fd.near W H) (fun _ j => ss.getD j 0) t k l ∧ (mb = false → Fine (Fd.near W H) (fun _ j => ss.getD j 0) l i q) ∧ Bf W' w.heap.size W H (.slice a1 k c) (.slice b1 os.length d) ∧ Below w.heap.size w W' ∧ left (2 * k + 1) l + one (.bool mb) < m0 ∧ Ow W' z3 (.slice an (Fd.near W H i).length cn) (Fd.near W H i)) (fun _ i' _ => (Fd.near W H i).length - (intOf i').toNat)
              case atStart => exact ⟨l, mb, 0, rfl, rfl, Nat.zero_le _, K3, R, Fn3, X3, B3, ML, U3⟩
              case round =>
                clear K3 R Fn3 X3 B3 ML U3
                obtain ⟨l, mb, q, rfl, rfl, hq, hkb, hrt, hfn, hx, hB, hml, hu⟩ := hrel
                have Kb : Hid (Bk wr b l #[]) := hkb
                have R : Hid (Rt (Fd.near W H) (fun _ j => ss.getD j 0) t k l) := hrt
                have X : Hid (Bf wr w.heap.size W H (.slice a1 k c) (.slice b1 os.length d)) := hx
                have B : Hid (Below w.heap.size w wr) := hB
                have Fn : Hid (mb = false → Fine (Fd.near W H) (fun _ j => ss.getD j 0) l i q) := hfn
                have ML : Hid (left (2 * k + 1) l + one (.bool mb) < m0) := hml
                have U : Hid (Ow wr z3 (.slice an (Fd.near W H i).length cn) (Fd.near W H i)) := hu
                clear hkb hrt hx hB hfn hml hu
                by_cases h2 : q = (Fd.near W H i).length
                · have Fn' : Hid (mb = false → Fine (Fd.near W H) (fun _ j => ss.getD j 0) l (i + 1) 0) := fun h => (by rw [← h2]; exact Fn.out h : Fine (Fd.near W H) (fun _ j => ss.getD j 0) l i (Fd.near W H i).length).next
                  subst h2
                  clear Fn
                  go_wp2
                  go_round
                  case rel => exact ⟨l, mb, i + 1, rfl, by go_num, by omega, Kb, R, Fn', X, B, ML⟩
                  case measure => simp [intOf]; omega
                · have hql : q < (Fd.near W H i).length := by omega
                  obtain ⟨j, hj, jn, -⟩ := E0.out.cell i _ hik (List.getElem_mem hql)
                  have Hj : Hid ((Fd.near W H i)[q]? = some (j : Int)) := by unfold Hid; rw [List.getElem?_eq_getElem hql, hj]
                  clear hj
                  obtain ⟨a4, c4, e4, -, -, ca⟩ := U.out.ro
                  injection e4 with e5 e6 e7
                  subst e5
                  obtain ⟨yn, rfl, hyl, hy⟩ := ca (by intro h; rw [h] at hql; simp at hql)
                  have cj := hy q _ Hj.out
                  have Yl : Hid (yn.block < wr.heap.size) := hyl
                  clear hy e6 e7 ca hyl
                  have hgl : j < gs.length := by rw [Gl.out]; exact jn
                  obtain ⟨g, hg⟩ : ∃ g, gs[j]? = some g := ⟨_, List.getElem?_eq_getElem hgl⟩
                  obtain ⟨o, ho⟩ : ∃ o, os[j]? = some o := ⟨_, List.getElem?_eq_getElem (by rw [G0.out.ol, Hn.out]; exact jn)⟩
                  have hcl := G0.out.cell j g o hg ho
                  obtain ⟨m, hm⟩ : ∃ m, ss.getD j 0 = m := ⟨_, rfl⟩
                  have hon : Fd.onto g fl = m := by rw [← hm, ← Hss.out, List.getD_eq_getElem?_getD, List.getElem?_map, hg]; rfl
                  have HD : Hid (ss.getD j 0 = m) := hm
                  have l2 : m ≤ 2 := by rw [← hon]; have := E0.out.two i j; rw [← hm] at hon; rw [hon]; exact this
                  have F1 : Fl wr (.agg #[.int .i64 W, .int .i64 H, .slice a1 k c, .slice b1 os.length d]) W H gs os := by
                    have := F0.out.below B.out
                    rw [Gl.out] at this
                    exact this
                  have CO : Hid (Calls Tryd.prog 19 #[.agg #[.int .i64 W, .int .i64 H, .slice a1 k c, .slice b1 os.length d], .int .i64 (j : Nat), .bool fl] wr.drew fun e w' => e = .returned (.int .i64 m) ∧ Below wr.heap.size wr w' ∧ w'.cell? ⟨w.heap.size, 0, none⟩ = some (.int .i64 W) ∧ w'.cell? ⟨w.heap.size, 1, none⟩ = some (.int .i64 H) ∧ w'.cell? ⟨w.heap.size, 2, none⟩ = some (.slice a1 k c) ∧ w'.cell? ⟨w.heap.size, 3, none⟩ = some (.slice b1 os.length d) ∧ w'.cell? (yn.add q) = some (.int .i64 (j : Nat))) := by
                    refine (ref_onto _ W H gs os j g fl wr.drew (F1.below (Below.refl _ _).drew) (by rw [Gl.out]; exact n1) hg hcl.1 hcl.2.1).mono ?_
                    rintro e w' ⟨h1, h2⟩
                    have h4 : Below wr.heap.size wr w' := ((Below.refl _ _).drew).trans h2
                    obtain ⟨y0, y1, y2, y3⟩ := X.out.below h4 X.out.lt
                    exact ⟨by rw [h1, hon], h4, y0, y1, y2, y3, by rw [h4.cell (p := yn.add q) (by rw [add_block]; exact Yl.out)]; exact cj⟩
                  obtain ⟨x0, x1, x2, x3⟩ := X.out
                  clear hg ho hcl hon hm F1 hgl
                  go_wp2_with fail
                  go_region_held3 (fun w' => w'.cell? ⟨w.heap.size, 0, none⟩ = some (.int .i64 W) ∧ w'.cell? ⟨w.heap.size, 1, none⟩ = some (.int .i64 H) ∧ w'.cell? ⟨w.heap.size, 2, none⟩ = some (.slice a1 k c) ∧ w'.cell? ⟨w.heap.size, 3, none⟩ = some (.slice b1 os.length d) ∧ w'.cell? (yn.add q) = some (.int .i64 (j : Nat)))
                    (go_keep)
                    ((go_at_call 19; refine Calls.mono CO.out ?_; rintro e w6 ⟨rfl, k6, y0, y1, y2, y3, y4⟩))
                  have K5 : Hid (Bk w6 b l #[]) := Kb.out.below k6
                  have X5 : Hid (Bf w6 w.heap.size W H (.slice a1 k c) (.slice b1 os.length d)) := X.out.below k6 X.out.lt
                  have B5 : Hid (Below w.heap.size w w6) := B.out.trans (k6.mono B.out.size)
                  have U5 : Hid (Ow w6 z3 (.slice (some yn) (Fd.near W H i).length cn) (Fd.near W H i)) := U.out.below k6
                  clear Kb X B U k6 CO Yl x0 x1 x2 x3 y0 y1 y2 y3
                  have Kb : Hid (Bk w6 b l #[]) := K5
                  have X : Hid (Bf w6 w.heap.size W H (.slice a1 k c) (.slice b1 os.length d)) := X5
                  have B : Hid (Below w.heap.size w w6) := B5
                  have U : Hid (Ow w6 z3 (.slice (some yn) (Fd.near W H i).length cn) (Fd.near W H i)) := U5
                  clear K5 X5 B5 U5
                  have ll : l.length = k := R.out.len
                  obtain ⟨xv, hxv⟩ : ∃ xv, l[i]? = some xv := ⟨l[i]'(by rw [ll]; exact hik), List.getElem?_eq_getElem _⟩
                  obtain ⟨yv, hyv⟩ : ∃ yv, l[j]? = some yv := ⟨l[j]'(by rw [ll]; exact jn), List.getElem?_eq_getElem _⟩
                  have tl := told_le l
                  have fx := R.out.flat i xv hxv
                  have fy := R.out.flat j yv hyv
                  have xb : xv ≤ 288 := by omega
                  have yb : yv ≤ 288 := by omega
                  have cy := Kb.out.cell hyv
                  clear tl fx fy ll
                  by_cases h1 : 0 < m
                  · by_cases h2 : 0 ≤ yv
                    · by_cases h3 : xv < 0
                      · have h9 := h3
                        have HS := R.out.set E0.out (List.mem_of_getElem? Hj.out) hxv hyv (by rw [HD.out]; exact h1) h2 (.inl h3)
                        rw [HD.out] at HS
                        have HT : Hid (Rt (Fd.near W H) (fun _ j => ss.getD j 0) t k (l.set i (m + yv)) ∧ left (2 * k + 1) (l.set i (m + yv)) < left (2 * k + 1) l) := HS
                        clear HS HD
                        have cx := Kb.out.cell hxv
                        have fz := Kb.out.thaw i
                        have k6 := Kp.set (z := b) w6 i (.int .i64 (m + yv))
                        have K6 : Hid (Bk (w6.setCell ⟨b, i, none⟩ (.int .i64 (m + yv))) b (l.set i (m + yv)) #[]) := Kb.out.set i (m + yv) (List.getElem?_eq_some_iff.1 hxv).1
                        have X6 : Hid (Bf (w6.setCell ⟨b, i, none⟩ (.int .i64 (m + yv))) w.heap.size W H (.slice a1 k c) (.slice b1 os.length d)) := X.out.kp k6 (by have := Zb.out; omega)
                        have B6 : Hid (Below w.heap.size w (w6.setCell ⟨b, i, none⟩ (.int .i64 (m + yv)))) := k6.below B.out B.out.size (by have := Zb.out; omega)
                        have U6 : Hid (Ow (w6.setCell ⟨b, i, none⟩ (.int .i64 (m + yv))) z3 (.slice (some yn) (Fd.near W H i).length cn) (Fd.near W H i)) := U.out.kp k6 bz3.out
                        clear k6 Kb X B U
                        go_wp2
                        go_round
                        case rel => exact ⟨l.set i (m + yv), true, q + 1, rfl, by go_num, by omega, K6, HT.out.1, fun h => (by cases h), X6, B6, by have := HT.out.2; have := ML.out; have := one_le mb; show left (2 * k + 1) (l.set i (m + yv)) + 1 < m0; omega, U6⟩
                        case measure => simp [intOf]; omega
                      · by_cases h4 : m + yv < xv
                        · have h9 := h4
                          have HS := R.out.set E0.out (List.mem_of_getElem? Hj.out) hxv hyv (by rw [HD.out]; exact h1) h2 (.inr (by rw [HD.out]; exact h4))
                          rw [HD.out] at HS
                          have HT : Hid (Rt (Fd.near W H) (fun _ j => ss.getD j 0) t k (l.set i (m + yv)) ∧ left (2 * k + 1) (l.set i (m + yv)) < left (2 * k + 1) l) := HS
                          clear HS HD
                          have cx := Kb.out.cell hxv
                          have fz := Kb.out.thaw i
                          have k6 := Kp.set (z := b) w6 i (.int .i64 (m + yv))
                          have K6 : Hid (Bk (w6.setCell ⟨b, i, none⟩ (.int .i64 (m + yv))) b (l.set i (m + yv)) #[]) := Kb.out.set i (m + yv) (List.getElem?_eq_some_iff.1 hxv).1
                          have X6 : Hid (Bf (w6.setCell ⟨b, i, none⟩ (.int .i64 (m + yv))) w.heap.size W H (.slice a1 k c) (.slice b1 os.length d)) := X.out.kp k6 (by have := Zb.out; omega)
                          have B6 : Hid (Below w.heap.size w (w6.setCell ⟨b, i, none⟩ (.int .i64 (m + yv)))) := k6.below B.out B.out.size (by have := Zb.out; omega)
                          have U6 : Hid (Ow (w6.setCell ⟨b, i, none⟩ (.int .i64 (m + yv))) z3 (.slice (some yn) (Fd.near W H i).length cn) (Fd.near W H i)) := U.out.kp k6 bz3.out
                          clear k6 Kb X B U
                          go_wp2
                          go_round
                          case rel => exact ⟨l.set i (m + yv), true, q + 1, rfl, by go_num, by omega, K6, HT.out.1, fun h => (by cases h), X6, B6, by have := HT.out.2; have := ML.out; have := one_le mb; show left (2 * k + 1) (l.set i (m + yv)) + 1 < m0; omega, U6⟩
                          case measure => simp [intOf]; omega
                        · have h9 := h4
                          have HS : Hid (mb = false → Fine (Fd.near W H) (fun _ j => ss.getD j 0) l i (q + 1)) := fun h => (Fn.out h).step Hj.out hxv hyv (fun p0 p1 => by rw [HD.out] at p0 ⊢; omega)
                          clear HD
                          have cx := Kb.out.cell hxv
                          go_wp2
                          go_round
                          case rel => exact ⟨l, mb, q + 1, rfl, by go_num, by omega, Kb, R, HS, X, B, ML, U⟩
                          case measure => simp [intOf]; omega
                    · have h9 := h2
                      have HS : Hid (mb = false → Fine (Fd.near W H) (fun _ j => ss.getD j 0) l i (q + 1)) := fun h => (Fn.out h).step Hj.out hxv hyv (fun p0 p1 => by rw [HD.out] at p0 ⊢; omega)
                      clear HD
                      have cx := Kb.out.cell hxv
                      go_wp2
                      go_round
                      case rel => exact ⟨l, mb, q + 1, rfl, by go_num, by omega, Kb, R, HS, X, B, ML, U⟩
                      case measure => simp [intOf]; omega
                  · have h9 := h1
                    have HS : Hid (mb = false → Fine (Fd.near W H) (fun _ j => ss.getD j 0) l i (q + 1)) := fun h => (Fn.out h).step Hj.out hxv hyv (fun p0 p1 => by rw [HD.out] at p0 ⊢; omega)
                    clear HD
                    have cx := Kb.out.cell hxv
                    go_wp2
                    go_round
                    case rel => exact ⟨l, mb, q + 1, rfl, by go_num, by omega, Kb, R, HS, X, B, ML, U⟩
                    case measure => simp [intOf]; omega
    · have hkn : k < n := by omega
      have ck : wr.cell? ⟨b, k, none⟩ = some (.int .i64 0) := hkb.cell (by rw [List.getElem?_append, if_neg (by simp), List.length_replicate, Nat.sub_self, List.getElem?_replicate, if_pos (by omega)])
      have fk := hkb.thaw k
      have k12 := Kp.set (z := b) wr k (.int .i64 (-1))
      have K2 : Hid (Bk (wr.setCell ⟨b, k, none⟩ (.int .i64 (-1))) b (List.replicate (k + 1) (-1) ++ List.replicate (n - (k + 1)) 0) #[]) := by
        unfold Hid
        rw [← fill_set n k hkn]
        exact Kb.out.set k (-1) (by simp; omega)
      have X2 : Hid (Bf (wr.setCell ⟨b, k, none⟩ (.int .i64 (-1))) w.heap.size W H (.slice a1 n c) (.slice b1 os.length d)) := X.out.kp k12 (by have := Zb.out; omega)
      have B2 : Hid (Below w.heap.size w (wr.setCell ⟨b, k, none⟩ (.int .i64 (-1)))) := k12.below B.out B.out.size (by have := Zb.out; omega)
      clear k12 Kb X B hkb
      go_wp2
      go_round
      case rel => exact ⟨k + 1, by omega, by go_num, K2, X2, B2⟩
      case measure => simp [intOf]; omega
end Go.Proofs.YtogdaegnpoknlaaDoor
