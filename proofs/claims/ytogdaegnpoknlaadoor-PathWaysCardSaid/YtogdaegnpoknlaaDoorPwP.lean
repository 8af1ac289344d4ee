/- The calls of package path: the way. -/
import Derived.Test.YtogdaegnpoknlaaDoorPwG
import Derived.Test.YtogdaegnpoknlaaDoorPwN
namespace Go.Proofs.YtogdaegnpoknlaaDoor
open Go.RowKit Wy
set_option linter.unusedVariables false

set_option maxHeartbeats 1000000 in
theorem Path_bad (v : Value) (W H : Int) (gs os : List Int) (a b F : Int) (fl : Bool) (w : World) (h : Fl w v W H gs os) (hs : Sd w) (hF : Fd.askFault (Fd.fault W H gs os) gs.length [a, b] = F) (h0 : F ≠ 0) :
    Calls Tryd.prog 13 #[v, .int .i64 a, .int .i64 b, .bool fl] w fun e w' => e = .returned (.tuple #[.slice none 0 0, .iface 50 (.int .i64 F)]) ∧ Below w.heap.size w w' := by
  have F0 : Hid (Fl w v W H gs os) := h
  have S0 : Hid (Sd w) := hs
  have HF : Hid (Fd.askFault (Fd.fault W H gs os) gs.length [a, b] = F) := hF
  have H0 : Hid (F ≠ 0) := h0
  obtain ⟨u1, u2, rfl, ⟨a1, c, rfl, c1, c2, ca⟩, ⟨b1, d, rfl, d1, d2, cb⟩⟩ := h
  clear hF h0 ca cb hs
  go_enter Tryd.func13, Tryd.ntmps13
  go_wp2_with fail
  have b0 : Below w.heap.size w ((w.alloc (Obj.cells #[.int .i64 W, .int .i64 H, .slice a1 gs.length c, .slice b1 os.length d] 24)).alloc (Obj.cells #[.int .i64 a, .int .i64 b] 3)) := ((Below.refl _ _).alloc (Nat.le_refl _) _).alloc (by simp) _
  refine (look_no _ _ W H gs os [a, b] F fl _ (F0.out.below b0) (S0.out.below b0) (Ro.lit2 (w := w.alloc _) a b (by simp)) HF.out H0.out).mono ?_
  rintro e w1 ⟨rfl, hb⟩
  have B1 : Hid (Below w.heap.size w w1) := b0.trans (hb.mono (by simp; omega))
  clear hb b0
  go_wp2
  go_ret2
  exact ⟨rfl, B1.out.alloc B1.out.size _⟩

set_option maxHeartbeats 4000000 in
theorem Path_ok (v : Value) (W H : Nat) (gs os : List Int) (a b : Nat) (fl : Bool) (w : World) (h : Fl w v W H gs os) (hs : Sd w) (G : Fd.Good W H gs os) (ha : a < W * H) (hb : b < W * H) :
    Calls Tryd.prog 13 #[v, .int .i64 (a : Nat), .int .i64 (b : Nat), .bool fl] w fun e w' => ∃ l, (IsFar (Fd.near W H) (fun _ j => (gs.map fun g => Fd.onto g fl).getD j 0) b (W * H) l ∧ Flat l) ∧
      ((l.getD a 0 < 0 ∧ e = .returned (.tuple #[.slice none 0 0, .iface 50 (.int .i64 7)])) ∨ (0 ≤ l.getD a 0 ∧ ∃ u p, e = .returned (.tuple #[u, .nilIface]) ∧ Ro w' u p ∧ Pth (Fd.near W H) (gs.map fun g => Fd.onto g fl) l b a p ∧ p.length ≤ 1000)) ∧ Below w.heap.size w w' := by
  have F0 : Hid (Fl w v W H gs os) := h
  have S0 : Hid (Sd w) := hs
  have G0 : Hid (Fd.Good W H gs os) := G
  have A0 : Hid (a < W * H ∧ b < W * H) := ⟨ha, hb⟩
  obtain ⟨u1, u2, rfl, ⟨a1, c, rfl, c1, c2, ca⟩, ⟨b1, d, rfl, d1, d2, cb⟩⟩ := h
  obtain ⟨ss, hss⟩ : ∃ ss, (gs.map fun g => Fd.onto g fl) = ss := ⟨_, rfl⟩
  have Hss : Hid ((gs.map fun g => Fd.onto g fl) = ss) := hss
  have E0 : Hid (Even (Fd.near W H) (fun _ j => ss.getD j 0) (W * H)) := by rw [← hss]; exact even_to G.w1 gs fl
  have T0 : Hid (∀ j, ss.getD j 0 ≤ 2) := by rw [← hss]; exact ss_two gs fl
  rw [hss]
  clear ca cb hs G ha hb hss
  go_enter Tryd.func13, Tryd.ntmps13
  go_wp2_with fail
  have b0 : Below w.heap.size w ((w.alloc (Obj.cells #[.int .i64 W, .int .i64 H, .slice a1 gs.length c, .slice b1 os.length d] 24)).alloc (Obj.cells #[.int .i64 (a : Nat), .int .i64 (b : Nat)] 3)) := ((Below.refl _ _).alloc (Nat.le_refl _) _).alloc (by simp) _
  refine (look_ok _ _ W H gs os [(a : Int), (b : Int)] fl _ (F0.out.below b0) G0.out (S0.out.below b0) (Ro.lit2 (w := w.alloc _) (a : Int) (b : Int) (by simp)) (by have := A0.out; simp; omega)).mono ?_
  rintro e w1 ⟨⟨v1, rfl, hL⟩, hb⟩
  rw [Hss.out] at hL
  have B1 : Hid (Below w.heap.size w w1) := b0.trans (hb.mono (by simp; omega))
  have L1 : Hid (Ld w1 v1 (W * H) (Fd.near W H) ss) := hL
  obtain ⟨p1, p2, rfl, ⟨x1, k1, rfl, -⟩, ⟨x2, k2, rfl, -⟩, -⟩ := hL
  clear hb b0
  go_wp2_with fail
  have b2 : Below w1.heap.size w1 (w1.alloc (Obj.cells #[.slice (some x1) (W * H) k1, .slice x2 ss.length k2] 46)) := (Below.refl _ _).alloc (Nat.le_refl _) _
  have X1 := Bl.mk' (w := w1) (.slice (some x1) (W * H) k1) (.slice x2 ss.length k2) rfl
  refine (farTo_ok _ (W * H) b (Fd.near W H) ss _ (L1.out.below b2) E0.out A0.out.2 G0.out.pos.2 (Fd.near_len W H)).mono ?_
  rintro e w2 ⟨g, l, rfl, hbz, hbk, ⟨hf, hfl⟩, hb⟩
  have P : Hid (Ro w2 (.slice (some ⟨g, 0, none⟩) (W * H) (W * H)) l) := by
    have := hbk.ro (c := W * H) (by rw [hf.1]; exact Nat.le_refl _) (by have := G0.out.pos.2; omega)
    rw [hf.1] at this
    exact this
  have HF : Hid (IsFar (Fd.near W H) (fun _ j => ss.getD j 0) b (W * H) l ∧ Flat l) := ⟨hf, hfl⟩
  have B2 : Hid (Below w.heap.size w w2) := (B1.out.trans (b2.mono B1.out.size)).trans (hb.mono (Nat.le_trans B1.out.size b2.size))
  have X2 : Hid (Bl w2 w1.heap.size (.slice (some x1) (W * H) k1) (.slice x2 ss.length k2)) := X1.below hb X1.lt
  have L2 : Hid (Ld w2 (.agg #[.slice (some x1) (W * H) k1, .slice x2 ss.length k2]) (W * H) (Fd.near W H) ss) := (L1.out.below b2).below hb
  have N0 : W * H ≤ 144 := G0.out.pos.2
  have ca := hbk.cell (get_some hf.1 A0.out.1)
  have LB : Hid (∀ j, l.getD j 0 ≤ 288) := flat_le hfl hf.1 N0
  clear hbz hbk hb b2 X1 L1 B1 hf hfl
  have a0 : a < W * H := A0.out.1
  obtain ⟨y, hy⟩ : ∃ y, l.getD a 0 = y := ⟨_, rfl⟩
  have Hy : Hid (l.getD a 0 = y) := hy
  rw [hy] at ca
  clear hy
  by_cases hd : y < 0
  · go_wp2
    go_ret2
    exact ⟨l, HF, .inl ⟨by rw [Hy.out]; exact hd, rfl⟩, B2⟩
  · go_wp2_with fail
    have O3 : Hid (Ow (w2.alloc (Obj.cells #[.int .i64 (a : Nat)] 3)) w2.heap.size (.slice (some ⟨w2.heap.size, 0, none⟩) 1 1) [(a : Int)]) := Ow.one (a : Int) (Nat.le_refl _) rfl
    have B3 : Hid (Below w2.heap.size w2 (w2.alloc (Obj.cells #[.int .i64 (a : Nat)] 3))) := (Below.refl _ _).alloc (Nat.le_refl _) _
    generalize w2.alloc (Obj.cells #[.int .i64 (a : Nat)] 3) = w3 at *
    have Ya : Hid (0 ≤ l.getD a 0) := by unfold Hid; rw [Hy.out]; omega
    have Yb : Hid (l.getD a 0 ≤ 288) := LB.out a
    clear ca hd
    go_loopw [13, 14] (fun v i W' => ∃ (k : Nat) (pre : List Int), i = .int .i64 (k : Nat) ∧ k < W * H ∧ 0 ≤ l.getD k 0 ∧ Ow W' w2.heap.size v (pre ++ [(k : Int)]) ∧ (∀ p, Pth (Fd.near W H) ss l b k p → Pth (Fd.near W H) ss l b a (pre ++ p)) ∧ Below w2.heap.size w2 W' ∧ (pre.length : Int) + l.getD k 0 ≤ l.getD a 0) (fun _ i _ => (l.getD (intOf i).toNat 0).toNat)
    case atStart => exact ⟨a, [], rfl, a0, Ya, O3, fun p hp => hp, B3, by simp⟩
    case round =>
      obtain ⟨k, pre, rfl, hk, hk0, ho, hp, hb, hm⟩ := hrel
      clear O3 B3
      have O : Hid (Ow wr w2.heap.size u13 (pre ++ [(k : Int)])) := ho
      have Pp : Hid (∀ p, Pth (Fd.near W H) ss l b k p → Pth (Fd.near W H) ss l b a (pre ++ p)) := hp
      have B : Hid (Below w2.heap.size w2 wr) := hb
      have M : Hid ((pre.length : Int) + l.getD k 0 ≤ l.getD a 0 ∧ 0 ≤ l.getD k 0 ∧ k < W * H) := ⟨hm, hk0, hk⟩
      clear ho hp hb hm hk0
      by_cases h0 : k = b
      · subst h0
        go_wp2
        go_ret2
        refine ⟨l, HF, .inr ⟨Ya, _, _, rfl, O.out.ro, Pp.out _ .here, ?_⟩, B2.out.trans (B.out.mono B2.out.size)⟩
        have := M.out
        have := Yb.out
        simp
        omega
      · have hx := has_next E0.out HF.out.1 hk M.out.2.1 h0
        have e0 : (fun x : Int => ∃ j : Nat, x = j ∧ j < W * H) = fun x : Int => ∃ j : Nat, x = j ∧ j < W * H := rfl
        have CN : Hid (Calls Tryd.prog 23 #[.agg #[.slice (some x1) (W * H) k1, .slice x2 ss.length k2], .slice (some ⟨g, 0, none⟩) (W * H) (W * H), .int .i64 (k : Nat)] wr fun e w' => ∃ j : Nat, e = .returned (.int .i64 (j : Nat)) ∧ j < W * H ∧ Nx (Fd.near W H) ss l k j ∧ Below wr.heap.size wr w') :=
          next_ok _ _ (W * H) k (Fd.near W H) ss l wr (L2.out.below B.out) (P.out.below B.out) HF.out.1.1 hk N0 T0.out LB.out (fun x hx => by obtain ⟨j, h1, h2, -⟩ := E0.out.cell k x hk hx; exact ⟨j, h1, h2⟩) hx
        obtain ⟨y0, y1⟩ := X2.out.below B.out X2.out.lt
        clear e0 hx
        go_wp2_with fail
        refine Calls.mono CN.out ?_
        rintro e w4 ⟨j, rfl, hj, hN, hb4⟩
        have ba : Below w4.heap.size w4 (w4.alloc (Obj.cells #[.int .i64 (j : Nat)] 3)) := (Below.refl _ _).alloc (Nat.le_refl _) _
        have O5 : Hid (Ow (w4.alloc (Obj.cells #[.int .i64 (j : Nat)] 3)) w2.heap.size u13 (pre ++ [(k : Int)])) := (O.out.below hb4).below ba
        have B5 : Hid (Below w2.heap.size w2 (w4.alloc (Obj.cells #[.int .i64 (j : Nat)] 3))) := (B.out.trans (hb4.mono B.out.size)).trans (ba.mono (Nat.le_trans B.out.size hb4.size))
        have Cd : Hid ((w4.alloc (Obj.cells #[.int .i64 (j : Nat)] 3)).cell? ⟨w4.heap.size, 0, none⟩ = some (.int .i64 (j : Nat))) := by unfold Hid; simp
        have HN : Hid (Nx (Fd.near W H) ss l k j) := hN
        have is := hN.is
        have Ln : Hid ((pre ++ [(k : Int)]).length ≤ 1000000) := by
          have := M.out
          have := Yb.out
          unfold Hid
          simp
          omega
        have Q : Hid (∀ p, Pth (Fd.near W H) ss l b j p → Pth (Fd.near W H) ss l b a ((pre ++ [(k : Int)]) ++ p)) := fun p hp => by
          have := Pp.out _ (.step h0 hN hp)
          rw [List.append_assoc]
          exact this
        have M' : Hid (((pre ++ [(k : Int)]).length : Int) + l.getD j 0 ≤ l.getD a 0 ∧ 0 ≤ l.getD j 0 ∧ l.getD j 0 < l.getD k 0) := by
          have := M.out
          unfold Hid
          simp only [List.length_append, List.length_cons, List.length_nil]
          omega
        clear hb4 ba O B CN hN is y0 y1 Pp
        generalize pre ++ [(k : Int)] = pr at *
        go_wp2_with (at_builtin; refine app_int _ rfl _ _ rfl w2.heap.size _ pr rfl O5.out ⟨w4.heap.size, 0, none⟩ (j : Nat) rfl Cd.out Ln.out B5.out.size ?_)
        intro g6 cap6 w6 o6 gr6 at6 lt6
        have O6 : Hid (Ow w6 w2.heap.size (.slice (some ⟨g6, 0, none⟩) (pr.length + 1) cap6) (pr ++ [(j : Int)])) := o6
        have B6 : Hid (Below w2.heap.size w2 w6) := B5.out.trans ((Below.refl _ _).grown gr6 B5.out.size (fun k hk => (O5.out.block k hk).1))
        clear o6 gr6 at6 lt6 O5 B5 Cd
        go_wp2
        go_round
        case rel => exact ⟨j, pr, rfl, hj, M'.out.2.1, O6, Q, B6, M'.out.1⟩
        case measure =>
          have := M'.out
          show (l.getD (Int.toNat (j : Int)) 0).toNat < (l.getD (Int.toNat (k : Int)) 0).toNat
          rw [Int.toNat_natCast, Int.toNat_natCast]
          omega

set_option maxHeartbeats 1000000 in
theorem Next_bad (v : Value) (W H : Int) (gs os : List Int) (a b F : Int) (fl : Bool) (w : World) (h : Fl w v W H gs os) (hs : Sd w) (hF : Fd.askFault (Fd.fault W H gs os) gs.length [a, b] = F) (h0 : F ≠ 0) :
    Calls Tryd.prog 12 #[v, .int .i64 a, .int .i64 b, .bool fl] w fun e w' => e = .returned (.tuple #[.int .i64 0, .iface 50 (.int .i64 F)]) ∧ Below w.heap.size w w' := by
  have F0 : Hid (Fl w v W H gs os) := h
  have S0 : Hid (Sd w) := hs
  have HF : Hid (Fd.askFault (Fd.fault W H gs os) gs.length [a, b] = F) := hF
  have H0 : Hid (F ≠ 0) := h0
  obtain ⟨u1, u2, rfl, ⟨a1, c, rfl, c1, c2, ca⟩, ⟨b1, d, rfl, d1, d2, cb⟩⟩ := h
  clear hF h0 ca cb hs
  have b0 : Hid (Below w.heap.size w (w.alloc (Obj.cells #[.int .i64 W, .int .i64 H, .slice a1 gs.length c, .slice b1 os.length d] 24))) := (Below.refl _ _).alloc (Nat.le_refl _) _
  go_enter Tryd.func12, Tryd.ntmps12
  go_wp2_with fail
  refine (Path_bad _ W H gs os a b F fl _ (F0.out.below b0.out) (S0.out.below b0.out) HF.out H0.out).mono ?_
  rintro e w1 ⟨rfl, hb⟩
  have B1 : Hid (Below w.heap.size w w1) := b0.out.trans (hb.mono b0.out.size)
  clear hb b0
  go_wp2
  go_ret2
  exact ⟨rfl, B1⟩

set_option maxHeartbeats 1000000 in
theorem Next_ok (v : Value) (W H : Nat) (gs os : List Int) (a b : Nat) (fl : Bool) (w : World) (h : Fl w v W H gs os) (hs : Sd w) (G : Fd.Good W H gs os) (ha : a < W * H) (hb : b < W * H) :
    Calls Tryd.prog 12 #[v, .int .i64 (a : Nat), .int .i64 (b : Nat), .bool fl] w fun e w' => ∃ l, (IsFar (Fd.near W H) (fun _ j => (gs.map fun g => Fd.onto g fl).getD j 0) b (W * H) l ∧ Flat l) ∧
      ((l.getD a 0 < 0 ∧ e = .returned (.tuple #[.int .i64 0, .iface 50 (.int .i64 7)])) ∨ (0 ≤ l.getD a 0 ∧ ∃ j : Nat, e = .returned (.tuple #[.int .i64 (j : Nat), .nilIface]) ∧ Nxt (Fd.near W H) (gs.map fun g => Fd.onto g fl) l b a j)) ∧ Below w.heap.size w w' := by
  have F0 : Hid (Fl w v W H gs os) := h
  have S0 : Hid (Sd w) := hs
  have G0 : Hid (Fd.Good W H gs os) := G
  have A0 : Hid (a < W * H ∧ b < W * H) := ⟨ha, hb⟩
  obtain ⟨u1, u2, rfl, ⟨a1, c, rfl, c1, c2, ca⟩, ⟨b1, d, rfl, d1, d2, cb⟩⟩ := h
  obtain ⟨ss, hss⟩ : ∃ ss, (gs.map fun g => Fd.onto g fl) = ss := ⟨_, rfl⟩
  have Hss : Hid ((gs.map fun g => Fd.onto g fl) = ss) := hss
  rw [hss]
  clear ca cb hs G ha hb hss
  have b0 : Hid (Below w.heap.size w (w.alloc (Obj.cells #[.int .i64 W, .int .i64 H, .slice a1 gs.length c, .slice b1 os.length d] 24))) := (Below.refl _ _).alloc (Nat.le_refl _) _
  go_enter Tryd.func12, Tryd.ntmps12
  go_wp2_with fail
  refine (Path_ok _ W H gs os a b fl _ (F0.out.below b0.out) (S0.out.below b0.out) G0.out A0.out.1 A0.out.2).mono ?_
  rintro e w1 ⟨l, hl, he, hb⟩
  rw [Hss.out] at hl he
  have B1 : Hid (Below w.heap.size w w1) := b0.out.trans (hb.mono b0.out.size)
  have HL : Hid (IsFar (Fd.near W H) (fun _ j => ss.getD j 0) b (W * H) l ∧ Flat l) := hl
  clear hb b0 hl
  rcases he with ⟨h0, rfl⟩ | ⟨h0, u, p, rfl, hu, hp, hlen⟩
  · have H0 : Hid (l.getD a 0 < 0) := h0
    clear h0
    go_wp2
    go_ret2
    exact ⟨l, HL, .inl ⟨H0, rfl⟩, B1⟩
  · have H0 : Hid (0 ≤ l.getD a 0) := h0
    have HP : Hid (Pth (Fd.near W H) ss l b a p) := hp
    clear h0
    by_cases hab : a = b
    · subst hab
      obtain ⟨ua, uc, rfl, -⟩ := hu
      clear hp
      go_wp2
      go_ret2
      exact ⟨l, HL, .inr ⟨H0, a, rfl, .inl ⟨rfl, rfl⟩⟩, B1⟩
    · obtain ⟨j, h1, h2⟩ := hp.second hab
      have hl1 : 1 < p.length := (List.getElem?_eq_some_iff.1 h1).1
      obtain ⟨ua, uc, rfl, k1, k2, hc⟩ := hu
      obtain ⟨y, rfl, -, hy⟩ := hc (by intro e; rw [e] at hl1; simp at hl1)
      have HN : Hid (Nx (Fd.near W H) ss l a j) := h2
      have hne : ¬ (a : Int) = (b : Int) := by omega
      have c1' : w1.cell? ⟨y.block, y.off + 1, none⟩ = some (.int .i64 (j : Nat)) := hy 1 _ h1
      clear hp hc hy h1 h2
      go_wp2
      go_ret2
      exact ⟨l, HL, .inr ⟨H0, j, rfl, .inr ⟨hab, HN⟩⟩, B1⟩
end Go.Proofs.YtogdaegnpoknlaaDoor
