/- The calls of package path: what may be reached. -/
import Derived.Test.YtogdaegnpoknlaaDoorPwG
import Derived.Test.YtogdaegnpoknlaaDoorPwN
namespace Go.Proofs.YtogdaegnpoknlaaDoor
open Go.RowKit Wy
set_option linter.unusedVariables false

set_option maxHeartbeats 1000000 in
theorem Reach_bad (v : Value) (W H : Int) (gs os : List Int) (a b F : Int) (fl : Bool) (w : World) (h : Fl w v W H gs os) (hs : Sd w) (hF : Fd.askFault (Fd.fault W H gs os) gs.length [a] = F) (h0 : F ≠ 0) :
    Calls Tryd.prog 14 #[v, .int .i64 a, .int .i64 b, .bool fl] w fun e w' => e = .returned (.tuple #[.slice none 0 0, .iface 50 (.int .i64 F)]) ∧ Below w.heap.size w w' := by
  have F0 : Hid (Fl w v W H gs os) := h
  have S0 : Hid (Sd w) := hs
  have HF : Hid (Fd.askFault (Fd.fault W H gs os) gs.length [a] = F) := hF
  have H0 : Hid (F ≠ 0) := h0
  obtain ⟨u1, u2, rfl, ⟨a1, c, rfl, c1, c2, ca⟩, ⟨b1, d, rfl, d1, d2, cb⟩⟩ := h
  clear hF h0 ca cb hs
  go_enter Tryd.func14, Tryd.ntmps14
  go_wp2_with fail
  have b0 : Below w.heap.size w ((w.alloc (Obj.cells #[.int .i64 W, .int .i64 H, .slice a1 gs.length c, .slice b1 os.length d] 24)).alloc (Obj.cells #[.int .i64 a] 3)) := ((Below.refl _ _).alloc (Nat.le_refl _) _).alloc (by simp) _
  refine (look_no _ _ W H gs os [a] F fl _ (F0.out.below b0) (S0.out.below b0) (Ro.lit1 (w := w.alloc _) a (by simp)) HF.out H0.out).mono ?_
  rintro e w1 ⟨rfl, hb⟩
  have B1 : Hid (Below w.heap.size w w1) := b0.trans (hb.mono (by simp; omega))
  clear hb b0
  go_wp2
  go_ret2
  exact ⟨rfl, B1.out.alloc B1.out.size _⟩

set_option maxHeartbeats 1000000 in
theorem Reach_range (v : Value) (W H : Nat) (gs os : List Int) (a : Nat) (m : Int) (fl : Bool) (w : World) (h : Fl w v W H gs os) (hs : Sd w) (G : Fd.Good W H gs os) (ha : a < W * H) (hm : m < 0 ∨ 1000000 < m) :
    Calls Tryd.prog 14 #[v, .int .i64 (a : Nat), .int .i64 m, .bool fl] w fun e w' => e = .returned (.tuple #[.slice none 0 0, .iface 50 (.int .i64 1)]) ∧ Below w.heap.size w w' := by
  have F0 : Hid (Fl w v W H gs os) := h
  have S0 : Hid (Sd w) := hs
  have G0 : Hid (Fd.Good W H gs os) := G
  have A0 : Hid (a < W * H) := ha
  obtain ⟨u1, u2, rfl, ⟨a1, c, rfl, c1, c2, ca⟩, ⟨b1, d, rfl, d1, d2, cb⟩⟩ := h
  obtain ⟨ss, hss⟩ : ∃ ss, (gs.map fun g => Fd.onto g fl) = ss := ⟨_, rfl⟩
  have Hss : Hid ((gs.map fun g => Fd.onto g fl) = ss) := hss
  have E0 : Hid (Even (Fd.near W H) (fun i _ => ss.getD i 0) (W * H)) := by rw [← hss]; exact even_from G.w1 gs fl
  clear ca cb hs G ha hss
  go_enter Tryd.func14, Tryd.ntmps14
  go_wp2_with fail
  have b0 : Below w.heap.size w ((w.alloc (Obj.cells #[.int .i64 W, .int .i64 H, .slice a1 gs.length c, .slice b1 os.length d] 24)).alloc (Obj.cells #[.int .i64 (a : Nat)] 3)) := ((Below.refl _ _).alloc (Nat.le_refl _) _).alloc (by simp) _
  refine (look_ok _ _ W H gs os [(a : Int)] fl _ (F0.out.below b0) G0.out (S0.out.below b0) (Ro.lit1 (w := w.alloc _) (a : Int) (by simp)) (by have := A0.out; simp; omega)).mono ?_
  rintro e w1 ⟨⟨v1, rfl, hL⟩, hb⟩
  rw [Hss.out] at hL
  have B1 : Hid (Below w.heap.size w w1) := b0.trans (hb.mono (by simp; omega))
  have L1 : Hid (Ld w1 v1 (W * H) (Fd.near W H) ss) := hL
  obtain ⟨p1, p2, rfl, ⟨x1, k1, rfl, -⟩, ⟨x2, k2, rfl, -⟩, -⟩ := hL
  clear hb b0
  rcases hm with hm | hm
  · go_wp2
    go_ret2
    exact ⟨rfl, B1.out.alloc B1.out.size _⟩
  · have hm' : ¬ m < 0 := by omega
    go_wp2
    go_ret2
    exact ⟨rfl, B1.out.alloc B1.out.size _⟩

set_option maxHeartbeats 2000000 in
theorem Reach_ok (v : Value) (W H : Nat) (gs os : List Int) (a : Nat) (m : Int) (fl : Bool) (w : World) (h : Fl w v W H gs os) (hs : Sd w) (G : Fd.Good W H gs os) (ha : a < W * H) (m0 : 0 ≤ m) (m1 : m ≤ 1000000) :
    Calls Tryd.prog 14 #[v, .int .i64 (a : Nat), .int .i64 m, .bool fl] w fun e w' => ∃ u l, e = .returned (.tuple #[u, .nilIface]) ∧ IsFar (Fd.near W H) (fun i _ => (gs.map fun g => Fd.onto g fl).getD i 0) a (W * H) l ∧ Ro w' u (rch l m (W * H)) ∧ Below w.heap.size w w' := by
  have F0 : Hid (Fl w v W H gs os) := h
  have S0 : Hid (Sd w) := hs
  have G0 : Hid (Fd.Good W H gs os) := G
  have A0 : Hid (a < W * H) := ha
  obtain ⟨u1, u2, rfl, ⟨a1, c, rfl, c1, c2, ca⟩, ⟨b1, d, rfl, d1, d2, cb⟩⟩ := h
  obtain ⟨ss, hss⟩ : ∃ ss, (gs.map fun g => Fd.onto g fl) = ss := ⟨_, rfl⟩
  have Hss : Hid ((gs.map fun g => Fd.onto g fl) = ss) := hss
  have E0 : Hid (Even (Fd.near W H) (fun i _ => ss.getD i 0) (W * H)) := by rw [← hss]; exact even_from G.w1 gs fl
  rw [hss]
  obtain ⟨n, hn⟩ : ∃ n, W * H = n := ⟨_, rfl⟩
  have Hn : Hid (W * H = n) := hn
  rw [hn] at E0 ⊢
  clear ca cb hs G ha hss hn
  go_enter Tryd.func14, Tryd.ntmps14
  go_wp2_with fail
  have b0 : Below w.heap.size w ((w.alloc (Obj.cells #[.int .i64 W, .int .i64 H, .slice a1 gs.length c, .slice b1 os.length d] 24)).alloc (Obj.cells #[.int .i64 (a : Nat)] 3)) := ((Below.refl _ _).alloc (Nat.le_refl _) _).alloc (by simp) _
  refine (look_ok _ _ W H gs os [(a : Int)] fl _ (F0.out.below b0) G0.out (S0.out.below b0) (Ro.lit1 (w := w.alloc _) (a : Int) (by simp)) (by have := A0.out; simp; omega)).mono ?_
  rintro e w1 ⟨⟨v1, rfl, hL⟩, hb⟩
  rw [Hss.out, Hn.out] at hL
  have B1 : Hid (Below w.heap.size w w1) := b0.trans (hb.mono (by simp; omega))
  have L1 : Hid (Ld w1 v1 (n) (Fd.near W H) ss) := hL
  obtain ⟨p1, p2, rfl, ⟨x1, k1, rfl, -⟩, ⟨x2, k2, rfl, -⟩, -⟩ := hL
  clear hb b0
  have n0 : ¬ m < 0 := by omega
  have n1 : ¬ 1000000 < m := by omega
  go_wp2_with fail
  have b2 : Below w1.heap.size w1 (w1.alloc (Obj.cells #[.slice (some x1) (n) k1, .slice x2 ss.length k2] 46)) := (Below.refl _ _).alloc (Nat.le_refl _) _
  refine (farFrom_ok _ (n) a (Fd.near W H) ss _ (L1.out.below b2) E0.out (by rw [← Hn.out]; exact A0.out) (by rw [← Hn.out]; exact G0.out.pos.2) (Fd.near_len W H)).mono ?_
  rintro e w2 ⟨g, l, rfl, hbz, hbk, ⟨hf, hfl⟩, hb⟩
  have K2 : Hid (Bk w2 g l #[]) := hbk
  have HF : Hid (IsFar (Fd.near W H) (fun i _ => ss.getD i 0) a (n) l) := hf
  have B2 : Hid (Below w.heap.size w w2) := (B1.out.trans (b2.mono B1.out.size)).trans (hb.mono (Nat.le_trans B1.out.size b2.size))
  have N0 : n ≤ 144 := by rw [← Hn.out]; exact G0.out.pos.2
  clear hbz hbk hb b2 L1 B1 hf hfl n0 n1
  go_wp2_with fail
  go_loopw [12, 37] (fun v i W' => ∃ k : Nat, k ≤ n ∧ i = .int .i64 (k : Nat) ∧ Ow W' w2.heap.size v (rch l m k) ∧ Below w2.heap.size w2 W') (fun _ i _ => n - (intOf i).toNat)
  case atStart => exact ⟨0, Nat.zero_le _, rfl, Ow.nil _ _, Below.refl _ _⟩
  case round =>
    obtain ⟨k, hk, rfl, ho, hb⟩ := hrel
    have O : Hid (Ow wr w2.heap.size u12 (rch l m k)) := ho
    have B : Hid (Below w2.heap.size w2 wr) := hb
    clear ho hb
    by_cases h0 : k = n
    · subst h0
      go_wp2
      go_ret2
      exact ⟨_, l, rfl, HF, O.out.ro, B2.out.trans (B.out.mono B2.out.size)⟩
    · have hkn : k < n := by omega
      have Er : Hid (rch l m (k + 1) = rch l m k ++ (if 0 ≤ l.getD k 0 ∧ l.getD k 0 ≤ m then [(k : Int)] else [])) := rch_succ l m k
      have ck := (K2.out.below B.out).cell (get_some HF.out.1 hkn)
      have Lr : Hid ((rch l m k).length ≤ 1000000) := Nat.le_trans (rch_len l m k) (by omega)
      generalize l.getD k 0 = y at *
      generalize rch l m k = rs at *
      by_cases h1 : 0 ≤ y
      · by_cases h2 : y ≤ m
        · have Er' : Hid (rch l m (k + 1) = rs ++ [(k : Int)]) := by
            have := Er.out
            rw [if_pos ⟨h1, h2⟩] at this
            exact this
          have ba : Below wr.heap.size wr (wr.alloc (Obj.cells #[.int .i64 (k : Nat)] 3)) := (Below.refl _ _).alloc (Nat.le_refl _) _
          have O5 : Hid (Ow (wr.alloc (Obj.cells #[.int .i64 (k : Nat)] 3)) w2.heap.size u12 rs) := O.out.below ba
          have B5 : Hid (Below w2.heap.size w2 (wr.alloc (Obj.cells #[.int .i64 (k : Nat)] 3))) := B.out.trans (ba.mono B.out.size)
          have Cd : Hid ((wr.alloc (Obj.cells #[.int .i64 (k : Nat)] 3)).cell? ⟨wr.heap.size, 0, none⟩ = some (.int .i64 (k : Nat))) := by unfold Hid; simp
          clear ba Er O B
          go_wp2_with (at_builtin; refine app_int _ rfl _ _ rfl w2.heap.size _ rs rfl O5.out ⟨wr.heap.size, 0, none⟩ (k : Nat) rfl Cd.out Lr.out B5.out.size ?_)
          intro g6 cap6 w6 o6 gr6 at6 lt6
          have O6 : Hid (Ow w6 w2.heap.size (.slice (some ⟨g6, 0, none⟩) (rs.length + 1) cap6) (rs ++ [(k : Int)])) := o6
          have B6 : Hid (Below w2.heap.size w2 w6) := B5.out.trans ((Below.refl _ _).grown gr6 B5.out.size (fun k hk => (O5.out.block k hk).1))
          clear o6 gr6 at6 lt6 O5 B5 Cd
          go_wp2
          go_round
          case rel => exact ⟨k + 1, by omega, by go_num, by rw [Er'.out]; exact O6, B6⟩
          case measure => simp [intOf]; omega
        · have Er' : Hid (rch l m (k + 1) = rs) := by
            have := Er.out
            rw [if_neg (fun h => h2 h.2), List.append_nil] at this
            exact this
          clear Er
          go_wp2
          go_round
          case rel => exact ⟨k + 1, by omega, by go_num, by rw [Er'.out]; exact O, B⟩
          case measure => simp [intOf]; omega
      · have Er' : Hid (rch l m (k + 1) = rs) := by
          have := Er.out
          rw [if_neg (fun h => h1 h.1), List.append_nil] at this
          exact this
        clear Er
        go_wp2
        go_round
        case rel => exact ⟨k + 1, by omega, by go_num, by rw [Er'.out]; exact O, B⟩
        case measure => simp [intOf]; omega
end Go.Proofs.YtogdaegnpoknlaaDoor
