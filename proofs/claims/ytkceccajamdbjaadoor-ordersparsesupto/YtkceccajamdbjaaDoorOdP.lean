/- The program's orders: Parse. -/
import Derived.Test.YtkceccajamdbjaaDoorLnC
import Derived.Test.YtkceccajamdbjaaDoorOdN
import Derived.Test.YtkceccajamdbjaaDoorOpM
namespace Go.Proofs.YtkceccajamdbjaaDoor
open Go.RowKit
set_option linter.unusedVariables false

attribute [local go_sem] Oper.semAt_some

theorem lines_any (s : ByteArray) (w : World) : Calls Tryd.prog 21 #[.string s] w fun e w' => e = .returned (.func (.func 41) #[] #[.pointer (some ⟨w.heap.size, 0, none⟩)]) ∧ w' = w.alloc (.cells #[.string s] 9) := by
  go_enter Tryd.func21, Tryd.ntmps21
  go_wp2
  go_ret
  exact ⟨rfl, rfl⟩

/-- between two lines: what was read so far. -/
structure PI (w : World) (m b : Nat) (xs : List ByteArray) (W : World) : Prop where
  acc : ∃ acc v, (∀ post, Od.go [] (xs.map tl ++ post) = Od.go acc post) ∧ acc.length ≤ 60 ∧ Boxed W (m + 1) 33 v ∧ Oro W (m + 3) v acc
  box : Boxed W m 84 (.map (some b))
  map : Wm W b 4 W4
  r0 : Boxed W w.heap.size 33 (.slice none 0 0)
  r1 : Boxed W (w.heap.size + 1) 3 (.int .i64 0)
  r2 : Boxed W (w.heap.size + 1 + 1) 24 .nilIface
  below : Below w.heap.size w W
/-- a line was wrong. -/
structure PX (w : World) (xs : List ByteArray) (W : World) : Prop where
  res : ∃ (k : Nat) (f : Int) (u : Value), (∀ post, Od.go [] (xs.map tl ++ post) = .inl (k, f)) ∧ Boxed W w.heap.size 33 (.slice none 0 0) ∧ Boxed W (w.heap.size + 1) 3 (.int .i64 k) ∧ Boxed W (w.heap.size + 1 + 1) 24 u ∧ Er u f
  below : Below w.heap.size w W
theorem PI.aside {w : World} {m b : Nat} (hb : w.heap.size + 1 + 1 < b ∧ b < m) {xs : List ByteArray} {W W' : World} (h : PI w m b xs W) (a : Aside (m + 3) (m + 2) W W') : PI w m b xs W' := by
  obtain ⟨⟨acc, v, h1, h2, h3, h4⟩, h5, h6, h7, h8, h9, h10⟩ := h
  exact ⟨⟨acc, v, h1, h2, boxed_aside h3 a (by omega), h4.aside a (by omega)⟩, boxed_aside h5 a (by omega), h6.aside a (by omega) (by omega), boxed_aside h7 a (by omega), boxed_aside h8 a (by omega), boxed_aside h9 a (by omega), below_aside h10 a (by omega) (by omega)⟩
theorem PX.aside {w : World} {m b : Nat} (hb : w.heap.size + 1 + 1 < b ∧ b < m) {xs : List ByteArray} {W W' : World} (h : PX w xs W) (a : Aside (m + 3) (m + 2) W W') : PX w xs W' := by
  obtain ⟨⟨k, f, u, h1, h2, h3, h4, h5⟩, h6⟩ := h
  exact ⟨⟨k, f, u, h1, boxed_aside h2 a (by omega), boxed_aside h3 a (by omega), boxed_aside h4 a (by omega), h5⟩, below_aside h6 a (by omega) (by omega)⟩
theorem go_bad {acc : List OrV} {l : List UInt8} {r : List (List UInt8)} (h : lineFault acc.length l ≠ 0) : Od.go acc (l :: r) = .inl (acc.length, lineFault acc.length l) := by
  unfold Od.go
  unfold lineFault at *
  cases e : Od.ofLine l with
  | none => rfl
  | some o =>
    rw [e] at h
    simp only at h ⊢
    by_cases h6 : acc.length = 60
    · rw [if_pos h6, if_pos h6]
    · rw [if_neg h6] at h
      rw [if_neg h6, if_neg h, if_neg h6]
theorem go_ok {acc : List OrV} {l : List UInt8} {r : List (List UInt8)} {o : OrV} (h : lineFault acc.length l = 0) (ho : Od.ofLine l = some o) : Od.go acc (l :: r) = Od.go (acc ++ [o]) r ∧ acc.length ≠ 60 := by
  unfold lineFault at h
  rw [ho] at h
  simp only at h
  by_cases h6 : acc.length = 60
  · rw [if_pos h6] at h; cases h
  · rw [if_neg h6] at h
    refine ⟨?_, h6⟩
    conv => lhs; unfold Od.go
    rw [ho]
    simp only
    rw [if_neg h6, if_pos h]

set_option maxRecDepth 100000 in
set_option maxHeartbeats 8000000 in
theorem oparse_any (s : ByteArray) (w : World) (hsx : s.size ≤ 9223372036854775806) (hn : Nm w) (hp : Pw w) (hy : Sy w) :
    Calls Tryd.prog 20 #[.string s] w fun e w' => ∃ v k u f ks, e = .returned (.tuple #[v, .int .i64 k, u]) ∧ Orl w' v ks ∧ Er u f ∧ ParSays (tl s) ks k f ∧ Below w.heap.size w w' := by
  have P0 : Hid (Nm w ∧ Pw w ∧ Sy w) := ⟨hn, hp, hy⟩
  clear hn hp hy
  refine (callsIn_wide (n := 9)).1 ?_
  refine callsIn_of_wp_marks Tryd.func20 rfl trivial ?_ rfl
  simp only [Tryd.ntmps20, List.size_toArray, List.length_cons, List.length_nil, Nat.reduceAdd, Nat.reduceSub, Array.replicate_succ, Array.replicate_zero, List.push_toArray, List.append_toArray, List.nil_append, List.cons_append]
  have X0 := Boxed.new w 33 (.slice none 0 0)
  have X1 := Boxed.new (w.alloc (.cells #[.slice none 0 0] 33)) 3 (.int .i64 0)
  have X2 := Boxed.new ((w.alloc (.cells #[.slice none 0 0] 33)).alloc (.cells #[.int .i64 0] 3)) 24 .nilIface
  simp only [World.size_alloc] at X1 X2
  have Y0 : Hid (Boxed (((w.alloc (.cells #[.slice none 0 0] 33)).alloc (.cells #[.int .i64 0] 3)).alloc (.cells #[.nilIface] 24)) w.heap.size 33 (.slice none 0 0)) := (X0.alloc _).alloc _
  have Y1 : Hid (Boxed (((w.alloc (.cells #[.slice none 0 0] 33)).alloc (.cells #[.int .i64 0] 3)).alloc (.cells #[.nilIface] 24)) (w.heap.size + 1) 3 (.int .i64 0)) := X1.alloc _
  have Y2 : Hid (Boxed (((w.alloc (.cells #[.slice none 0 0] 33)).alloc (.cells #[.int .i64 0] 3)).alloc (.cells #[.nilIface] 24)) (w.heap.size + 1 + 1) 24 .nilIface) := X2
  have B0 : Hid (Below w.heap.size w (((w.alloc (.cells #[.slice none 0 0] 33)).alloc (.cells #[.int .i64 0] 3)).alloc (.cells #[.nilIface] 24))) := (((Below.refl _ _).alloc (Nat.le_refl _) _).alloc (by simp) _).alloc (by simp; omega) _
  clear X0 X1 X2
  gi_wp2
  generalize (((w.alloc (.cells #[.slice none 0 0] 33)).alloc (.cells #[.int .i64 0] 3)).alloc (.cells #[.nilIface] 24)) = w0 at *
  refine ⟨trivial, (callsIn_wide.2 (names_any w0 (P0.out.1.below B0.out (Nat.le_refl _)))).mono ?_⟩
  rintro e w1 ⟨b, rfl, hm, hbg, b1⟩
  have B1 : Hid (Below w.heap.size w w1) := B0.out.trans (b1.mono B0.out.size)
  have M1 : Hid (Wm w1 b 4 W4) := hm
  have V0 : Hid (Boxed w1 w.heap.size 33 (.slice none 0 0)) := boxed_below Y0.out b1 Y0.out.lt
  have V1 : Hid (Boxed w1 (w.heap.size + 1) 3 (.int .i64 0)) := boxed_below Y1.out b1 Y1.out.lt
  have V2 : Hid (Boxed w1 (w.heap.size + 1 + 1) 24 .nilIface) := boxed_below Y2.out b1 Y2.out.lt
  have G1 : Hid (w.heap.size + 1 + 1 < b ∧ b < w1.heap.size) := ⟨Nat.lt_of_lt_of_le Y2.out.lt hbg, hm.lt⟩
  clear hm hbg b1 Y0 Y1 Y2 B0
  gi_wp2
  refine ⟨trivial, (callsIn_wide.2 (lines_any s _)).mono ?_⟩
  rintro e w' ⟨rfl, hw⟩
  obtain rfl := hw.symm
  gi_wp2
  have E0 := Boxed.new w1 84 (.map (some b))
  have E1 := Boxed.new (w1.alloc (.cells #[.map (some b)] 84)) 33 (.slice none 0 0)
  have E2 := Boxed.new ((w1.alloc (.cells #[.map (some b)] 84)).alloc (.cells #[.slice none 0 0] 33)) 9 (.string s)
  simp only [World.size_alloc] at E1 E2
  have b3 : Below w1.heap.size w1 (((w1.alloc (.cells #[.map (some b)] 84)).alloc (.cells #[.slice none 0 0] 33)).alloc (.cells #[.string s] 9)) := (((Below.refl _ _).alloc (Nat.le_refl _) _).alloc (by simp) _).alloc (by simp; omega) _
  have I0 : PI w w1.heap.size b [] (((w1.alloc (.cells #[.map (some b)] 84)).alloc (.cells #[.slice none 0 0] 33)).alloc (.cells #[.string s] 9)) :=
    ⟨⟨[], .slice none 0 0, fun _ => rfl, by simp, E1.alloc _, Oro.nil _ _⟩, (E0.alloc _).alloc _, M1.out.below b3 G1.out.2, boxed_below V0.out b3 V0.out.lt, boxed_below V1.out b3 V1.out.lt, boxed_below V2.out b3 V2.out.lt, B1.out.trans (b3.mono B1.out.size)⟩
  have Sz : (((w1.alloc (.cells #[.map (some b)] 84)).alloc (.cells #[.slice none 0 0] 33)).alloc (.cells #[.string s] 9)).heap.size = w1.heap.size + 3 := by simp
  generalize (((w1.alloc (.cells #[.map (some b)] 84)).alloc (.cells #[.slice none 0 0] 33)).alloc (.cells #[.string s] 9)) = w3 at *
  have HG := G1.out
  clear E0 E1 b3 M1 V0 V1 V2 B1
  generalize w1.heap.size = m at *
  refine range_lines s hsx (m + 1 + 1) rfl E2 (PI w m b) (PX w) (fun xs W W' a h => h.aside HG (by rw [Sz] at a; exact a)) (fun xs W W' a h => h.aside HG (by rw [Sz] at a; exact a)) I0
    (fun x => { tmps := #[.string s, undef, .pointer (some ⟨w.heap.size, 0, none⟩), .pointer (some ⟨w.heap.size + 1, 0, none⟩), .pointer (some ⟨w.heap.size + 1 + 1, 0, none⟩), .pointer (some ⟨m, 0, none⟩), .pointer (some ⟨m + 1, 0, none⟩), .string x, undef, undef, .map (some b), .string s, .func (.func 41) #[] #[.pointer (some ⟨m + 1 + 1, 0, none⟩)], .string x, undef, undef, undef, undef, undef, undef, undef, undef, undef, undef, undef, undef, undef, undef, undef, undef, undef, undef], defers := [] }) ?assign ?body ?done ?stop
  case assign =>
    intro l x W K hK
    gi_wp2
    exact hK
  case body =>
    rintro l pre x post W ⟨⟨acc, v, hgo, hlen, hv, ho⟩, hm5, hmm, h0, h1, h2, hB⟩ hpx
    obtain ⟨aa, cc, rfl⟩ := ho.len
    have hxs : x.size ≤ 9223372036854775806 := by
      have h9 : tl x ∈ Tx.lines (tl s) := by rw [← hpx]; simp
      have h8 : (tl x).length ≤ (tl s).length := Tx.lines_len h9
      have h7 : (tl x).length = x.size := rfl
      have h6 : (tl s).length = s.size := rfl
      omega
    have c5 := hm5.cell
    have c6 := hv.cell
    have f6 := hv.frozen
    have NX := onext_any b acc.length hlen x W hxs hmm (P0.out.2.1.below hB) (P0.out.2.2.below hB)
    have NX' : Hid (Calls Tryd.prog 40 #[.map (some b), .int .i64 (acc.length : Nat), .string x] W (OnextSays acc.length x.data.toList W)) := NX
    clear NX
    gi_wp2
    refine ⟨trivial, (CallsIn.inRound l (callsIn_wide.2 NX'.out)).mono ?_⟩
    clear NX'
    rintro e w2 ⟨⟨op, ou, on, oa⟩, u, rfl, hu, hof, b2⟩
    have bA : Below w2.heap.size w2 (w2.alloc (Obj.cells #[.int .i64 op, .int .i64 ou, .int .i64 on, .int .i64 oa] 51)) := (Below.refl _ _).alloc (Nat.le_refl _) _
    have b4 : Below W.heap.size W (w2.alloc (Obj.cells #[.int .i64 op, .int .i64 ou, .int .i64 on, .int .i64 oa] 51)) := b2.trans (bA.mono b2.size)
    have S4 : Stays (m + 3) (m + 1 + 1) W (w2.alloc (Obj.cells #[.int .i64 op, .int .i64 ou, .int .i64 on, .int .i64 oa] 51)) := Stays.below b4
    have g0 := boxed_below h0 b4 h0.lt
    have g1 := boxed_below h1 b4 h1.lt
    have g2 := boxed_below h2 b4 h2.lt
    have g5 := boxed_below hm5 b4 hm5.lt
    have g6 := boxed_below hv b4 hv.lt
    have gm := hmm.below b4 hmm.lt
    have gO := ho.below b4
    have gB := hB.trans (b4.mono hB.size)
    have gR : Orb (w2.alloc (Obj.cells #[.int .i64 op, .int .i64 ou, .int .i64 on, .int .i64 oa] 51)) w2.heap.size ⟨op, ou, on, oa⟩ := Orb.mk' w2 ⟨op, ou, on, oa⟩
    clear h0 h1 h2 hm5 hv hmm ho hB b2 bA b4 c5 c6 f6
    unfold OrV.val
    simp only
    rcases hu with ⟨hf, rfl⟩ | ⟨hf, rfl⟩
    · have hol := hof hf
      obtain ⟨hgk, h60⟩ := go_ok (acc := acc) (r := ([] : List (List UInt8))) hf hol
      have HGo : ∀ post, Od.go [] ((pre ++ [x]).map tl ++ post) = Od.go (acc ++ [⟨op, ou, on, oa⟩]) post := fun post => by
        rw [List.map_append, List.append_assoc, hgo]
        exact (go_ok hf hol).1
      have k0 := gR.cells
      have k6 := g6.cell
      have kf := g6.frozen
      obtain ⟨k00, k01, k02, k03⟩ := k0
      simp only at k00 k01 k02 k03
      have bA2 : Below (w2.alloc (Obj.cells #[.int .i64 op, .int .i64 ou, .int .i64 on, .int .i64 oa] 51)).heap.size (w2.alloc (Obj.cells #[.int .i64 op, .int .i64 ou, .int .i64 on, .int .i64 oa] 51)) ((w2.alloc (Obj.cells #[.int .i64 op, .int .i64 ou, .int .i64 on, .int .i64 oa] 51)).alloc (Obj.cells #[.int .i64 op, .int .i64 ou, .int .i64 on, .int .i64 oa] 51)) := (Below.refl _ _).alloc (Nat.le_refl _) _
      have Rc : Orc ((w2.alloc (Obj.cells #[.int .i64 op, .int .i64 ou, .int .i64 on, .int .i64 oa] 51)).alloc (Obj.cells #[.int .i64 op, .int .i64 ou, .int .i64 on, .int .i64 oa] 51)) ⟨w2.heap.size + 1, 0, none⟩ ⟨op, ou, on, oa⟩ := Orc.mk' ⟨op, ou, on, oa⟩ (by simp)
      have O5 := gO.alloc (Obj.cells #[.int .i64 op, .int .i64 ou, .int .i64 on, .int .i64 oa] 51)
      have L5 : m + 3 ≤ ((w2.alloc (Obj.cells #[.int .i64 op, .int .i64 ou, .int .i64 on, .int .i64 oa] 51)).alloc (Obj.cells #[.int .i64 op, .int .i64 ou, .int .i64 on, .int .i64 oa] 51)).heap.size := by have := g6.lt; simp at this ⊢; omega
      gi_wp2_with (gi_at_builtin; refine app_or_in _ rfl _ _ rfl (m + 3) _ acc rfl O5 _ ⟨op, ou, on, oa⟩ rfl Rc (by omega) L5 ?_; intro v' w6 o6 q6; have g6b := boxed_grown (g6.alloc _) q6 (by intro e; have := (O5.block _ e).1; omega); obtain ⟨a9, c9, rfl⟩ := o6.len; have k6b := g6b.cell; have f6b := g6b.frozen)
      have nb : ∀ k, k < m + 3 → (Value.slice aa acc.length cc).ownBlock ≠ some k := fun k hk e => by have := (O5.block _ e).1; omega
      have nb' : ∀ k, k < m + 3 → (Value.slice a9 (acc ++ [(⟨op, ou, on, oa⟩ : OrV)]).length c9).ownBlock ≠ some k := fun k hk e => by have := (o6.block _ e).1; omega
      have O7 := o6.kept (grownBy_setCell' w6 (m + 1) (.slice a9 (acc ++ [(⟨op, ou, on, oa⟩ : OrV)]).length c9)) (.inr (nb' _ (by omega)))
      have v7 := boxed_put g6b (.slice a9 (acc ++ [(⟨op, ou, on, oa⟩ : OrV)]).length c9)
      have d5 := boxed_other (u := .slice a9 (acc ++ [(⟨op, ou, on, oa⟩ : OrV)]).length c9) (boxed_grown (g5.alloc _) q6 (nb _ (by omega))) (show m ≠ m + 1 by omega)
      have d0 := boxed_other (u := .slice a9 (acc ++ [(⟨op, ou, on, oa⟩ : OrV)]).length c9) (boxed_grown (g0.alloc _) q6 (nb _ (by omega))) (show w.heap.size ≠ m + 1 by omega)
      have d1 := boxed_other (u := .slice a9 (acc ++ [(⟨op, ou, on, oa⟩ : OrV)]).length c9) (boxed_grown (g1.alloc _) q6 (nb _ (by omega))) (show w.heap.size + 1 ≠ m + 1 by omega)
      have d2 := boxed_other (u := .slice a9 (acc ++ [(⟨op, ou, on, oa⟩ : OrV)]).length c9) (boxed_grown (g2.alloc _) q6 (nb _ (by omega))) (show w.heap.size + 1 + 1 ≠ m + 1 by omega)
      have dm : Wm (w6.setCell ⟨m + 1, 0, none⟩ (.slice a9 (acc ++ [(⟨op, ou, on, oa⟩ : OrV)]).length c9)) b 4 W4 := World.ownsMap.setCell (World.ownsMap.kept (World.ownsMap.alloc gm _) q6 (fun e => nb b (by omega) e.symm)) (show b ≠ m + 1 by omega) _
      have dB := ((gB.trans (bA2.mono gB.size)).grown q6 (Nat.le_trans (by omega) L5) (fun k hk => by have := (O5.block _ hk).1; omega)).setCell (p := ⟨m + 1, 0, none⟩) (show w.heap.size ≤ m + 1 by omega) (.slice a9 (acc ++ [(⟨op, ou, on, oa⟩ : OrV)]).length c9)
      have St := ((S4.trans (Stays.below bA2)).trans (Stays.grown O5 q6 (by omega))).trans (Stays.setBoxed (B := m + 3) (cb := m + 1 + 1) g6b (by omega) (.slice a9 (acc ++ [(⟨op, ou, on, oa⟩ : OrV)]).length c9))
      have XX : PI w m b (pre ++ [x]) _ := ⟨⟨acc ++ [⟨op, ou, on, oa⟩], _, HGo, by simp; omega, v7, O7⟩, d5, dm, d0, d1, d2, dB⟩
      simp only [List.length_append, List.length_cons, List.length_nil, Nat.zero_add] at St XX
      try rw [Sz]
      exact ⟨St, XX⟩
    · have HGo : ∀ post, Od.go [] ((pre ++ [x]).map tl ++ post) = .inl (acc.length, lineFault acc.length (tl x)) := fun post => by
        rw [List.map_append, List.append_assoc, hgo]
        exact go_bad hf
      have e0 := boxed_put g0 (.slice none 0 0)
      have e1 := boxed_put (boxed_other (u := .slice none 0 0) g1 (show w.heap.size + 1 ≠ w.heap.size by omega)) (.int .i64 (acc.length : Nat))
      have e2 := boxed_put (boxed_other (u := .int .i64 (acc.length : Nat)) (boxed_other (u := .slice none 0 0) g2 (show w.heap.size + 1 + 1 ≠ w.heap.size by omega)) (show w.heap.size + 1 + 1 ≠ w.heap.size + 1 by omega)) (.iface 68 (.int .i64 (lineFault acc.length x.data.toList)))
      have t0 := Stays.setBoxed (B := m + 3) (cb := m + 1 + 1) g0 (by omega) (.slice none 0 0)
      have t1 := Stays.setBoxed (B := m + 3) (cb := m + 1 + 1) (boxed_other (u := .slice none 0 0) g1 (show w.heap.size + 1 ≠ w.heap.size by omega)) (by omega) (.int .i64 (acc.length : Nat))
      have t2 := Stays.setBoxed (B := m + 3) (cb := m + 1 + 1) (boxed_other (u := .int .i64 (acc.length : Nat)) (boxed_other (u := .slice none 0 0) g2 (show w.heap.size + 1 + 1 ≠ w.heap.size by omega)) (show w.heap.size + 1 + 1 ≠ w.heap.size + 1 by omega)) (by omega) (.iface 68 (.int .i64 (lineFault acc.length x.data.toList)))
      have St := ((S4.trans t0).trans t1).trans t2
      have Bt := ((gB.setCell (p := ⟨w.heap.size, 0, none⟩) (Nat.le_refl _) (.slice none 0 0)).setCell (p := ⟨w.heap.size + 1, 0, none⟩) (by simp) (.int .i64 (acc.length : Nat))).setCell (p := ⟨w.heap.size + 1 + 1, 0, none⟩) (by simp; omega) (.iface 68 (.int .i64 (lineFault acc.length x.data.toList)))
      have q0 := boxed_other (u := .iface 68 (.int .i64 (lineFault acc.length x.data.toList))) (boxed_other (u := .int .i64 (acc.length : Nat)) e0 (show w.heap.size ≠ w.heap.size + 1 by omega)) (show w.heap.size ≠ w.heap.size + 1 + 1 by omega)
      have q1 := boxed_other (u := .iface 68 (.int .i64 (lineFault acc.length x.data.toList))) e1 (show w.heap.size + 1 ≠ w.heap.size + 1 + 1 by omega)
      have XX : PX w (pre ++ [x]) _ := ⟨⟨acc.length, lineFault acc.length (tl x), _, HGo, q0, q1, e2, Er.no hf⟩, Bt⟩
      have SX : Hid (Stays w3.heap.size (m + 1 + 1) W ((((w2.alloc (Obj.cells #[.int .i64 op, .int .i64 ou, .int .i64 on, .int .i64 oa] 51)).setCell ⟨w.heap.size, 0, none⟩ (.slice none 0 0)).setCell ⟨w.heap.size + 1, 0, none⟩ (.int .i64 (acc.length : Nat))).setCell ⟨w.heap.size + 1 + 1, 0, none⟩ (.iface 68 (.int .i64 (lineFault acc.length x.data.toList)))).drew ∧ PX w (pre ++ [x]) ((((w2.alloc (Obj.cells #[.int .i64 op, .int .i64 ou, .int .i64 on, .int .i64 oa] 51)).setCell ⟨w.heap.size, 0, none⟩ (.slice none 0 0)).setCell ⟨w.heap.size + 1, 0, none⟩ (.int .i64 (acc.length : Nat))).setCell ⟨w.heap.size + 1 + 1, 0, none⟩ (.iface 68 (.int .i64 (lineFault acc.length x.data.toList)))).drew) := by
        unfold Hid
        rw [Sz]
        exact ⟨St.drew, XX.res, XX.below.drew⟩
      clear e0 e1 e2 t0 t1 t2 St Bt q0 q1 XX
      have k0 := g0.cell
      have k1 := g1.cell
      have k2 := g2.cell
      have k6 := g6.cell
      have kf0 := g0.frozen
      have kf1 := g1.frozen
      have kf2 := g2.frozen
      gi_wp2
      all_goals gi_region
      all_goals gi_wp2
      all_goals exact SX
  case done =>
    rintro D xs W hD hxs ⟨⟨acc, v, hgo, hlen, hv, ho⟩, hm5, hmm, h0, h1, h2, hB⟩ hK
    obtain ⟨aa, cc, rfl⟩ := ho.len
    rw [Sz] at hD
    have c6 := hv.cell
    have c0 := h0.cell
    have c1 := h1.cell
    have c2 := h2.cell
    have f0 := h0.frozen
    have f1 := h1.frozen
    have f2 := h2.frozen
    have PS : ParSays (tl s) acc 0 0 := by
      have e : Od.parse (tl s) = .inr acc := by
        unfold Od.parse
        rw [← hxs]
        have := hgo []
        rw [List.append_nil] at this
        rw [this]
        rfl
      unfold ParSays
      rw [e]
      exact ⟨rfl, rfl, rfl⟩
    have e0 := boxed_put h0 (.slice aa acc.length cc)
    have e1 := boxed_put (boxed_other (u := .slice aa acc.length cc) h1 (show w.heap.size + 1 ≠ w.heap.size by omega)) (.int .i64 0)
    have e2 := boxed_put (boxed_other (u := .int .i64 0) (boxed_other (u := .slice aa acc.length cc) h2 (show w.heap.size + 1 + 1 ≠ w.heap.size by omega)) (show w.heap.size + 1 + 1 ≠ w.heap.size + 1 by omega)) .nilIface
    have q0 := boxed_other (u := .nilIface) (boxed_other (u := .int .i64 0) e0 (show w.heap.size ≠ w.heap.size + 1 by omega)) (show w.heap.size ≠ w.heap.size + 1 + 1 by omega)
    have q1 := boxed_other (u := .nilIface) e1 (show w.heap.size + 1 ≠ w.heap.size + 1 + 1 by omega)
    have Bt := ((hB.setCell (p := ⟨w.heap.size, 0, none⟩) (Nat.le_refl _) (.slice aa acc.length cc)).setCell (p := ⟨w.heap.size + 1, 0, none⟩) (by simp) (.int .i64 0)).setCell (p := ⟨w.heap.size + 1 + 1, 0, none⟩) (by simp; omega) .nilIface
    have K9 : ((((W.setCell ⟨w.heap.size, 0, none⟩ (.slice aa acc.length cc)).setCell ⟨w.heap.size + 1, 0, none⟩ (.int .i64 0)).setCell ⟨w.heap.size + 1 + 1, 0, none⟩ .nilIface)).heap[D]? = some (.deferred (some [])) := by
      rw [Below.heap_setCell _ _ _ _ (by show D ≠ _; simp; omega), Below.heap_setCell _ _ _ _ (by show D ≠ _; simp; omega), Below.heap_setCell _ _ _ _ (by show D ≠ _; simp; omega)]
      exact hK
    have nb' : ∀ k, k < m + 3 → (Value.slice aa acc.length cc).ownBlock ≠ some k := fun k hk e => by have := (ho.block _ e).1; omega
    have O9 := ((ho.kept (grownBy_setCell' W w.heap.size (.slice aa acc.length cc)) (.inr (nb' _ (by omega)))).kept (grownBy_setCell' _ (w.heap.size + 1) (.int .i64 0)) (.inr (nb' _ (by omega)))).kept (grownBy_setCell' _ (w.heap.size + 1 + 1) .nilIface) (.inr (nb' _ (by omega)))
    gi_wp2
    generalize ((((W.setCell ⟨w.heap.size, 0, none⟩ (.slice aa acc.length cc)).setCell ⟨w.heap.size + 1, 0, none⟩ (.int .i64 0)).setCell ⟨w.heap.size + 1 + 1, 0, none⟩ .nilIface)) = w9 at *
    refine ⟨by simp, .inl ⟨_, _, rfl, run_takeDeferred K9, ?_⟩⟩
    have z0 : Boxed (w9.putObj D (.deferred none)) w.heap.size 33 (.slice aa acc.length cc) := (World.putObj_heap_other (by omega)).trans q0
    have z1 : Boxed (w9.putObj D (.deferred none)) (w.heap.size + 1) 3 (.int .i64 0) := (World.putObj_heap_other (by omega)).trans q1
    have z2 : Boxed (w9.putObj D (.deferred none)) (w.heap.size + 1 + 1) 24 .nilIface := (World.putObj_heap_other (by omega)).trans e2
    have y0 := z0.cell
    have y1 := z1.cell
    have y2 := z2.cell
    have O10 : Oro (w9.putObj D (.deferred none)) (m + 3) (.slice aa acc.length cc) acc := ownsRow_putObj O9 _ K9 rfl
    have B10 : Below w.heap.size w (w9.putObj D (.deferred none)) := Bt.trans (belowK_b (w := w) (Nat.le_refl _) w9 D _ _ (by omega) K9 rfl rfl)
    refine ⟨.tuple #[.slice aa acc.length cc, .int .i64 0, .nilIface], by simp [results, Tryd.results20, go_sem, y0, y1, y2], ?_⟩
    exact ⟨_, _, _, 0, acc, rfl, O10.l, Er.nil, PS, B10⟩
  case stop =>
    rintro D pre post W hD hpre ⟨⟨k, f, u, hgo, h0, h1, h2, he⟩, hB⟩ hK
    rw [Sz] at hD
    have PS : ParSays (tl s) [] k f := by
      have e : Od.parse (tl s) = .inl (k, f) := by
        unfold Od.parse
        rw [← hpre]
        exact hgo post
      unfold ParSays
      rw [e]
      exact ⟨rfl, rfl, rfl⟩
    gi_wp2
    refine ⟨by simp, .inl ⟨_, _, rfl, run_takeDeferred hK, ?_⟩⟩
    have z0 : Boxed (W.putObj D (.deferred none)) w.heap.size 33 (.slice none 0 0) := (World.putObj_heap_other (by omega)).trans h0
    have z1 : Boxed (W.putObj D (.deferred none)) (w.heap.size + 1) 3 (.int .i64 k) := (World.putObj_heap_other (by omega)).trans h1
    have z2 : Boxed (W.putObj D (.deferred none)) (w.heap.size + 1 + 1) 24 u := (World.putObj_heap_other (by omega)).trans h2
    have y0 := z0.cell
    have y1 := z1.cell
    have y2 := z2.cell
    have B10 : Below w.heap.size w (W.putObj D (.deferred none)) := hB.trans (belowK_b (w := w) (Nat.le_refl _) W D _ _ (by omega) hK rfl rfl)
    refine ⟨.tuple #[.slice none 0 0, .int .i64 k, u], by simp [results, Tryd.results20, go_sem, y0, y1, y2], ?_⟩
    exact ⟨_, _, _, f, [], rfl, (Oro.nil _ 0).l, he, PS, B10⟩
end Go.Proofs.YtkceccajamdbjaaDoor
