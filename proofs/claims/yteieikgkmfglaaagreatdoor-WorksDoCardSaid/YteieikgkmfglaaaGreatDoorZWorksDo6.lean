/- The reference's Copy. · Worlds: the reference's Find. · Worlds: the reference's On and number. · What the reference says of a step (cut out of RfN). · What the reference says of the cells beside one, and of a step. · Cells beside one another: plain mathematics. -/
import Derived.Test.YteieikgkmfglaaaGreatDoorZWorksDo5
import Derived.Test.YteieikgkmfglaaaGreatDoorZWorksDo2
import Derived.Test.YteieikgkmfglaaaGreatDoorZWorksDo1
import Derived.Deep.DeepCutAuto
namespace Go.Proofs.YteieikgkmfglaaaGreatDoor
open Go.RowKit
set_option linter.unusedVariables false
/-- a field's four cells, in a block of their own. -/
def Fx (w : World) (z : Nat) (c0 c1 c2 c3 : Value) : Prop := w.heap[z]? = some (.cells #[c0, c1, c2, c3] 25 (0, 0))
theorem Fx.lt {w : World} {z : Nat} {c0 c1 c2 c3 : Value} (h : Fx w z c0 c1 c2 c3) : z < w.heap.size := lt_of_block h
theorem Fx.cells {w : World} {z : Nat} {c0 c1 c2 c3 : Value} (h : Fx w z c0 c1 c2 c3) : w.cell? ⟨z, 0, none⟩ = some c0 ∧ w.cell? ⟨z, 1, none⟩ = some c1 ∧ w.cell? ⟨z, 2, none⟩ = some c2 ∧ w.cell? ⟨z, 3, none⟩ = some c3 := by
 unfold Fx at h
 refine ⟨?_, ?_, ?_, ?_⟩ <;> simp [World.cell?, h]
theorem Fx.thaw {w : World} {z : Nat} {c0 c1 c2 c3 : Value} (h : Fx w z c0 c1 c2 c3) (i : Nat) : w.frozen? ⟨z, i, none⟩ = false := by
 unfold Fx at h
 simp [World.frozen?, h]
theorem Fx.new {w : World} {z : Nat} (c0 c1 c2 c3 : Value) (hz : w.heap.size = z) : Fx (w.alloc (.cells #[c0, c1, c2, c3] 25)) z c0 c1 c2 c3 := by
 subst hz
 exact heap_alloc_new _ _
theorem Fx.below {w w' : World} {z n : Nat} {c0 c1 c2 c3 : Value} (h : Fx w z c0 c1 c2 c3) (hb : Below n w w') (hn : z < n) : Fx w' z c0 c1 c2 c3 := (hb.block z hn).trans h
theorem Fx.kp {w w' : World} {z y : Nat} {c0 c1 c2 c3 : Value} (h : Fx w z c0 c1 c2 c3) (k : Kp y w w') (hn : z ≠ y) : Fx w' z c0 c1 c2 c3 := (k.block z h.lt hn).trans h
theorem Fx.set0 {w : World} {z : Nat} {c0 c1 c2 c3 : Value} (h : Fx w z c0 c1 c2 c3) (u : Value) : Fx (w.setCell ⟨z, 0, none⟩ u) z u c1 c2 c3 := heap_setCell_same w z 0 _ _ u h
theorem Fx.set1 {w : World} {z : Nat} {c0 c1 c2 c3 : Value} (h : Fx w z c0 c1 c2 c3) (u : Value) : Fx (w.setCell ⟨z, 1, none⟩ u) z c0 u c2 c3 := heap_setCell_same w z 1 _ _ u h
theorem Fx.set2 {w : World} {z : Nat} {c0 c1 c2 c3 : Value} (h : Fx w z c0 c1 c2 c3) (u : Value) : Fx (w.setCell ⟨z, 2, none⟩ u) z c0 c1 u c3 := heap_setCell_same w z 2 _ _ u h
theorem Fx.set3 {w : World} {z : Nat} {c0 c1 c2 c3 : Value} (h : Fx w z c0 c1 c2 c3) (u : Value) : Fx (w.setCell ⟨z, 3, none⟩ u) z c0 c1 c2 u := heap_setCell_same w z 3 _ _ u h
theorem owns_kpn {z : Nat} {w w' : World} {base : Nat} {T : TypeId} {size : Nat} {u : Value} {n : Nat} {cs : List Value} (h : w.ownsRow base T size u n cs) (k : Kp z w w') (hz : ∀ b, u.ownBlock = some b → b ≠ z) : w'.ownsRow base T size u n cs := by
 refine ⟨h.1, ?_⟩
 rcases h.2 with h1 | ⟨g, cap, cur, h1, h2, h3, h4⟩
 ·exact .inl h1
 ·exact .inr ⟨g, cap, cur, h1, h2, (k.block g (lt_of_block h3) (hz g (by rw [h1]; rfl))).trans h3, h4⟩
theorem Bw.kp {w w' : World} {z y : Nat} {W : WV} {u1 u2 u3 u4 u5 : Value} (h : Bw w z W u1 u2 u3 u4 u5) (k : Kp y w w') (hn : z ≠ y) : Bw w' z W u1 u2 u3 u4 u5 := by
 have hz := h.lt
 have hc : ∀ i, w'.cell? ⟨z, i, none⟩ = w.cell? ⟨z, i, none⟩ := fun i => by
  have := k.block z hz hn
  simp only [World.cell?, this]
 exact ⟨by rw [hc]; exact h.c0, by rw [hc]; exact h.c1, by rw [hc]; exact h.c2, by rw [hc]; exact h.c3, by rw [hc]; exact h.c4, by rw [hc]; exact h.c5, by rw [hc]; exact h.c6, by rw [hc]; exact h.c7, by rw [hc]; exact h.c8⟩
set_option maxRecDepth 100000 in
set_option maxHeartbeats 8000000 in
theorem rcopy_any (v : Value) (W : WV) (w : World) (h : Wl w v W) (hl : WLen W) :
  Calls Tryz.prog 23 #[v] w fun e w' => ∃ u, e = .returned u ∧ Wi w' w.heap.size u W ∧ Below w.heap.size w w' := by
 have H : Hid (Wl w v W) := h
 have L : Hid (WLen W) := hl
 obtain ⟨u1, u2, u3, u4, u5, rfl, -, -, -, -, -⟩ := h
 clear hl
 go_enter Tryz.func23, Tryz.ntmps23
 go_upto_region 2 with fail
 have B0 : Hid (Below w.heap.size w (((w.alloc (.cells #[.int .i64 W.turn, .int .i64 W.next, .int .i64 W.wide, .int .i64 W.high, u1, u2, u3, u4, u5] 29)).alloc (.cells #[.int .i64 0, .int .i64 0, .int .i64 0, .int .i64 0, .slice none 0 0, .slice none 0 0, .slice none 0 0, .slice none 0 0, .slice none 0 0] 29)).alloc (.cells #[.int .i64 0, .int .i64 0, .slice none 0 0, .slice none 0 0] 25))) := (((Below.refl _ _).alloc (Nat.le_refl _) _).alloc (by simp) _).alloc (by simp; omega) _
 have X0 : Hid (Bw (((w.alloc (.cells #[.int .i64 W.turn, .int .i64 W.next, .int .i64 W.wide, .int .i64 W.high, u1, u2, u3, u4, u5] 29)).alloc (.cells #[.int .i64 0, .int .i64 0, .int .i64 0, .int .i64 0, .slice none 0 0, .slice none 0 0, .slice none 0 0, .slice none 0 0, .slice none 0 0] 29)).alloc (.cells #[.int .i64 0, .int .i64 0, .slice none 0 0, .slice none 0 0] 25)) w.heap.size W u1 u2 u3 u4 u5) := ((Bw.mk' (w := w) W u1 u2 u3 u4 u5 rfl).below ((Below.refl _ _).alloc (Nat.le_refl _) _) (by simp)).below ((Below.refl _ _).alloc (Nat.le_refl _) _) (by simp; omega)
 have R0 : Hid (Wx (((w.alloc (.cells #[.int .i64 W.turn, .int .i64 W.next, .int .i64 W.wide, .int .i64 W.high, u1, u2, u3, u4, u5] 29)).alloc (.cells #[.int .i64 0, .int .i64 0, .int .i64 0, .int .i64 0, .slice none 0 0, .slice none 0 0, .slice none 0 0, .slice none 0 0, .slice none 0 0] 29)).alloc (.cells #[.int .i64 0, .int .i64 0, .slice none 0 0, .slice none 0 0] 25)) (w.heap.size + 1) (.int .i64 0) (.int .i64 0) (.int .i64 0) (.int .i64 0) (.slice none 0 0) (.slice none 0 0) (.slice none 0 0) (.slice none 0 0) (.slice none 0 0)) := (Wx.new _ _ _ _ _ _ _ _ _ (by simp)).below ((Below.refl _ _).alloc (Nat.le_refl _) _) (by simp)
 have F0 : Hid (Fx (((w.alloc (.cells #[.int .i64 W.turn, .int .i64 W.next, .int .i64 W.wide, .int .i64 W.high, u1, u2, u3, u4, u5] 29)).alloc (.cells #[.int .i64 0, .int .i64 0, .int .i64 0, .int .i64 0, .slice none 0 0, .slice none 0 0, .slice none 0 0, .slice none 0 0, .slice none 0 0] 29)).alloc (.cells #[.int .i64 0, .int .i64 0, .slice none 0 0, .slice none 0 0] 25)) (w.heap.size + 1 + 1) (.int .i64 0) (.int .i64 0) (.slice none 0 0) (.slice none 0 0)) := Fx.new _ _ _ _ (by simp)
 have S0 : Hid (w.heap.size + 3 ≤ (((w.alloc (.cells #[.int .i64 W.turn, .int .i64 W.next, .int .i64 W.wide, .int .i64 W.high, u1, u2, u3, u4, u5] 29)).alloc (.cells #[.int .i64 0, .int .i64 0, .int .i64 0, .int .i64 0, .slice none 0 0, .slice none 0 0, .slice none 0 0, .slice none 0 0, .slice none 0 0] 29)).alloc (.cells #[.int .i64 0, .int .i64 0, .slice none 0 0, .slice none 0 0] 25)).heap.size) := by unfold Hid; simp
 generalize (((w.alloc (.cells #[.int .i64 W.turn, .int .i64 W.next, .int .i64 W.wide, .int .i64 W.high, u1, u2, u3, u4, u5] 29)).alloc (.cells #[.int .i64 0, .int .i64 0, .int .i64 0, .int .i64 0, .slice none 0 0, .slice none 0 0, .slice none 0 0, .slice none 0 0, .slice none 0 0] 29)).alloc (.cells #[.int .i64 0, .int .i64 0, .slice none 0 0, .slice none 0 0] 25)) = w0 at *
 have t := F0.out.thaw 0
 obtain ⟨x, -, -, -⟩ := F0.out.cells
 have y := X0.out.c2
 go_upto_region 3 with fail
 have KW : Hid (Kp (w.heap.size + 1 + 1) w0 (w0.setCell ⟨(w.heap.size + 1 + 1), 0, none⟩ (.int .i64 W.wide))) := Kp.set _ _ _
 have F1 : Hid (Fx (w0.setCell ⟨(w.heap.size + 1 + 1), 0, none⟩ (.int .i64 W.wide)) (w.heap.size + 1 + 1) (.int .i64 W.wide) (.int .i64 0) (.slice none 0 0) (.slice none 0 0)) := F0.out.set0 _
 clear t x y
 generalize (w0.setCell ⟨(w.heap.size + 1 + 1), 0, none⟩ (.int .i64 W.wide)) = w1 at *
 have B1 : Hid (Below w.heap.size w w1) := KW.out.below B0.out B0.out.size (by omega)
 have X1 : Hid (Bw w1 w.heap.size W u1 u2 u3 u4 u5) := X0.out.kp KW.out (by omega)
 have R1 : Hid (Wx w1 (w.heap.size + 1) (.int .i64 0) (.int .i64 0) (.int .i64 0) (.int .i64 0) (.slice none 0 0) (.slice none 0 0) (.slice none 0 0) (.slice none 0 0) (.slice none 0 0)) := R0.out.kp KW.out (by omega)
 have S1 : Hid (w.heap.size + 3 ≤ w1.heap.size) := Nat.le_trans S0.out KW.out.size
 clear KW B0 X0 R0 S0
 have t := F1.out.thaw 1
 obtain ⟨-, x, -, -⟩ := F1.out.cells
 have y := X1.out.c3
 go_upto_region 4 with fail
 have KW : Hid (Kp (w.heap.size + 1 + 1) w1 (w1.setCell ⟨(w.heap.size + 1 + 1), 1, none⟩ (.int .i64 W.high))) := Kp.set _ _ _
 have F2 : Hid (Fx (w1.setCell ⟨(w.heap.size + 1 + 1), 1, none⟩ (.int .i64 W.high)) (w.heap.size + 1 + 1) (.int .i64 W.wide) (.int .i64 W.high) (.slice none 0 0) (.slice none 0 0)) := F1.out.set1 _
 clear t x y
 generalize (w1.setCell ⟨(w.heap.size + 1 + 1), 1, none⟩ (.int .i64 W.high)) = w2 at *
 have B2 : Hid (Below w.heap.size w w2) := KW.out.below B1.out B1.out.size (by omega)
 have X2 : Hid (Bw w2 w.heap.size W u1 u2 u3 u4 u5) := X1.out.kp KW.out (by omega)
 have R2 : Hid (Wx w2 (w.heap.size + 1) (.int .i64 0) (.int .i64 0) (.int .i64 0) (.int .i64 0) (.slice none 0 0) (.slice none 0 0) (.slice none 0 0) (.slice none 0 0) (.slice none 0 0)) := R1.out.kp KW.out (by omega)
 have S2 : Hid (w.heap.size + 3 ≤ w2.heap.size) := Nat.le_trans S1.out KW.out.size
 clear KW B1 X1 R1 S1
 obtain ⟨-, -, x, -⟩ := F2.out.cells
 have y := X2.out.c4
 go_wp2_with (at_builtin; refine app_row _ rfl _ _ rfl (w.heap.size + 3) _ [] rfl (Ow.nil _ _) _ W.gs rfl ((H.out.below B2.out).slices.1) (by have := L.out.g; simp only [List.length_nil]; omega) S2.out ?_)
 intro v0 a0 on gn dn
 have BG : Hid (Below w2.heap.size w2 a0) := (Below.refl _ _).grown gn (Nat.le_refl _) (fun k hk => by cases hk)
 try rw [List.nil_append] at on
 have BA : Hid (Below w.heap.size w a0) := B2.out.trans (BG.out.mono B2.out.size)
 have XA : Hid (Bw a0 w.heap.size W u1 u2 u3 u4 u5) := X2.out.below BG.out X2.out.lt
 have RA : Hid (Wx a0 (w.heap.size + 1) (.int .i64 0) (.int .i64 0) (.int .i64 0) (.int .i64 0) (.slice none 0 0) (.slice none 0 0) (.slice none 0 0) (.slice none 0 0) (.slice none 0 0)) := R2.out.below BG.out R2.out.lt
 have FA : Hid (Fx a0 (w.heap.size + 1 + 1) (.int .i64 W.wide) (.int .i64 W.high) (.slice none 0 0) (.slice none 0 0)) := F2.out.below BG.out F2.out.lt
 have SA : Hid (w.heap.size + 3 ≤ a0.heap.size) := Nat.le_trans S2.out BG.out.size
 have P0A : Hid (Ow a0 (w.heap.size + 3) v0 W.gs) := on
 obtain ⟨p0, q0, rfl⟩ := on.len
 clear gn dn on BG x y B2 X2 R2 F2 S2 
 have t := FA.out.thaw 2
 obtain ⟨-, -, x, -⟩ := FA.out.cells
 go_upto_region 5 with fail
 have KW : Hid (Kp (w.heap.size + 1 + 1) a0 (a0.setCell ⟨(w.heap.size + 1 + 1), 2, none⟩ (.slice p0 W.gs.length q0))) := Kp.set _ _ _
 have F3 : Hid (Fx (a0.setCell ⟨(w.heap.size + 1 + 1), 2, none⟩ (.slice p0 W.gs.length q0)) (w.heap.size + 1 + 1) (.int .i64 W.wide) (.int .i64 W.high) (.slice p0 W.gs.length q0) (.slice none 0 0)) := FA.out.set2 _
 clear t x FA
 generalize (a0.setCell ⟨(w.heap.size + 1 + 1), 2, none⟩ (.slice p0 W.gs.length q0)) = w3 at *
 have B3 : Hid (Below w.heap.size w w3) := KW.out.below BA.out BA.out.size (by omega)
 have X3 : Hid (Bw w3 w.heap.size W u1 u2 u3 u4 u5) := XA.out.kp KW.out (by omega)
 have R3 : Hid (Wx w3 (w.heap.size + 1) (.int .i64 0) (.int .i64 0) (.int .i64 0) (.int .i64 0) (.slice none 0 0) (.slice none 0 0) (.slice none 0 0) (.slice none 0 0) (.slice none 0 0)) := RA.out.kp KW.out (by omega)
 have S3 : Hid (w.heap.size + 3 ≤ w3.heap.size) := Nat.le_trans SA.out KW.out.size
 have P0_3 : Hid (Ow w3 (w.heap.size + 3) (.slice p0 W.gs.length q0) W.gs) := owns_kpn P0A.out KW.out (fun b hb => by have := (P0A.out.block b hb).1; omega)
 clear KW BA XA RA SA P0A
 obtain ⟨-, -, -, x⟩ := F3.out.cells
 have y := X3.out.c5
 go_wp2_with (at_builtin; refine app_row _ rfl _ _ rfl (w.heap.size + 3) _ [] rfl (Ow.nil _ _) _ W.os rfl ((H.out.below B3.out).slices.2.1) (by have := L.out.o; simp only [List.length_nil]; omega) S3.out ?_)
 intro v1 a1 on gn dn
 have BG : Hid (Below w3.heap.size w3 a1) := (Below.refl _ _).grown gn (Nat.le_refl _) (fun k hk => by cases hk)
 try rw [List.nil_append] at on
 have BA : Hid (Below w.heap.size w a1) := B3.out.trans (BG.out.mono B3.out.size)
 have XA : Hid (Bw a1 w.heap.size W u1 u2 u3 u4 u5) := X3.out.below BG.out X3.out.lt
 have RA : Hid (Wx a1 (w.heap.size + 1) (.int .i64 0) (.int .i64 0) (.int .i64 0) (.int .i64 0) (.slice none 0 0) (.slice none 0 0) (.slice none 0 0) (.slice none 0 0) (.slice none 0 0)) := R3.out.below BG.out R3.out.lt
 have FA : Hid (Fx a1 (w.heap.size + 1 + 1) (.int .i64 W.wide) (.int .i64 W.high) (.slice p0 W.gs.length q0) (.slice none 0 0)) := F3.out.below BG.out F3.out.lt
 have SA : Hid (w.heap.size + 3 ≤ a1.heap.size) := Nat.le_trans S3.out BG.out.size
 have P0A : Hid (Ow a1 (w.heap.size + 3) (.slice p0 W.gs.length q0) W.gs) := P0_3.out.below BG.out
 have D0_1 : Hid (Dif (.slice p0 W.gs.length q0) v1) := Dif.of (n := w3.heap.size) (fun b hb => (P0_3.out.block b hb).2) (fun b hb => by
  rcases dn with dn | dn
  ·rw [hb] at dn; cases dn
  ·rw [hb] at dn; injection dn with dn; omega)
 have P1A : Hid (Ow a1 (w.heap.size + 3) v1 W.os) := on
 obtain ⟨p1, q1, rfl⟩ := on.len
 clear gn dn on BG x y B3 X3 R3 F3 S3 P0_3
 have t := FA.out.thaw 3
 obtain ⟨-, -, -, x⟩ := FA.out.cells
 go_upto_region 6 with fail
 have KW : Hid (Kp (w.heap.size + 1 + 1) a1 (a1.setCell ⟨(w.heap.size + 1 + 1), 3, none⟩ (.slice p1 W.os.length q1))) := Kp.set _ _ _
 have F4 : Hid (Fx (a1.setCell ⟨(w.heap.size + 1 + 1), 3, none⟩ (.slice p1 W.os.length q1)) (w.heap.size + 1 + 1) (.int .i64 W.wide) (.int .i64 W.high) (.slice p0 W.gs.length q0) (.slice p1 W.os.length q1)) := FA.out.set3 _
 clear t x FA
 generalize (a1.setCell ⟨(w.heap.size + 1 + 1), 3, none⟩ (.slice p1 W.os.length q1)) = w4 at *
 have B4 : Hid (Below w.heap.size w w4) := KW.out.below BA.out BA.out.size (by omega)
 have X4 : Hid (Bw w4 w.heap.size W u1 u2 u3 u4 u5) := XA.out.kp KW.out (by omega)
 have R4 : Hid (Wx w4 (w.heap.size + 1) (.int .i64 0) (.int .i64 0) (.int .i64 0) (.int .i64 0) (.slice none 0 0) (.slice none 0 0) (.slice none 0 0) (.slice none 0 0) (.slice none 0 0)) := RA.out.kp KW.out (by omega)
 have S4 : Hid (w.heap.size + 3 ≤ w4.heap.size) := Nat.le_trans SA.out KW.out.size
 have P0_4 : Hid (Ow w4 (w.heap.size + 3) (.slice p0 W.gs.length q0) W.gs) := owns_kpn P0A.out KW.out (fun b hb => by have := (P0A.out.block b hb).1; omega)
 have P1_4 : Hid (Ow w4 (w.heap.size + 3) (.slice p1 W.os.length q1) W.os) := owns_kpn P1A.out KW.out (fun b hb => by have := (P1A.out.block b hb).1; omega)
 clear KW BA XA RA SA P0A P1A
 go_upto_region 7 with fail
 obtain ⟨z, hz⟩ : ∃ z, w4.heap.size = z := ⟨_, rfl⟩
 have SZ : Hid (w.heap.size + 3 ≤ z) := by rw [← hz]; exact S4.out
 have BN : Hid (Below w4.heap.size w4 (w4.alloc (.cells #[.int .i64 0, .int .i64 0, .int .i64 0, .int .i64 0, .slice none 0 0, .slice none 0 0, .slice none 0 0, .slice none 0 0, .slice none 0 0] 29))) := (Below.refl _ _).alloc (Nat.le_refl _) _
 have Y5 : Hid (Wx (w4.alloc (.cells #[.int .i64 0, .int .i64 0, .int .i64 0, .int .i64 0, .slice none 0 0, .slice none 0 0, .slice none 0 0, .slice none 0 0, .slice none 0 0] 29)) z (.int .i64 0) (.int .i64 0) (.int .i64 0) (.int .i64 0) (.slice none 0 0) (.slice none 0 0) (.slice none 0 0) (.slice none 0 0) (.slice none 0 0)) := Wx.new _ _ _ _ _ _ _ _ _ hz
 have Q0 : Hid (∀ b, ((.slice p0 W.gs.length q0) : Value).ownBlock = some b → b ≠ z) := fun b hb => by have := (P0_4.out.block b hb).2; omega
 have Q1 : Hid (∀ b, ((.slice p1 W.os.length q1) : Value).ownBlock = some b → b ≠ z) := fun b hb => by have := (P1_4.out.block b hb).2; omega
 rw [hz]
 generalize (w4.alloc (.cells #[.int .i64 0, .int .i64 0, .int .i64 0, .int .i64 0, .slice none 0 0, .slice none 0 0, .slice none 0 0, .slice none 0 0, .slice none 0 0] 29)) = w5 at *
 have B5 : Hid (Below w.heap.size w w5) := B4.out.trans (BN.out.mono B4.out.size)
 have X5 : Hid (Bw w5 w.heap.size W u1 u2 u3 u4 u5) := X4.out.below BN.out X4.out.lt
 have R5 : Hid (Wx w5 (w.heap.size + 1) (.int .i64 0) (.int .i64 0) (.int .i64 0) (.int .i64 0) (.slice none 0 0) (.slice none 0 0) (.slice none 0 0) (.slice none 0 0) (.slice none 0 0)) := R4.out.below BN.out R4.out.lt
 have F5 : Hid (Fx w5 (w.heap.size + 1 + 1) (.int .i64 W.wide) (.int .i64 W.high) (.slice p0 W.gs.length q0) (.slice p1 W.os.length q1)) := F4.out.below BN.out F4.out.lt
 have S5 : Hid (w.heap.size + 3 ≤ w5.heap.size) := Nat.le_trans S4.out BN.out.size
 have P0_5 : Hid (Ow w5 (w.heap.size + 3) (.slice p0 W.gs.length q0) W.gs) := P0_4.out.below BN.out
 have P1_5 : Hid (Ow w5 (w.heap.size + 3) (.slice p1 W.os.length q1) W.os) := P1_4.out.below BN.out
 clear hz BN B4 X4 R4 F4 S4 P0_4 P1_4
 have t := Y5.out.thaw 0
 obtain ⟨x, -, -, -, -, -, -, -, -⟩ := Y5.out.cells
 have y := X5.out.c0
 go_upto_region 8 with fail
 have KW : Hid (Kp z w5 (w5.setCell ⟨z, 0, none⟩ (.int .i64 W.turn))) := Kp.set _ _ _
 have Y6 : Hid (Wx (w5.setCell ⟨z, 0, none⟩ (.int .i64 W.turn)) z (.int .i64 W.turn) (.int .i64 0) (.int .i64 0) (.int .i64 0) (.slice none 0 0) (.slice none 0 0) (.slice none 0 0) (.slice none 0 0) (.slice none 0 0)) := Y5.out.set0 _
 clear t x y Y5
 generalize (w5.setCell ⟨z, 0, none⟩ (.int .i64 W.turn)) = w6 at *
 have B6 : Hid (Below w.heap.size w w6) := KW.out.below B5.out B5.out.size (by have := SZ.out; omega)
 have X6 : Hid (Bw w6 w.heap.size W u1 u2 u3 u4 u5) := X5.out.kp KW.out (by have := SZ.out; omega)
 have R6 : Hid (Wx w6 (w.heap.size + 1) (.int .i64 0) (.int .i64 0) (.int .i64 0) (.int .i64 0) (.slice none 0 0) (.slice none 0 0) (.slice none 0 0) (.slice none 0 0) (.slice none 0 0)) := R5.out.kp KW.out (by have := SZ.out; omega)
 have S6 : Hid (w.heap.size + 3 ≤ w6.heap.size) := Nat.le_trans S5.out KW.out.size
 have F6 : Hid (Fx w6 (w.heap.size + 1 + 1) (.int .i64 W.wide) (.int .i64 W.high) (.slice p0 W.gs.length q0) (.slice p1 W.os.length q1)) := F5.out.kp KW.out (by have := SZ.out; omega)
 have P0_6 : Hid (Ow w6 (w.heap.size + 3) (.slice p0 W.gs.length q0) W.gs) := owns_kpn P0_5.out KW.out (fun b hb => by have := (P0_5.out.block b hb).1; have := Q0.out b hb; have := SZ.out; omega)
 have P1_6 : Hid (Ow w6 (w.heap.size + 3) (.slice p1 W.os.length q1) W.os) := owns_kpn P1_5.out KW.out (fun b hb => by have := (P1_5.out.block b hb).1; have := Q1.out b hb; have := SZ.out; omega)
 clear KW B5 X5 R5 S5 F5 P0_5 P1_5
 have t := Y6.out.thaw 1
 obtain ⟨-, x, -, -, -, -, -, -, -⟩ := Y6.out.cells
 have y := X6.out.c1
 go_upto_region 9 with fail
 have KW : Hid (Kp z w6 (w6.setCell ⟨z, 1, none⟩ (.int .i64 W.next))) := Kp.set _ _ _
 have Y7 : Hid (Wx (w6.setCell ⟨z, 1, none⟩ (.int .i64 W.next)) z (.int .i64 W.turn) (.int .i64 W.next) (.int .i64 0) (.int .i64 0) (.slice none 0 0) (.slice none 0 0) (.slice none 0 0) (.slice none 0 0) (.slice none 0 0)) := Y6.out.set1 _
 clear t x y Y6
 generalize (w6.setCell ⟨z, 1, none⟩ (.int .i64 W.next)) = w7 at *
 have B7 : Hid (Below w.heap.size w w7) := KW.out.below B6.out B6.out.size (by have := SZ.out; omega)
 have X7 : Hid (Bw w7 w.heap.size W u1 u2 u3 u4 u5) := X6.out.kp KW.out (by have := SZ.out; omega)
 have R7 : Hid (Wx w7 (w.heap.size + 1) (.int .i64 0) (.int .i64 0) (.int .i64 0) (.int .i64 0) (.slice none 0 0) (.slice none 0 0) (.slice none 0 0) (.slice none 0 0) (.slice none 0 0)) := R6.out.kp KW.out (by have := SZ.out; omega)
 have S7 : Hid (w.heap.size + 3 ≤ w7.heap.size) := Nat.le_trans S6.out KW.out.size
 have F7 : Hid (Fx w7 (w.heap.size + 1 + 1) (.int .i64 W.wide) (.int .i64 W.high) (.slice p0 W.gs.length q0) (.slice p1 W.os.length q1)) := F6.out.kp KW.out (by have := SZ.out; omega)
 have P0_7 : Hid (Ow w7 (w.heap.size + 3) (.slice p0 W.gs.length q0) W.gs) := owns_kpn P0_6.out KW.out (fun b hb => by have := (P0_6.out.block b hb).1; have := Q0.out b hb; have := SZ.out; omega)
 have P1_7 : Hid (Ow w7 (w.heap.size + 3) (.slice p1 W.os.length q1) W.os) := owns_kpn P1_6.out KW.out (fun b hb => by have := (P1_6.out.block b hb).1; have := Q1.out b hb; have := SZ.out; omega)
 clear KW B6 X6 R6 S6 F6 P0_6 P1_6
 obtain ⟨f0, f1, f2, f3⟩ := F7.out.cells
 obtain ⟨-, -, x2, x3, x4, x5, -, -, -⟩ := Y7.out.cells
 have t2 := Y7.out.thaw 2
 have t3 := Y7.out.thaw 3
 have t4 := Y7.out.thaw 4
 have t5 := Y7.out.thaw 5
 go_upto_region 10 with fail
 have KW : Hid (Kp z w7 ((((w7.setCell ⟨z, 2, none⟩ (.int .i64 W.wide)).setCell ⟨z, 3, none⟩ (.int .i64 W.high)).setCell ⟨z, 4, none⟩ (.slice p0 W.gs.length q0)).setCell ⟨z, 5, none⟩ (.slice p1 W.os.length q1))) := (((Kp.set w7 2 (.int .i64 W.wide)).trans (Kp.set _ 3 (.int .i64 W.high))).trans (Kp.set _ 4 (.slice p0 W.gs.length q0))).trans (Kp.set _ 5 (.slice p1 W.os.length q1))
 have Y8 : Hid (Wx ((((w7.setCell ⟨z, 2, none⟩ (.int .i64 W.wide)).setCell ⟨z, 3, none⟩ (.int .i64 W.high)).setCell ⟨z, 4, none⟩ (.slice p0 W.gs.length q0)).setCell ⟨z, 5, none⟩ (.slice p1 W.os.length q1)) z (.int .i64 W.turn) (.int .i64 W.next) (.int .i64 W.wide) (.int .i64 W.high) (.slice p0 W.gs.length q0) (.slice p1 W.os.length q1) (.slice none 0 0) (.slice none 0 0) (.slice none 0 0)) := (((Y7.out.set2 (.int .i64 W.wide)).set3 (.int .i64 W.high)).set4 (.slice p0 W.gs.length q0)).set5 (.slice p1 W.os.length q1)
 clear f0 f1 f2 f3 x2 x3 x4 x5 t2 t3 t4 t5 Y7
 generalize ((((w7.setCell ⟨z, 2, none⟩ (.int .i64 W.wide)).setCell ⟨z, 3, none⟩ (.int .i64 W.high)).setCell ⟨z, 4, none⟩ (.slice p0 W.gs.length q0)).setCell ⟨z, 5, none⟩ (.slice p1 W.os.length q1)) = w8 at *
 have B8 : Hid (Below w.heap.size w w8) := KW.out.below B7.out B7.out.size (by have := SZ.out; omega)
 have X8 : Hid (Bw w8 w.heap.size W u1 u2 u3 u4 u5) := X7.out.kp KW.out (by have := SZ.out; omega)
 have R8 : Hid (Wx w8 (w.heap.size + 1) (.int .i64 0) (.int .i64 0) (.int .i64 0) (.int .i64 0) (.slice none 0 0) (.slice none 0 0) (.slice none 0 0) (.slice none 0 0) (.slice none 0 0)) := R7.out.kp KW.out (by have := SZ.out; omega)
 have S8 : Hid (w.heap.size + 3 ≤ w8.heap.size) := Nat.le_trans S7.out KW.out.size
 have F8 : Hid (Fx w8 (w.heap.size + 1 + 1) (.int .i64 W.wide) (.int .i64 W.high) (.slice p0 W.gs.length q0) (.slice p1 W.os.length q1)) := F7.out.kp KW.out (by have := SZ.out; omega)
 have P0_8 : Hid (Ow w8 (w.heap.size + 3) (.slice p0 W.gs.length q0) W.gs) := owns_kpn P0_7.out KW.out (fun b hb => by have := (P0_7.out.block b hb).1; have := Q0.out b hb; have := SZ.out; omega)
 have P1_8 : Hid (Ow w8 (w.heap.size + 3) (.slice p1 W.os.length q1) W.os) := owns_kpn P1_7.out KW.out (fun b hb => by have := (P1_7.out.block b hb).1; have := Q1.out b hb; have := SZ.out; omega)
 clear KW B7 X7 R7 S7 F7 P0_7 P1_7
 obtain ⟨-, -, -, -, -, -, x, -, -⟩ := Y8.out.cells
 have y := X8.out.c6
 go_wp2_with (at_builtin; refine app_row _ rfl _ _ rfl (w.heap.size + 3) _ [] rfl (Ow.nil _ _) _ W.gold rfl ((H.out.below B8.out).slices.2.2.1) (by have := L.out.p; simp only [List.length_nil]; omega) S8.out ?_)
 intro v2 a2 on gn dn
 have BG : Hid (Below w8.heap.size w8 a2) := (Below.refl _ _).grown gn (Nat.le_refl _) (fun k hk => by cases hk)
 try rw [List.nil_append] at on
 have BA : Hid (Below w.heap.size w a2) := B8.out.trans (BG.out.mono B8.out.size)
 have XA : Hid (Bw a2 w.heap.size W u1 u2 u3 u4 u5) := X8.out.below BG.out X8.out.lt
 have RA : Hid (Wx a2 (w.heap.size + 1) (.int .i64 0) (.int .i64 0) (.int .i64 0) (.int .i64 0) (.slice none 0 0) (.slice none 0 0) (.slice none 0 0) (.slice none 0 0) (.slice none 0 0)) := R8.out.below BG.out R8.out.lt
 have FA : Hid (Fx a2 (w.heap.size + 1 + 1) (.int .i64 W.wide) (.int .i64 W.high) (.slice p0 W.gs.length q0) (.slice p1 W.os.length q1)) := F8.out.below BG.out F8.out.lt
 have SA : Hid (w.heap.size + 3 ≤ a2.heap.size) := Nat.le_trans S8.out BG.out.size
 have YA : Hid (Wx a2 z (.int .i64 W.turn) (.int .i64 W.next) (.int .i64 W.wide) (.int .i64 W.high) (.slice p0 W.gs.length q0) (.slice p1 W.os.length q1) (.slice none 0 0) (.slice none 0 0) (.slice none 0 0)) := Y8.out.below BG.out Y8.out.lt
 have QN : Hid (∀ b, v2.ownBlock = some b → z < b) := fun b hb => by
  have h1 := Y8.out.lt
  rcases dn with dn | dn
  ·rw [hb] at dn; cases dn
  ·rw [hb] at dn; injection dn with dn; omega
 have P0A : Hid (Ow a2 (w.heap.size + 3) (.slice p0 W.gs.length q0) W.gs) := P0_8.out.below BG.out
 have D0_2 : Hid (Dif (.slice p0 W.gs.length q0) v2) := Dif.of (n := w8.heap.size) (fun b hb => (P0_8.out.block b hb).2) (fun b hb => by
  rcases dn with dn | dn
  ·rw [hb] at dn; cases dn
  ·rw [hb] at dn; injection dn with dn; omega)
 have P1A : Hid (Ow a2 (w.heap.size + 3) (.slice p1 W.os.length q1) W.os) := P1_8.out.below BG.out
 have D1_2 : Hid (Dif (.slice p1 W.os.length q1) v2) := Dif.of (n := w8.heap.size) (fun b hb => (P1_8.out.block b hb).2) (fun b hb => by
  rcases dn with dn | dn
  ·rw [hb] at dn; cases dn
  ·rw [hb] at dn; injection dn with dn; omega)
 have P2A : Hid (Ow a2 (w.heap.size + 3) v2 W.gold) := on
 obtain ⟨p2, q2, rfl⟩ := on.len
 clear gn dn on BG x y B8 X8 R8 F8 S8 Y8 P0_8 P1_8
 have t := YA.out.thaw 6
 obtain ⟨-, -, -, -, -, -, x, -, -⟩ := YA.out.cells
 go_upto_region 11 with fail
 have Q2 : Hid (∀ b, ((.slice p2 W.gold.length q2) : Value).ownBlock = some b → b ≠ z) := fun b hb => by have := QN.out b hb; omega
 clear QN
 have KW : Hid (Kp z a2 (a2.setCell ⟨z, 6, none⟩ (.slice p2 W.gold.length q2))) := Kp.set _ _ _
 have Y9 : Hid (Wx (a2.setCell ⟨z, 6, none⟩ (.slice p2 W.gold.length q2)) z (.int .i64 W.turn) (.int .i64 W.next) (.int .i64 W.wide) (.int .i64 W.high) (.slice p0 W.gs.length q0) (.slice p1 W.os.length q1) (.slice p2 W.gold.length q2) (.slice none 0 0) (.slice none 0 0)) := YA.out.set6 _
 clear t x YA
 generalize (a2.setCell ⟨z, 6, none⟩ (.slice p2 W.gold.length q2)) = w9 at *
 have B9 : Hid (Below w.heap.size w w9) := KW.out.below BA.out BA.out.size (by have := SZ.out; omega)
 have X9 : Hid (Bw w9 w.heap.size W u1 u2 u3 u4 u5) := XA.out.kp KW.out (by have := SZ.out; omega)
 have R9 : Hid (Wx w9 (w.heap.size + 1) (.int .i64 0) (.int .i64 0) (.int .i64 0) (.int .i64 0) (.slice none 0 0) (.slice none 0 0) (.slice none 0 0) (.slice none 0 0) (.slice none 0 0)) := RA.out.kp KW.out (by have := SZ.out; omega)
 have S9 : Hid (w.heap.size + 3 ≤ w9.heap.size) := Nat.le_trans SA.out KW.out.size
 have F9 : Hid (Fx w9 (w.heap.size + 1 + 1) (.int .i64 W.wide) (.int .i64 W.high) (.slice p0 W.gs.length q0) (.slice p1 W.os.length q1)) := FA.out.kp KW.out (by have := SZ.out; omega)
 have P0_9 : Hid (Ow w9 (w.heap.size + 3) (.slice p0 W.gs.length q0) W.gs) := owns_kpn P0A.out KW.out (fun b hb => by have := (P0A.out.block b hb).1; have := Q0.out b hb; have := SZ.out; omega)
 have P1_9 : Hid (Ow w9 (w.heap.size + 3) (.slice p1 W.os.length q1) W.os) := owns_kpn P1A.out KW.out (fun b hb => by have := (P1A.out.block b hb).1; have := Q1.out b hb; have := SZ.out; omega)
 have P2_9 : Hid (Ow w9 (w.heap.size + 3) (.slice p2 W.gold.length q2) W.gold) := owns_kpn P2A.out KW.out (fun b hb => by have := (P2A.out.block b hb).1; have := Q2.out b hb; have := SZ.out; omega)
 clear KW BA XA RA SA FA P0A P1A P2A
 obtain ⟨-, -, -, -, -, -, -, x, -⟩ := Y9.out.cells
 have y := X9.out.c7
 go_wp2_with (at_builtin; refine app_uns _ rfl _ _ rfl (w.heap.size + 3) _ [] rfl (Uno.nil _ _) _ W.us rfl ((H.out.below B9.out).slices.2.2.2.1) (by have := L.out.u; simp only [List.length_nil]; omega) S9.out ?_)
 intro v3 a3 on gn dn
 have BG : Hid (Below w9.heap.size w9 a3) := (Below.refl _ _).grown gn (Nat.le_refl _) (fun k hk => by cases hk)
 try rw [List.nil_append] at on
 have BA : Hid (Below w.heap.size w a3) := B9.out.trans (BG.out.mono B9.out.size)
 have XA : Hid (Bw a3 w.heap.size W u1 u2 u3 u4 u5) := X9.out.below BG.out X9.out.lt
 have RA : Hid (Wx a3 (w.heap.size + 1) (.int .i64 0) (.int .i64 0) (.int .i64 0) (.int .i64 0) (.slice none 0 0) (.slice none 0 0) (.slice none 0 0) (.slice none 0 0) (.slice none 0 0)) := R9.out.below BG.out R9.out.lt
 have FA : Hid (Fx a3 (w.heap.size + 1 + 1) (.int .i64 W.wide) (.int .i64 W.high) (.slice p0 W.gs.length q0) (.slice p1 W.os.length q1)) := F9.out.below BG.out F9.out.lt
 have SA : Hid (w.heap.size + 3 ≤ a3.heap.size) := Nat.le_trans S9.out BG.out.size
 have YA : Hid (Wx a3 z (.int .i64 W.turn) (.int .i64 W.next) (.int .i64 W.wide) (.int .i64 W.high) (.slice p0 W.gs.length q0) (.slice p1 W.os.length q1) (.slice p2 W.gold.length q2) (.slice none 0 0) (.slice none 0 0)) := Y9.out.below BG.out Y9.out.lt
 have QN : Hid (∀ b, v3.ownBlock = some b → z < b) := fun b hb => by
  have h1 := Y9.out.lt
  rcases dn with dn | dn
  ·rw [hb] at dn; cases dn
  ·rw [hb] at dn; injection dn with dn; omega
 have P0A : Hid (Ow a3 (w.heap.size + 3) (.slice p0 W.gs.length q0) W.gs) := P0_9.out.below BG.out
 have D0_3 : Hid (Dif (.slice p0 W.gs.length q0) v3) := Dif.of (n := w9.heap.size) (fun b hb => (P0_9.out.block b hb).2) (fun b hb => by
  rcases dn with dn | dn
  ·rw [hb] at dn; cases dn
  ·rw [hb] at dn; injection dn with dn; omega)
 have P1A : Hid (Ow a3 (w.heap.size + 3) (.slice p1 W.os.length q1) W.os) := P1_9.out.below BG.out
 have D1_3 : Hid (Dif (.slice p1 W.os.length q1) v3) := Dif.of (n := w9.heap.size) (fun b hb => (P1_9.out.block b hb).2) (fun b hb => by
  rcases dn with dn | dn
  ·rw [hb] at dn; cases dn
  ·rw [hb] at dn; injection dn with dn; omega)
 have P2A : Hid (Ow a3 (w.heap.size + 3) (.slice p2 W.gold.length q2) W.gold) := P2_9.out.below BG.out
 have D2_3 : Hid (Dif (.slice p2 W.gold.length q2) v3) := Dif.of (n := w9.heap.size) (fun b hb => (P2_9.out.block b hb).2) (fun b hb => by
  rcases dn with dn | dn
  ·rw [hb] at dn; cases dn
  ·rw [hb] at dn; injection dn with dn; omega)
 have P3A : Hid (Uno a3 (w.heap.size + 3) v3 W.us) := on
 obtain ⟨p3, q3, rfl⟩ := on.len
 clear gn dn on BG x y B9 X9 R9 F9 S9 Y9 P0_9 P1_9 P2_9
 have t := YA.out.thaw 7
 obtain ⟨-, -, -, -, -, -, -, x, -⟩ := YA.out.cells
 go_upto_region 12 with fail
 have Q3 : Hid (∀ b, ((.slice p3 W.us.length q3) : Value).ownBlock = some b → b ≠ z) := fun b hb => by have := QN.out b hb; omega
 clear QN
 have KW : Hid (Kp z a3 (a3.setCell ⟨z, 7, none⟩ (.slice p3 W.us.length q3))) := Kp.set _ _ _
 have Y10 : Hid (Wx (a3.setCell ⟨z, 7, none⟩ (.slice p3 W.us.length q3)) z (.int .i64 W.turn) (.int .i64 W.next) (.int .i64 W.wide) (.int .i64 W.high) (.slice p0 W.gs.length q0) (.slice p1 W.os.length q1) (.slice p2 W.gold.length q2) (.slice p3 W.us.length q3) (.slice none 0 0)) := YA.out.set7 _
 clear t x YA
 generalize (a3.setCell ⟨z, 7, none⟩ (.slice p3 W.us.length q3)) = w10 at *
 have B10 : Hid (Below w.heap.size w w10) := KW.out.below BA.out BA.out.size (by have := SZ.out; omega)
 have X10 : Hid (Bw w10 w.heap.size W u1 u2 u3 u4 u5) := XA.out.kp KW.out (by have := SZ.out; omega)
 have R10 : Hid (Wx w10 (w.heap.size + 1) (.int .i64 0) (.int .i64 0) (.int .i64 0) (.int .i64 0) (.slice none 0 0) (.slice none 0 0) (.slice none 0 0) (.slice none 0 0) (.slice none 0 0)) := RA.out.kp KW.out (by have := SZ.out; omega)
 have S10 : Hid (w.heap.size + 3 ≤ w10.heap.size) := Nat.le_trans SA.out KW.out.size
 have F10 : Hid (Fx w10 (w.heap.size + 1 + 1) (.int .i64 W.wide) (.int .i64 W.high) (.slice p0 W.gs.length q0) (.slice p1 W.os.length q1)) := FA.out.kp KW.out (by have := SZ.out; omega)
 have P0_10 : Hid (Ow w10 (w.heap.size + 3) (.slice p0 W.gs.length q0) W.gs) := owns_kpn P0A.out KW.out (fun b hb => by have := (P0A.out.block b hb).1; have := Q0.out b hb; have := SZ.out; omega)
 have P1_10 : Hid (Ow w10 (w.heap.size + 3) (.slice p1 W.os.length q1) W.os) := owns_kpn P1A.out KW.out (fun b hb => by have := (P1A.out.block b hb).1; have := Q1.out b hb; have := SZ.out; omega)
 have P2_10 : Hid (Ow w10 (w.heap.size + 3) (.slice p2 W.gold.length q2) W.gold) := owns_kpn P2A.out KW.out (fun b hb => by have := (P2A.out.block b hb).1; have := Q2.out b hb; have := SZ.out; omega)
 have P3_10 : Hid (Uno w10 (w.heap.size + 3) (.slice p3 W.us.length q3) W.us) := owns_kpn P3A.out KW.out (fun b hb => by have := (P3A.out.block b hb).1; have := Q3.out b hb; have := SZ.out; omega)
 clear KW BA XA RA SA FA P0A P1A P2A P3A
 obtain ⟨-, -, -, -, -, -, -, -, x⟩ := Y10.out.cells
 have y := X10.out.c8
 go_wp2_with (at_builtin; refine app_jbs _ rfl _ _ rfl (w.heap.size + 3) _ [] rfl (Jbo.nil _ _) _ W.qs rfl ((H.out.below B10.out).slices.2.2.2.2) (by have := L.out.q; simp only [List.length_nil]; omega) S10.out ?_)
 intro v4 a4 on gn dn
 have BG : Hid (Below w10.heap.size w10 a4) := (Below.refl _ _).grown gn (Nat.le_refl _) (fun k hk => by cases hk)
 try rw [List.nil_append] at on
 have BA : Hid (Below w.heap.size w a4) := B10.out.trans (BG.out.mono B10.out.size)
 have XA : Hid (Bw a4 w.heap.size W u1 u2 u3 u4 u5) := X10.out.below BG.out X10.out.lt
 have RA : Hid (Wx a4 (w.heap.size + 1) (.int .i64 0) (.int .i64 0) (.int .i64 0) (.int .i64 0) (.slice none 0 0) (.slice none 0 0) (.slice none 0 0) (.slice none 0 0) (.slice none 0 0)) := R10.out.below BG.out R10.out.lt
 have FA : Hid (Fx a4 (w.heap.size + 1 + 1) (.int .i64 W.wide) (.int .i64 W.high) (.slice p0 W.gs.length q0) (.slice p1 W.os.length q1)) := F10.out.below BG.out F10.out.lt
 have SA : Hid (w.heap.size + 3 ≤ a4.heap.size) := Nat.le_trans S10.out BG.out.size
 have YA : Hid (Wx a4 z (.int .i64 W.turn) (.int .i64 W.next) (.int .i64 W.wide) (.int .i64 W.high) (.slice p0 W.gs.length q0) (.slice p1 W.os.length q1) (.slice p2 W.gold.length q2) (.slice p3 W.us.length q3) (.slice none 0 0)) := Y10.out.below BG.out Y10.out.lt
 have QN : Hid (∀ b, v4.ownBlock = some b → z < b) := fun b hb => by
  have h1 := Y10.out.lt
  rcases dn with dn | dn
  ·rw [hb] at dn; cases dn
  ·rw [hb] at dn; injection dn with dn; omega
 have P0A : Hid (Ow a4 (w.heap.size + 3) (.slice p0 W.gs.length q0) W.gs) := P0_10.out.below BG.out
 have D0_4 : Hid (Dif (.slice p0 W.gs.length q0) v4) := Dif.of (n := w10.heap.size) (fun b hb => (P0_10.out.block b hb).2) (fun b hb => by
  rcases dn with dn | dn
  ·rw [hb] at dn; cases dn
  ·rw [hb] at dn; injection dn with dn; omega)
 have P1A : Hid (Ow a4 (w.heap.size + 3) (.slice p1 W.os.length q1) W.os) := P1_10.out.below BG.out
 have D1_4 : Hid (Dif (.slice p1 W.os.length q1) v4) := Dif.of (n := w10.heap.size) (fun b hb => (P1_10.out.block b hb).2) (fun b hb => by
  rcases dn with dn | dn
  ·rw [hb] at dn; cases dn
  ·rw [hb] at dn; injection dn with dn; omega)
 have P2A : Hid (Ow a4 (w.heap.size + 3) (.slice p2 W.gold.length q2) W.gold) := P2_10.out.below BG.out
 have D2_4 : Hid (Dif (.slice p2 W.gold.length q2) v4) := Dif.of (n := w10.heap.size) (fun b hb => (P2_10.out.block b hb).2) (fun b hb => by
  rcases dn with dn | dn
  ·rw [hb] at dn; cases dn
  ·rw [hb] at dn; injection dn with dn; omega)
 have P3A : Hid (Uno a4 (w.heap.size + 3) (.slice p3 W.us.length q3) W.us) := P3_10.out.below BG.out
 have D3_4 : Hid (Dif (.slice p3 W.us.length q3) v4) := Dif.of (n := w10.heap.size) (fun b hb => (P3_10.out.block b hb).2) (fun b hb => by
  rcases dn with dn | dn
  ·rw [hb] at dn; cases dn
  ·rw [hb] at dn; injection dn with dn; omega)
 have P4A : Hid (Jbo a4 (w.heap.size + 3) v4 W.qs) := on
 obtain ⟨p4, q4, rfl⟩ := on.len
 clear gn dn on BG x y B10 X10 R10 F10 S10 Y10 P0_10 P1_10 P2_10 P3_10
 have t := YA.out.thaw 8
 obtain ⟨-, -, -, -, -, -, -, -, x⟩ := YA.out.cells
 go_upto_region 13 with fail
 have Q4 : Hid (∀ b, ((.slice p4 W.qs.length q4) : Value).ownBlock = some b → b ≠ z) := fun b hb => by have := QN.out b hb; omega
 clear QN
 have KW : Hid (Kp z a4 (a4.setCell ⟨z, 8, none⟩ (.slice p4 W.qs.length q4))) := Kp.set _ _ _
 have Y11 : Hid (Wx (a4.setCell ⟨z, 8, none⟩ (.slice p4 W.qs.length q4)) z (.int .i64 W.turn) (.int .i64 W.next) (.int .i64 W.wide) (.int .i64 W.high) (.slice p0 W.gs.length q0) (.slice p1 W.os.length q1) (.slice p2 W.gold.length q2) (.slice p3 W.us.length q3) (.slice p4 W.qs.length q4)) := YA.out.set8 _
 clear t x YA
 generalize (a4.setCell ⟨z, 8, none⟩ (.slice p4 W.qs.length q4)) = w11 at *
 have B11 : Hid (Below w.heap.size w w11) := KW.out.below BA.out BA.out.size (by have := SZ.out; omega)
 have X11 : Hid (Bw w11 w.heap.size W u1 u2 u3 u4 u5) := XA.out.kp KW.out (by have := SZ.out; omega)
 have R11 : Hid (Wx w11 (w.heap.size + 1) (.int .i64 0) (.int .i64 0) (.int .i64 0) (.int .i64 0) (.slice none 0 0) (.slice none 0 0) (.slice none 0 0) (.slice none 0 0) (.slice none 0 0)) := RA.out.kp KW.out (by have := SZ.out; omega)
 have S11 : Hid (w.heap.size + 3 ≤ w11.heap.size) := Nat.le_trans SA.out KW.out.size
 have F11 : Hid (Fx w11 (w.heap.size + 1 + 1) (.int .i64 W.wide) (.int .i64 W.high) (.slice p0 W.gs.length q0) (.slice p1 W.os.length q1)) := FA.out.kp KW.out (by have := SZ.out; omega)
 have P0_11 : Hid (Ow w11 (w.heap.size + 3) (.slice p0 W.gs.length q0) W.gs) := owns_kpn P0A.out KW.out (fun b hb => by have := (P0A.out.block b hb).1; have := Q0.out b hb; have := SZ.out; omega)
 have P1_11 : Hid (Ow w11 (w.heap.size + 3) (.slice p1 W.os.length q1) W.os) := owns_kpn P1A.out KW.out (fun b hb => by have := (P1A.out.block b hb).1; have := Q1.out b hb; have := SZ.out; omega)
 have P2_11 : Hid (Ow w11 (w.heap.size + 3) (.slice p2 W.gold.length q2) W.gold) := owns_kpn P2A.out KW.out (fun b hb => by have := (P2A.out.block b hb).1; have := Q2.out b hb; have := SZ.out; omega)
 have P3_11 : Hid (Uno w11 (w.heap.size + 3) (.slice p3 W.us.length q3) W.us) := owns_kpn P3A.out KW.out (fun b hb => by have := (P3A.out.block b hb).1; have := Q3.out b hb; have := SZ.out; omega)
 have P4_11 : Hid (Jbo w11 (w.heap.size + 3) (.slice p4 W.qs.length q4) W.qs) := owns_kpn P4A.out KW.out (fun b hb => by have := (P4A.out.block b hb).1; have := Q4.out b hb; have := SZ.out; omega)
 clear KW BA XA RA SA FA P0A P1A P2A P3A P4A
 obtain ⟨x0, x1, x2, x3, x4, x5, x6, x7, x8⟩ := Y11.out.cells
 obtain ⟨z0, z1, z2, z3, z4, z5, z6, z7, z8⟩ := R11.out.cells
 obtain ⟨t0, t1, t2, t3, t4, t5, t6, t7, t8⟩ := R11.out.thaws
 have KZ : Hid (Kp (w.heap.size + 1) w11 (((((((((w11.setCell ⟨w.heap.size + 1, 0, none⟩ (.int .i64 W.turn)).setCell ⟨w.heap.size + 1, 1, none⟩ (.int .i64 W.next)).setCell ⟨w.heap.size + 1, 2, none⟩ (.int .i64 W.wide)).setCell ⟨w.heap.size + 1, 3, none⟩ (.int .i64 W.high)).setCell ⟨w.heap.size + 1, 4, none⟩ (.slice p0 W.gs.length q0)).setCell ⟨w.heap.size + 1, 5, none⟩ (.slice p1 W.os.length q1)).setCell ⟨w.heap.size + 1, 6, none⟩ (.slice p2 W.gold.length q2)).setCell ⟨w.heap.size + 1, 7, none⟩ (.slice p3 W.us.length q3)).setCell ⟨w.heap.size + 1, 8, none⟩ (.slice p4 W.qs.length q4))) := put_kp _ _ _ _ _ _ _ _ _ _ _
 obtain ⟨y0, y1, y2, y3, y4, y5, y6, y7, y8⟩ := (R11.out.put (.int .i64 W.turn) (.int .i64 W.next) (.int .i64 W.wide) (.int .i64 W.high) (.slice p0 W.gs.length q0) (.slice p1 W.os.length q1) (.slice p2 W.gold.length q2) (.slice p3 W.us.length q3) (.slice p4 W.qs.length q4)).cells
 go_wp2
 clear x0 x1 x2 x3 x4 x5 x6 x7 x8 z0 z1 z2 z3 z4 z5 z6 z7 z8 t0 t1 t2 t3 t4 t5 t6 t7 t8
 have s0 := S11.out
 generalize (((((((((w11.setCell ⟨w.heap.size + 1, 0, none⟩ (.int .i64 W.turn)).setCell ⟨w.heap.size + 1, 1, none⟩ (.int .i64 W.next)).setCell ⟨w.heap.size + 1, 2, none⟩ (.int .i64 W.wide)).setCell ⟨w.heap.size + 1, 3, none⟩ (.int .i64 W.high)).setCell ⟨w.heap.size + 1, 4, none⟩ (.slice p0 W.gs.length q0)).setCell ⟨w.heap.size + 1, 5, none⟩ (.slice p1 W.os.length q1)).setCell ⟨w.heap.size + 1, 6, none⟩ (.slice p2 W.gold.length q2)).setCell ⟨w.heap.size + 1, 7, none⟩ (.slice p3 W.us.length q3)).setCell ⟨w.heap.size + 1, 8, none⟩ (.slice p4 W.qs.length q4)) = wz at *
 refine bodyPost_ret (v := .agg #[.int .i64 W.turn, .int .i64 W.next, .int .i64 W.wide, .int .i64 W.high, .slice p0 W.gs.length q0, .slice p1 W.os.length q1, .slice p2 W.gold.length q2, .slice p3 W.us.length q3, .slice p4 W.qs.length q4]) (by simp [results, Tryz.results23, go_sem, y0, y1, y2, y3, y4, y5, y6, y7, y8]) rfl ⟨_, rfl, ⟨_, _, _, _, _, rfl, ⟨Ow.mono (owns_kp P0_11.out KZ.out (by omega)) (by omega), Ow.mono (owns_kp P1_11.out KZ.out (by omega)) (by omega), Ow.mono (owns_kp P2_11.out KZ.out (by omega)) (by omega), Uno.mono (owns_kp P3_11.out KZ.out (by omega)) (by omega), Jbo.mono (owns_kp P4_11.out KZ.out (by omega)) (by omega)⟩, D0_1.out, D0_2.out, D0_3.out, D0_4.out, D1_2.out, D1_3.out, D1_4.out, D2_3.out, D2_4.out, D3_4.out⟩, KZ.out.below B11.out B11.out.size (by omega)⟩
end Go.Proofs.YteieikgkmfglaaaGreatDoor
namespace Go.Proofs.YteieikgkmfglaaaGreatDoor
open Go.RowKit
set_option linter.unusedVariables false
set_option maxRecDepth 100000 in
set_option maxHeartbeats 2000000 in
theorem rfind_any (v : Value) (W : WV) (id : Int) (w : World) (h : Wl w v W) :
  Calls Tryz.prog 14 #[v, .int .i64 id] w fun e w' => ∃ r : Int, e = .returned (.int .i64 r) ∧ FstU (fun u => u.id == id) W.us r ∧ Below w.heap.size w w' := by
 obtain ⟨u1, u2, u3, u4, u5, rfl, -, -, -, ⟨a, c, rfl, c1, c2, ca⟩, -⟩ := h
 have Ca : Hid (W.us ≠ [] → ∃ x, a = some x ∧ x.block < w.heap.size ∧ ∀ (i : Nat) k, W.us[i]? = some k → Unc w (x.add (i * 8)) k) := ca
 clear ca
 go_enter Tryz.func14, Tryz.ntmps14
 go_wp2
 have B0 : Hid (Below w.heap.size w (w.alloc (Obj.cells #[.int .i64 W.turn, .int .i64 W.next, .int .i64 W.wide, .int .i64 W.high, u1, u2, u3, .slice a W.us.length c, u5] 29))) := (Below.refl _ _).alloc (Nat.le_refl _) _
 have X0 : Hid (Bw (w.alloc (Obj.cells #[.int .i64 W.turn, .int .i64 W.next, .int .i64 W.wide, .int .i64 W.high, u1, u2, u3, .slice a W.us.length c, u5] 29)) w.heap.size W u1 u2 u3 (.slice a W.us.length c) u5) := Bw.mk' W _ _ _ _ _ rfl
 generalize w.alloc (Obj.cells #[.int .i64 W.turn, .int .i64 W.next, .int .i64 W.wide, .int .i64 W.high, u1, u2, u3, .slice a W.us.length c, u5] 29) = w0 at *
 go_loopw [5] (fun iv V => ∃ k : Nat, k ≤ W.us.length ∧ iv = .int .i64 (k : Nat) ∧ (W.us.take k).any (fun u => u.id == id) = false ∧ V = w0) (fun iv _ => W.us.length - (intOf iv).toNat)
 case atStart => exact ⟨0, Nat.zero_le _, rfl, rfl, rfl⟩
 case round =>
  obtain ⟨k, hk, rfl, hn, rfl⟩ := hrel
  have HN : Hid ((W.us.take k).any (fun u => u.id == id) = false) := hn
  have c7 := X0.out.c7
  clear hn
  by_cases hkl : k = W.us.length
  ·have F : Hid (FstU (fun u => u.id == id) W.us (-1)) := .inl ⟨rfl, by have := HN.out; rwa [hkl, List.take_length] at this⟩
   subst hkl
   clear hk
   go_wp2
   go_ret
   exact ⟨-1, rfl, F.out, B0.out⟩
  ·have hlt : k < W.us.length := by omega
   have hli : (k : Int) < (W.us.length : Int) := by omega
   obtain ⟨u, hu⟩ : ∃ u, W.us[k]? = some u := ⟨_, List.getElem?_eq_getElem hlt⟩
   obtain ⟨x, rfl, hx, hcell⟩ := Ca.out (by intro e; rw [e] at hlt; simp at hlt)
   obtain ⟨d0, -, -, -, -, -, -, -⟩ := (hcell k u hu).below B0.out (by rw [add_block]; exact hx)
   have HU : Hid (W.us[k]? = some u) := hu
   clear hcell hx hu hkl
   by_cases hid : u.id = id
   ·have F : Hid (FstU (fun u => u.id == id) W.us (k : Nat)) := .inr ⟨k, u, rfl, HU.out, by simp [hid], HN.out⟩
    go_wp2
    go_ret
    exact ⟨_, rfl, F.out, B0.out⟩
   ·have hidb : (u.id == id) = false := by simpa using hid
    have N2 : Hid ((W.us.take (k + 1)).any (fun u => u.id == id) = false) := by unfold Hid; rw [anyu_next HU.out, HN.out, hidb]; rfl
    clear hid
    go_wp2
    go_roundw
    case rel => exact ⟨k + 1, by omega, rfl, N2.out, trivial⟩
    case measure => simp [intOf]; omega
end Go.Proofs.YteieikgkmfglaaaGreatDoor
namespace Go.Proofs.YteieikgkmfglaaaGreatDoor
open Go.RowKit
set_option linter.unusedVariables false
set_option maxHeartbeats 1000000 in
theorem rnumber_q (n : Int) (q : Bool) (w : World) (hq : Hid (decide (0 ≤ n ∧ n ≤ 1000000) = q)) :
  Calls Tryz.prog 27 #[.int .i64 n] w fun e w' => e = .returned (.bool q) ∧ w' = w := by
 go_enter Tryz.func27, Tryz.ntmps27
 by_cases h0 : 0 ≤ n
 ·by_cases h1 : n ≤ 1000000
  ·have E : Hid (q = true) := by unfold Hid; rw [← hq.out]; simp [h0, h1]
   go_wp2
   go_ret
   exact ⟨by rw [E.out]; rfl, rfl⟩
  ·have E : Hid (q = false) := by unfold Hid; rw [← hq.out]; simp [h1]
   go_wp2
   go_ret
   exact ⟨by rw [E.out]; rfl, rfl⟩
 ·have E : Hid (q = false) := by unfold Hid; rw [← hq.out]; simp [h0]
  go_wp2
  go_ret
  exact ⟨by rw [E.out]; rfl, rfl⟩
set_option maxRecDepth 100000 in
set_option maxHeartbeats 2000000 in
theorem ron_any (v : Value) (W : WV) (at_ : Int) (w : World) (h : Wl w v W) :
  Calls Tryz.prog 29 #[v, .int .i64 at_] w fun e w' => ∃ r : Int, e = .returned (.int .i64 r) ∧ FstU (fun u => u.at_ == at_) W.us r ∧ Below w.heap.size w w' := by
 obtain ⟨u1, u2, u3, u4, u5, rfl, -, -, -, ⟨a, c, rfl, c1, c2, ca⟩, -⟩ := h
 have Ca : Hid (W.us ≠ [] → ∃ x, a = some x ∧ x.block < w.heap.size ∧ ∀ (i : Nat) k, W.us[i]? = some k → Unc w (x.add (i * 8)) k) := ca
 clear ca
 go_enter Tryz.func29, Tryz.ntmps29
 go_wp2
 have B0 : Hid (Below w.heap.size w (w.alloc (Obj.cells #[.int .i64 W.turn, .int .i64 W.next, .int .i64 W.wide, .int .i64 W.high, u1, u2, u3, .slice a W.us.length c, u5] 29))) := (Below.refl _ _).alloc (Nat.le_refl _) _
 have X0 : Hid (Bw (w.alloc (Obj.cells #[.int .i64 W.turn, .int .i64 W.next, .int .i64 W.wide, .int .i64 W.high, u1, u2, u3, .slice a W.us.length c, u5] 29)) w.heap.size W u1 u2 u3 (.slice a W.us.length c) u5) := Bw.mk' W _ _ _ _ _ rfl
 generalize w.alloc (Obj.cells #[.int .i64 W.turn, .int .i64 W.next, .int .i64 W.wide, .int .i64 W.high, u1, u2, u3, .slice a W.us.length c, u5] 29) = w0 at *
 go_loopw [5] (fun iv V => ∃ k : Nat, k ≤ W.us.length ∧ iv = .int .i64 (k : Nat) ∧ (W.us.take k).any (fun u => u.at_ == at_) = false ∧ V = w0) (fun iv _ => W.us.length - (intOf iv).toNat)
 case atStart => exact ⟨0, Nat.zero_le _, rfl, rfl, rfl⟩
 case round =>
  obtain ⟨k, hk, rfl, hn, rfl⟩ := hrel
  have HN : Hid ((W.us.take k).any (fun u => u.at_ == at_) = false) := hn
  have c7 := X0.out.c7
  clear hn
  by_cases hkl : k = W.us.length
  ·have F : Hid (FstU (fun u => u.at_ == at_) W.us (-1)) := .inl ⟨rfl, by have := HN.out; rwa [hkl, List.take_length] at this⟩
   subst hkl
   clear hk
   go_wp2
   go_ret
   exact ⟨-1, rfl, F.out, B0.out⟩
  ·have hlt : k < W.us.length := by omega
   have hli : (k : Int) < (W.us.length : Int) := by omega
   obtain ⟨u, hu⟩ : ∃ u, W.us[k]? = some u := ⟨_, List.getElem?_eq_getElem hlt⟩
   obtain ⟨x, rfl, hx, hcell⟩ := Ca.out (by intro e; rw [e] at hlt; simp at hlt)
   obtain ⟨-, -, -, d3, -, -, -, -⟩ := (hcell k u hu).below B0.out (by rw [add_block]; exact hx)
   have HU : Hid (W.us[k]? = some u) := hu
   clear hcell hx hu hkl
   by_cases hid : u.at_ = at_
   ·have F : Hid (FstU (fun u => u.at_ == at_) W.us (k : Nat)) := .inr ⟨k, u, rfl, HU.out, by simp [hid], HN.out⟩
    go_wp2
    go_ret
    exact ⟨_, rfl, F.out, B0.out⟩
   ·have hidb : (u.at_ == at_) = false := by simpa using hid
    have N2 : Hid ((W.us.take (k + 1)).any (fun u => u.at_ == at_) = false) := by unfold Hid; rw [anyu_next HU.out, HN.out, hidb]; rfl
    clear hid
    go_wp2
    go_roundw
    case rel => exact ⟨k + 1, by omega, rfl, N2.out, trivial⟩
    case measure => simp [intOf]; omega
end Go.Proofs.YteieikgkmfglaaaGreatDoor
namespace Go.Proofs.YteieikgkmfglaaaGreatDoor
open Go.RowKit
set_option linter.unusedVariables false
set_option maxRecDepth 100000 in
set_option maxHeartbeats 1000000 in
theorem ref_onto (v : Value) (W H : Int) (gs os : List Int) (a : Nat) (g : Int) (fl : Bool) (w : World) (h : Fl w v W H gs os) (hl : gs.length ≤ 144) (hg : gs[a]? = some g) (g0 : 0 ≤ g) (g3 : g ≤ 3) :
  Calls Tryz.prog 28 #[v, .int .i64 (a : Nat), .bool fl] w fun e w' => e = .returned (.int .i64 (Fd.onto g fl)) ∧ Below w.heap.size w w' := by
 obtain ⟨u1, u2, rfl, ⟨a1, c, rfl, c1, c2, ca⟩, ⟨b1, d, rfl, d1, d2, cb⟩⟩ := h
 have hal : a < gs.length := (List.getElem?_eq_some_iff.1 hg).1
 obtain ⟨x, rfl, xl, hx⟩ := ca (by intro e; rw [e] at hal; simp at hal)
 have j0 : (0 : Int) ≤ (a : Int) := by omega
 have j1 : (a : Int) < (gs.length : Int) := by omega
 obtain ⟨w0, hw0⟩ : ∃ w0, w.alloc (Obj.cells #[.int .i64 W, .int .i64 H, .slice (some x) gs.length c, .slice b1 os.length d] 25) = w0 := ⟨_, rfl⟩
 have B0 : Hid (Below w.heap.size w w0) := by rw [← hw0]; exact (Below.refl _ _).alloc (Nat.le_refl _) _
 have cg : w0.cell? (x.add a) = some (.int .i64 g) := by rw [B0.out.cell (p := x.add a) (by rw [add_block]; exact xl)]; exact hx a g hg
 have x2 : w0.cell? ⟨w.heap.size, 2, none⟩ = some (.slice (some x) gs.length c) := by rw [← hw0]; simp
 have Hw : Hid (w.alloc (Obj.cells #[.int .i64 W, .int .i64 H, .slice (some x) gs.length c, .slice b1 os.length d] 25) = w0) := hw0
 have O : Hid (∀ u, u = Fd.onto g fl → Ending.returned (.int .i64 u) = .returned (.int .i64 (Fd.onto g fl))) := fun u h => by rw [h]
 clear hw0 cb hx xl ca hg
 go_enter Tryz.func28, Tryz.ntmps28
 go_upto_region 1 with fail
 rw [Hw.out]
 have hg' : g = 0 ∨ g = 1 ∨ g = 2 ∨ g = 3 := by omega
 rcases hg' with rfl | rfl | rfl | rfl
 all_goals cases fl
 all_goals
  go_wp2
  go_ret
  exact ⟨O.out _ rfl, B0⟩
end Go.Proofs.YteieikgkmfglaaaGreatDoor
namespace Go.Proofs.YteieikgkmfglaaaGreatDoor
open Go.RowKit
set_option linter.unusedVariables false
/-- a list as far as it is made. -/
structure Nr (w : World) (W H : Int) (u1 u2 : Value) (l : List Int) (v : Value) (W' : World) : Prop where
 o : Ow W' (w.heap.size + 1) v l
 x : Bf W' w.heap.size W H u1 u2
 b : Below w.heap.size w W'
theorem Nr.grow {w wr w5 : World} {W H : Int} {u1 u2 v v5 : Value} {l l5 : List Int} {o : Obj} (h : Nr w W H u1 u2 l v wr) (hg : (wr.alloc o).grownBy w5 v.ownBlock) (h5 : Ow w5 (w.heap.size + 1) v5 l5) : Nr w W H u1 u2 l5 v5 w5 := by
 have hob : ∀ k, v.ownBlock = some k → w.heap.size + 1 ≤ k := fun k hk => (h.o.block k hk).1
 have z := h.x.lt
 have h2 : Below wr.heap.size wr (wr.alloc o) := (Below.refl _ _).alloc (Nat.le_refl _) _
 have z2 := h2.size
 have X2 : Bf (wr.alloc o) w.heap.size W H u1 u2 := h.x.below h2 z
 have hne : some w.heap.size ≠ v.ownBlock := fun e => by have := hob _ e.symm; omega
 refine ⟨h5, ⟨?_, ?_, ?_, ?_⟩, (h.b.trans (h2.mono (by omega))).grown hg (by omega) (fun k hk => by have := hob k hk; omega)⟩
 ·rw [hg.cell_far ⟨w.heap.size, 0, none⟩ (by show w.heap.size < _; omega) hne]; exact X2.c0
 ·rw [hg.cell_far ⟨w.heap.size, 1, none⟩ (by show w.heap.size < _; omega) hne]; exact X2.c1
 ·rw [hg.cell_far ⟨w.heap.size, 2, none⟩ (by show w.heap.size < _; omega) hne]; exact X2.c2
 ·rw [hg.cell_far ⟨w.heap.size, 3, none⟩ (by show w.heap.size < _; omega) hne]; exact X2.c3
theorem len_if (c : Prop) [Decidable c] (x : Int) : (if c then [x] else []).length ≤ 1 := by split <;> simp
set_option maxRecDepth 100000 in
set_option maxHeartbeats 2000000 in
theorem ref_near_own (v : Value) (W H : Nat) (gs os : List Int) (a : Nat) (w : World) (h : Fl w v W H gs os) (h1 : 0 < W) (h2 : W ≤ 12) (h3 : H ≤ 12) (ha : a < W * H) :
  Calls Tryz.prog 30 #[v, .int .i64 (a : Nat)] w fun e w' => ∃ u, e = .returned u ∧ Ow w' w.heap.size u (Fd.near W H a) ∧ Below w.heap.size w w' := by
 obtain ⟨u1, u2, rfl, ⟨a1, c, rfl, -⟩, ⟨b1, d, rfl, -⟩⟩ := h
 have hm : W * H ≤ 144 := Nat.mul_le_mul h2 h3
 have r1 : a / W < H := Nat.div_lt_of_lt_mul ha
 have p1 := Nat.mod_lt a h1
 have En : Hid (Fd.near W H a = (if 0 < a / W then [(a : Int) - W] else []) ++ ((if 0 < a % W then [(a : Int) - 1] else []) ++ ((if a % W + 1 < W then [(a : Int) + 1] else []) ++ (if a / W + 1 < H then [(a : Int) + W] else [])))) := rfl
 have e1 : (a : Int) % (W : Int) = (a % W : Nat) := rfl
 have e2 : (a : Int) / (W : Int) = (a / W : Nat) := rfl
 generalize a % W = p at *
 generalize a / W = r at *
 have A1 : a ≤ 144 := by omega
 have hw : ¬ (W : Int) = 0 := by omega
 clear ha
 obtain ⟨w0, hw0⟩ : ∃ w0, w.alloc (Obj.cells #[.int .i64 (W : Nat), .int .i64 (H : Nat), .slice a1 gs.length c, .slice b1 os.length d] 25) = w0 := ⟨_, rfl⟩
 have N0 : Hid (Nr w W H (.slice a1 gs.length c) (.slice b1 os.length d) [] (.slice none 0 0) w0) := by
  rw [← hw0]
  exact ⟨Ow.nil _ _, Bf.mk' _ _ _ _ rfl, (Below.refl _ _).alloc (Nat.le_refl _) _⟩
 have Hw : Hid (w.alloc (Obj.cells #[.int .i64 (W : Nat), .int .i64 (H : Nat), .slice a1 gs.length c, .slice b1 os.length d] 25) = w0) := hw0
 clear hw0
 go_enter Tryz.func30, Tryz.ntmps30
 go_upto_region 2 with fail
 rw [Hw.out]
 obtain ⟨x0, x1, x2, x3⟩ := N0.out.x
 go_upto_if 17 with fail
 rw [e1]
 clear e1 e2 x0 x1 x2 x3
 go_cut [5] (fun v5 W' => Nr w W H (.slice a1 gs.length c) (.slice b1 os.length d) (if 0 < r then [(a : Int) - W] else []) v5 W')
 case first =>
  obtain ⟨x0, x1, x2, x3⟩ := N0.out.x
  by_cases q : 0 < r
  ·go_wp2_with (at_builtin; refine app_int _ rfl _ _ rfl (w.heap.size + 1) _ [] rfl (N0.out.o.alloc _) ⟨w0.heap.size, 0, none⟩ ((a : Int) - W) rfl (by simp) (by simp) (by have := N0.out.x.lt; simp; omega) ?_)
   intro g cap w5 o5 g5 a5 l5
   have N5 : Hid (Nr w W H (.slice a1 gs.length c) (.slice b1 os.length d) [(a : Int) - W] _ w5) := N0.out.grow g5 o5
   clear o5 g5 a5 l5 x0 x1 x2 x3
   go_wp2
   go_meet
   case rel => rw [if_pos q]; exact N5
  ·have q0 : r = 0 := by omega
   subst q0
   go_wp2_with fail
   go_meet
   case rel => rw [if_neg q]; exact N0
 case rest =>
  have L1 : Hid ((if 0 < r then [(a : Int) - W] else []).length ≤ 1) := len_if _ _
  have N1 : Hid (Nr w W H (.slice a1 gs.length c) (.slice b1 os.length d) (if 0 < r then [(a : Int) - W] else []) u5 wc) := hcut
  clear hcut N0
  generalize (if 0 < r then [(a : Int) - W] else []) = l1 at *
  go_upto_if 26 with fail
  go_cut [5] (fun v5 W' => Nr w W H (.slice a1 gs.length c) (.slice b1 os.length d) (l1 ++ (if 0 < p then [(a : Int) - 1] else [])) v5 W')
  case first =>
   by_cases q : 0 < p
   ·go_wp2_with (at_builtin; refine app_int _ rfl _ _ rfl (w.heap.size + 1) _ l1 rfl (N1.out.o.alloc _) ⟨wc.heap.size, 0, none⟩ ((a : Int) - 1) rfl (by simp) (by have := L1.out; omega) (by have := N1.out.x.lt; simp; omega) ?_)
    intro g cap w5 o5 g5 a5 l5
    have N5 : Hid (Nr w W H (.slice a1 gs.length c) (.slice b1 os.length d) (l1 ++ [(a : Int) - 1]) _ w5) := N1.out.grow g5 o5
    clear o5 g5 a5 l5
    go_wp2
    go_meet
    case rel => rw [if_pos q]; exact N5
   ·have q0 : p = 0 := by omega
    subst q0
    go_wp2_with fail
    go_meet
    case rel => rw [if_neg q, List.append_nil]; exact N1
  case rest =>
   have L2 : Hid ((l1 ++ (if 0 < p then [(a : Int) - 1] else [])).length ≤ 2) := by have h1 := L1.out; have h2 := len_if (0 < p) ((a : Int) - 1); unfold Hid; rw [List.length_append]; omega
   have N2 : Hid (Nr w W H (.slice a1 gs.length c) (.slice b1 os.length d) (l1 ++ (if 0 < p then [(a : Int) - 1] else [])) _ wc) := hcut
   have E2 : Hid (l1 ++ ((if 0 < p then [(a : Int) - 1] else []) ++ ((if p + 1 < W then [(a : Int) + 1] else []) ++ (if r + 1 < H then [(a : Int) + W] else []))) = (l1 ++ (if 0 < p then [(a : Int) - 1] else [])) ++ ((if p + 1 < W then [(a : Int) + 1] else []) ++ (if r + 1 < H then [(a : Int) + W] else []))) := (List.append_assoc _ _ _).symm
   clear hcut N1
   generalize l1 ++ (if 0 < p then [(a : Int) - 1] else []) = l2 at *
   obtain ⟨x0, x1, x2, x3⟩ := N2.out.x
   go_upto_if 36 with fail
   go_cut [5] (fun v5 W' => Nr w W H (.slice a1 gs.length c) (.slice b1 os.length d) (l2 ++ (if p + 1 < W then [(a : Int) + 1] else [])) v5 W')
   case first =>
    by_cases q : p + 1 < W
    ·go_wp2_with (at_builtin; refine app_int _ rfl _ _ rfl (w.heap.size + 1) _ l2 rfl (N2.out.o.alloc _) ⟨wc.heap.size, 0, none⟩ ((a : Int) + 1) rfl (by simp) (by have := L2.out; omega) (by have := N2.out.x.lt; simp; omega) ?_)
     intro g cap w5 o5 g5 a5 l5
     have N5 : Hid (Nr w W H (.slice a1 gs.length c) (.slice b1 os.length d) (l2 ++ [(a : Int) + 1]) _ w5) := N2.out.grow g5 o5
     clear o5 g5 a5 l5
     go_wp2
     go_meet
     case rel => rw [if_pos q]; exact N5
    ·have q1 : ¬ (p : Int) < (W : Int) - 1 := by omega
     go_wp2_with fail
     go_meet
     case rel => rw [if_neg q, List.append_nil]; exact N2
   case rest =>
    have L3 : Hid ((l2 ++ (if p + 1 < W then [(a : Int) + 1] else [])).length ≤ 3) := by have h1 := L2.out; have h2 := len_if (p + 1 < W) ((a : Int) + 1); unfold Hid; rw [List.length_append]; omega
    have N3 : Hid (Nr w W H (.slice a1 gs.length c) (.slice b1 os.length d) (l2 ++ (if p + 1 < W then [(a : Int) + 1] else [])) _ wc) := hcut
    have E3 : Hid (l2 ++ ((if p + 1 < W then [(a : Int) + 1] else []) ++ (if r + 1 < H then [(a : Int) + W] else [])) = (l2 ++ (if p + 1 < W then [(a : Int) + 1] else [])) ++ (if r + 1 < H then [(a : Int) + W] else [])) := (List.append_assoc _ _ _).symm
    clear hcut N2 x0 x1 x2 x3
    generalize l2 ++ (if p + 1 < W then [(a : Int) + 1] else []) = l3 at *
    obtain ⟨x0, x1, x2, x3⟩ := N3.out.x
    by_cases q : r + 1 < H
    ·go_wp2_with (at_builtin; refine app_int _ rfl _ _ rfl (w.heap.size + 1) _ l3 rfl (N3.out.o.alloc _) ⟨wc.heap.size, 0, none⟩ ((a : Int) + W) rfl (by simp) (by have := L3.out; omega) (by have := N3.out.x.lt; simp; omega) ?_)
     intro g cap w5 o5 g5 a5 l5
     have N5 : Hid (Nr w W H (.slice a1 gs.length c) (.slice b1 os.length d) (l3 ++ [(a : Int) + W]) _ w5) := N3.out.grow g5 o5
     clear o5 g5 a5 l5
     go_wp2
     go_ret
     refine ⟨_, rfl, ?_, N5.out.b⟩
     rw [En.out, E2.out, E3.out, if_pos q]
     exact N5.out.o.mono (Nat.le_succ _)
    ·have q1 : ¬ (r : Int) < (H : Int) - 1 := by omega
     go_wp2
     go_ret
     refine ⟨_, rfl, ?_, N3.out.b⟩
     rw [En.out, E2.out, E3.out, if_neg q, List.append_nil]
     exact N3.out.o.mono (Nat.le_succ _)
end Go.Proofs.YteieikgkmfglaaaGreatDoor
namespace Go.Proofs.YteieikgkmfglaaaGreatDoor.Fd
theorem near_mem {W H a : Nat} {x : Int} : x ∈ near W H a ↔ (0 < a / W ∧ x = (a : Int) - W) ∨ (0 < a % W ∧ x = (a : Int) - 1) ∨ (a % W + 1 < W ∧ x = (a : Int) + 1) ∨ (a / W + 1 < H ∧ x = (a : Int) + W) := by
 unfold near
 simp only [List.mem_append]
 constructor
 ·rintro (h | h | h | h)
  ·split at h
   ·simp at h; left; exact ⟨by assumption, h⟩
   ·simp at h
  ·split at h
   ·simp at h; right; left; exact ⟨by assumption, h⟩
   ·simp at h
  ·split at h
   ·simp at h; right; right; left; exact ⟨by assumption, h⟩
   ·simp at h
  ·split at h
   ·simp at h; right; right; right; exact ⟨by assumption, h⟩
   ·simp at h
 ·rintro (⟨h, e⟩ | ⟨h, e⟩ | ⟨h, e⟩ | ⟨h, e⟩)
  ·left; rw [if_pos h, e]; simp
  ·right; left; rw [if_pos h, e]; simp
  ·right; right; left; rw [if_pos h, e]; simp
  ·right; right; right; rw [if_pos h, e]; simp
theorem near_len (W H a : Nat) : (near W H a).length ≤ 4 := by
 unfold near
 simp only [List.length_append]
 have h : ∀ (c : Prop) [Decidable c] (x : Int), (if c then [x] else []).length ≤ 1 := by
  intro c _ x
  split <;> simp
 have h1 := h (0 < a / W) ((a : Int) - W)
 have h2 := h (0 < a % W) ((a : Int) - 1)
 have h3 := h (a % W + 1 < W) ((a : Int) + 1)
 have h4 := h (a / W + 1 < H) ((a : Int) + W)
 omega
/-- where a cell beside one lies; and that it has that one beside. -/
theorem near_cell {W H a : Nat} {x : Int} (hW : 0 < W) (ha : a < W * H) (h : x ∈ near W H a) : ∃ t : Nat, x = t ∧ t < W * H ∧ (a : Int) ∈ near W H t := by
 have e := Nat.div_add_mod a W
 have hr : a / W < H := Nat.div_lt_of_lt_mul ha
 have hc := Nat.mod_lt a hW
 have key : ∀ r c : Nat, c < W → (W * r + c) / W = r ∧ (W * r + c) % W = c := by
  intro r c h
  constructor
  ·rw [Nat.mul_add_div hW, Nat.div_eq_of_lt h]; omega
  ·rw [Nat.mul_add_mod, Nat.mod_eq_of_lt h]
 have bd : ∀ r c : Nat, r < H → c < W → W * r + c < W * H := by
  intro r c h1 h2
  have := Nat.mul_le_mul_left W (show r + 1 ≤ H by omega)
  rw [Nat.mul_add, Nat.mul_one] at this
  omega
 generalize a / W = r at *
 generalize a % W = c at *
 have ei : (a : Int) = (W : Int) * r + c := by rw [← e]; simp
 have hh := near_mem.1 h
 have e1 := (key r c hc).1
 have e2 := (key r c hc).2
 rw [e] at e1 e2
 rw [e1, e2] at hh
 rcases hh with ⟨h1, hx⟩ | ⟨h1, hx⟩ | ⟨h1, hx⟩ | ⟨h1, hx⟩
 ·obtain ⟨r', rfl⟩ : ∃ r', r = r' + 1 := ⟨r - 1, by omega⟩
  have k := key r' c hc
  refine ⟨W * r' + c, ?_, bd r' c (by omega) hc, near_mem.2 ?_⟩
  ·rw [hx, ei]; simp [Int.mul_add]; omega
  ·rw [k.1, k.2]
   right; right; right
   refine ⟨hr, ?_⟩
   rw [ei]; simp [Int.mul_add]; omega
 ·obtain ⟨c', rfl⟩ : ∃ c', c = c' + 1 := ⟨c - 1, by omega⟩
  have k := key r c' (by omega)
  refine ⟨W * r + c', ?_, bd r c' hr (by omega), near_mem.2 ?_⟩
  ·rw [hx, ei]; simp; omega
  ·rw [k.1, k.2]
   right; right; left
   refine ⟨hc, ?_⟩
   rw [ei]; simp; omega
 ·have k := key r (c + 1) h1
  refine ⟨W * r + (c + 1), ?_, bd r (c + 1) hr h1, near_mem.2 ?_⟩
  ·rw [hx, ei]; simp; omega
  ·rw [k.1, k.2]
   right; left
   refine ⟨by omega, ?_⟩
   rw [ei]; simp; omega
 ·have k := key (r + 1) c hc
  refine ⟨W * (r + 1) + c, ?_, bd (r + 1) c h1 hc, near_mem.2 ?_⟩
  ·rw [hx, ei]; simp [Int.mul_add]; omega
  ·rw [k.1, k.2]
   left
   refine ⟨by omega, ?_⟩
   rw [ei]; simp [Int.mul_add]; omega
end Go.Proofs.YteieikgkmfglaaaGreatDoor.Fd
