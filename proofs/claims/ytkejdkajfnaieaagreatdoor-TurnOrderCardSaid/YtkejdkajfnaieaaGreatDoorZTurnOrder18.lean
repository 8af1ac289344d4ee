/- A fact's small world. · Worlds: the reference's Find. -/
import Derived.Test.YtkejdkajfnaieaaGreatDoorZTurnOrder16
import Derived.Test.YtkejdkajfnaieaaGreatDoorZTurnOrder17
import Derived.Test.YtkejdkajfnaieaaGreatDoorZTurnOrder7
import Derived.Deep.DeepCutAuto
import Derived.Test.YtkejdkajfnaieaaGreatDoorZTurnOrder1
namespace Go.Proofs.YtkejdkajfnaieaaGreatDoor
open Go.RowKit
set_option linter.unusedVariables false

theorem kl_mk {w : World} {z : Nat} (hz : w.heap.size = z) : Kl (w.alloc (.cells #[.string ⟨#[98, 97, 115, 101]⟩, .int .i64 50, .int .i64 0, .int .i64 0, .int .i64 4, .int .i64 0, .int .i64 50, .int .i64 5, .int .i64 0, .bool false, .bool true, .string ⟨#[100, 105, 103, 103, 101, 114]⟩, .int .i64 10, .int .i64 0, .int .i64 0, .int .i64 3, .int .i64 2, .int .i64 10, .int .i64 2, .int .i64 20, .bool false, .bool false, .string ⟨#[102, 105, 103, 104, 116, 101, 114]⟩, .int .i64 20, .int .i64 4, .int .i64 1, .int .i64 4, .int .i64 2, .int .i64 20, .int .i64 3, .int .i64 0, .bool false, .bool false] 101)) (.slice (some ⟨z, 0, none⟩) 3 3) SK := by
  subst hz
  refine ⟨_, 3, rfl, Nat.le_refl _, by omega, fun _ => ⟨_, rfl, by simp, fun i k hi => ?_⟩⟩
  have hl : i < 3 := (List.getElem?_eq_some_iff.1 hi).1
  rw [Addr.add_lit, Nat.zero_add]
  match i, hl, hi with
  | 0, _, hi => injection hi with hi; subst hi; constructor <;> simp
  | 1, _, hi => injection hi with hi; subst hi; constructor <;> simp
  | 2, _, hi => injection hi with hi; subst hi; constructor <;> simp
set_option maxRecDepth 100000 in
set_option maxHeartbeats 2000000 in
theorem sorts_any (w : World) : Calls Tryz.prog 11 #[] w fun e w' => ∃ u, e = .returned u ∧ Kl w' u SK ∧ Below w.heap.size w w' := by
  have KL : Hid (Kl (w.alloc (.cells #[.string ⟨#[98, 97, 115, 101]⟩, .int .i64 50, .int .i64 0, .int .i64 0, .int .i64 4, .int .i64 0, .int .i64 50, .int .i64 5, .int .i64 0, .bool false, .bool true, .string ⟨#[100, 105, 103, 103, 101, 114]⟩, .int .i64 10, .int .i64 0, .int .i64 0, .int .i64 3, .int .i64 2, .int .i64 10, .int .i64 2, .int .i64 20, .bool false, .bool false, .string ⟨#[102, 105, 103, 104, 116, 101, 114]⟩, .int .i64 20, .int .i64 4, .int .i64 1, .int .i64 4, .int .i64 2, .int .i64 20, .int .i64 3, .int .i64 0, .bool false, .bool false] 101)) (.slice (some ⟨w.heap.size, 0, none⟩) 3 3) SK ∧ Below w.heap.size w (w.alloc (.cells #[.string ⟨#[98, 97, 115, 101]⟩, .int .i64 50, .int .i64 0, .int .i64 0, .int .i64 4, .int .i64 0, .int .i64 50, .int .i64 5, .int .i64 0, .bool false, .bool true, .string ⟨#[100, 105, 103, 103, 101, 114]⟩, .int .i64 10, .int .i64 0, .int .i64 0, .int .i64 3, .int .i64 2, .int .i64 10, .int .i64 2, .int .i64 20, .bool false, .bool false, .string ⟨#[102, 105, 103, 104, 116, 101, 114]⟩, .int .i64 20, .int .i64 4, .int .i64 1, .int .i64 4, .int .i64 2, .int .i64 20, .int .i64 3, .int .i64 0, .bool false, .bool false] 101))) := ⟨kl_mk rfl, (Below.refl _ _).alloc (Nat.le_refl _) _⟩
  go_enter Tryz.func11, Tryz.ntmps11
  go_wp2
  go_ret
  exact ⟨_, rfl, KL.out.1, KL.out.2⟩
/-- u does not lie in block z. -/
def Nz (z : Nat) (u : Value) : Prop := ∀ b, u.ownBlock = some b → b ≠ z
/-- how far the small world is: it lies in a block of its own, which v points to. -/
def SmI (w : World) (Y : WV) (v : Value) (V : World) : Prop := ∃ z u1 u2 u3 u4 u5, v = .pointer (some ⟨z, 0, none⟩) ∧ w.heap.size < z ∧ Below w.heap.size w V ∧ Wx V w.heap.size (.int .i64 0) (.int .i64 0) (.int .i64 0) (.int .i64 0) (.slice none 0 0) (.slice none 0 0) (.slice none 0 0) (.slice none 0 0) (.slice none 0 0) ∧ Wx V z (.int .i64 Y.turn) (.int .i64 Y.next) (.int .i64 Y.wide) (.int .i64 Y.high) u1 u2 u3 u4 u5 ∧ (Ow V (w.heap.size + 1) u1 Y.gs ∧ Ow V (w.heap.size + 1) u2 Y.os ∧ Ow V (w.heap.size + 1) u3 Y.gold ∧ Uno V (w.heap.size + 1) u4 Y.us ∧ Jbo V (w.heap.size + 1) u5 Y.qs) ∧ Nz z u1 ∧ Nz z u2 ∧ Nz z u3 ∧ Nz z u4 ∧ Nz z u5
theorem s0_eqs : S0.turn = 0 ∧ S0.next = 1 ∧ S0.wide = 4 ∧ S0.high = 2 ∧ S0.gs.length = 8 ∧ S0.os.length = 8 ∧ S0.gold.length = 2 ∧ S0.us.length = 0 ∧ S0.qs.length = 0 := ⟨rfl, rfl, rfl, rfl, rfl, rfl, rfl, rfl, rfl⟩
theorem s1_eqs : S1.turn = 0 ∧ S1.next = 2 ∧ S1.wide = 4 ∧ S1.high = 2 ∧ S1.gs.length = 8 ∧ S1.os.length = 8 ∧ S1.gold.length = 2 ∧ S1.us.length = 1 ∧ S1.qs.length = 0 := ⟨rfl, rfl, rfl, rfl, rfl, rfl, rfl, rfl, rfl⟩
theorem s2_eqs : S2.turn = 0 ∧ S2.next = 3 ∧ S2.wide = 4 ∧ S2.high = 2 ∧ S2.gs.length = 8 ∧ S2.os.length = 8 ∧ S2.gold.length = 2 ∧ S2.us.length = 2 ∧ S2.qs.length = 0 := ⟨rfl, rfl, rfl, rfl, rfl, rfl, rfl, rfl, rfl⟩
theorem s3_eqs : S3.turn = 0 ∧ S3.next = 4 ∧ S3.wide = 4 ∧ S3.high = 2 ∧ S3.gs.length = 8 ∧ S3.os.length = 8 ∧ S3.gold.length = 2 ∧ S3.us.length = 3 ∧ S3.qs.length = 0 := ⟨rfl, rfl, rfl, rfl, rfl, rfl, rfl, rfl, rfl⟩
theorem er_zero {r : Value} (h : Er r 0) : r = .nilIface := by
  rcases h with ⟨-, h⟩ | ⟨h, -⟩
  · exact h
  · exact absurd rfl h
theorem bx_kp {w w' : World} {y z : Nat} {a b : Int} {u1 u2 : Value} (h : Bx w y a b u1 u2) (k : Kp z w w') (hn : y ≠ z) : Bx w' y a b u1 u2 := by
  have hc : ∀ i, w'.cell? ⟨y, i, none⟩ = w.cell? ⟨y, i, none⟩ := fun i => by
    have := k.block y h.lt hn
    simp only [World.cell?, this]
  exact ⟨by rw [hc]; exact h.c0, by rw [hc]; exact h.c1, by rw [hc]; exact h.c2, by rw [hc]; exact h.c3⟩
theorem owns_nz {z : Nat} {w w' : World} {base : Nat} {T : TypeId} {size : Nat} {u : Value} {n : Nat} {cs : List Value} (h : w.ownsRow base T size u n cs) (k : Kp z w w') (hz : Nz z u) : w'.ownsRow base T size u n cs := by
  refine ⟨h.1, ?_⟩
  rcases h.2 with h1 | ⟨g, cap, cur, h1, h2, h3, h4⟩
  · exact .inl h1
  · exact .inr ⟨g, cap, cur, h1, h2, (k.block g (lt_of_block h3) (hz g (by rw [h1]; rfl))).trans h3, h4⟩
theorem smi_put {w V : World} {z : Nat} {Y : WV} {u1 u2 u3 u4 u5 d0 d1 d2 d3 d4 d5 d6 d7 d8 : Value} (hz : w.heap.size < z) (B : Below w.heap.size w V) (R : Wx V w.heap.size (.int .i64 0) (.int .i64 0) (.int .i64 0) (.int .i64 0) (.slice none 0 0) (.slice none 0 0) (.slice none 0 0) (.slice none 0 0) (.slice none 0 0)) (Z : Wx V z d0 d1 d2 d3 d4 d5 d6 d7 d8)
    (O : Ow V (w.heap.size + 1) u1 Y.gs ∧ Ow V (w.heap.size + 1) u2 Y.os ∧ Ow V (w.heap.size + 1) u3 Y.gold ∧ Uno V (w.heap.size + 1) u4 Y.us ∧ Jbo V (w.heap.size + 1) u5 Y.qs) (N : Nz z u1 ∧ Nz z u2 ∧ Nz z u3 ∧ Nz z u4 ∧ Nz z u5) :
    SmI w Y (.pointer (some ⟨z, 0, none⟩)) (((((((((V.setCell ⟨z, 0, none⟩ (.int .i64 Y.turn)).setCell ⟨z, 1, none⟩ (.int .i64 Y.next)).setCell ⟨z, 2, none⟩ (.int .i64 Y.wide)).setCell ⟨z, 3, none⟩ (.int .i64 Y.high)).setCell ⟨z, 4, none⟩ u1).setCell ⟨z, 5, none⟩ u2).setCell ⟨z, 6, none⟩ u3).setCell ⟨z, 7, none⟩ u4).setCell ⟨z, 8, none⟩ u5) := by
  have K := put_kp V z (.int .i64 Y.turn) (.int .i64 Y.next) (.int .i64 Y.wide) (.int .i64 Y.high) u1 u2 u3 u4 u5
  exact ⟨z, u1, u2, u3, u4, u5, rfl, hz, K.below B B.size (Nat.le_of_lt hz), R.kp K (by omega), Z.put _ _ _ _ _ _ _ _ _, ⟨owns_nz O.1 K N.1, owns_nz O.2.1 K N.2.1, owns_nz O.2.2.1 K N.2.2.1, owns_nz O.2.2.2.1 K N.2.2.2.1, owns_nz O.2.2.2.2 K N.2.2.2.2⟩, N⟩
theorem sl_wo {w : World} {base : Nat} {u : Value} {Y : WV} (h : Wo w base u Y) : ∃ p1 q1 p2 q2 p3 q3 p4 q4 p5 q5, u = .agg #[.int .i64 Y.turn, .int .i64 Y.next, .int .i64 Y.wide, .int .i64 Y.high, .slice p1 Y.gs.length q1, .slice p2 Y.os.length q2, .slice p3 Y.gold.length q3, .slice p4 Y.us.length q4, .slice p5 Y.qs.length q5] := by
  obtain ⟨u1, u2, u3, u4, u5, rfl, h1, h2, h3, h4, h5⟩ := h
  obtain ⟨p1, q1, rfl⟩ := h1.len
  obtain ⟨p2, q2, rfl⟩ := h2.len
  obtain ⟨p3, q3, rfl⟩ := h3.len
  obtain ⟨p4, q4, rfl⟩ := h4.len
  obtain ⟨p5, q5, rfl⟩ := h5.len
  exact ⟨_, _, _, _, _, _, _, _, _, _, rfl⟩
set_option maxRecDepth 100000 in
set_option maxHeartbeats 8000000 in
theorem small_any (w : World) : Calls Tryz.prog 9 #[] w fun e w' => ∃ u, e = .returned (.tuple #[u, .bool true]) ∧ Wo w' w.heap.size u S3 ∧ Below w.heap.size w w' := by
  go_enter Tryz.func9, Tryz.ntmps9
  go_upto_region 1 with fail
  have B0 : Hid (Below w.heap.size w (w.alloc (.cells #[.int .i64 0, .int .i64 0, .int .i64 0, .int .i64 0, .slice none 0 0, .slice none 0 0, .slice none 0 0, .slice none 0 0, .slice none 0 0] 29))) := (Below.refl _ _).alloc (Nat.le_refl _) _
  have R0 : Hid (Wx (w.alloc (.cells #[.int .i64 0, .int .i64 0, .int .i64 0, .int .i64 0, .slice none 0 0, .slice none 0 0, .slice none 0 0, .slice none 0 0, .slice none 0 0] 29)) w.heap.size (.int .i64 0) (.int .i64 0) (.int .i64 0) (.int .i64 0) (.slice none 0 0) (.slice none 0 0) (.slice none 0 0) (.slice none 0 0) (.slice none 0 0)) := Wx.new _ _ _ _ _ _ _ _ _ rfl
  generalize (w.alloc (.cells #[.int .i64 0, .int .i64 0, .int .i64 0, .int .i64 0, .slice none 0 0, .slice none 0 0, .slice none 0 0, .slice none 0 0, .slice none 0 0] 29)) = w0 at *
  go_wp2_with fail
  refine (parse_any ⟨#[46, 46, 46, 46, 10, 46, 46, 51, 46, 10]⟩ w0 (by decide)).mono ?_
  rintro e w1 ⟨hs, hb⟩
  have hp : Fd.parse (⟨#[46, 46, 46, 46, 10, 46, 46, 51, 46, 10]⟩ : ByteArray).data.toList = .inr ⟨0, 4, 2, SG, SO⟩ := sm_parse
  rcases hs with ⟨i, f, h1, -⟩ | ⟨st, u1, u2, h1, h2, r1, r2⟩
  · rw [hp] at h1; cases h1
  rw [hp] at h1
  injection h1 with h1
  subst h1
  subst h2
  have RO : Hid (Ro w1 u1 SG ∧ Ro w1 u2 SO) := ⟨r1, r2⟩
  obtain ⟨p1, q1, rfl, -⟩ := r1
  obtain ⟨p2, q2, rfl, -⟩ := r2
  have B1 : Hid (Below w.heap.size w w1) := B0.out.trans (hb.mono B0.out.size)
  have R1 : Hid (Wx w1 w.heap.size (.int .i64 0) (.int .i64 0) (.int .i64 0) (.int .i64 0) (.slice none 0 0) (.slice none 0 0) (.slice none 0 0) (.slice none 0 0) (.slice none 0 0)) := R0.out.below hb R0.out.lt
  clear hb hp B0 R0
  have l8 : SG.length = 8 := rfl
  have l8' : SO.length = 8 := rfl
  rw [l8, l8'] at *
  clear l8 l8'
  go_upto_region 2 with fail
  have BA : Hid (Below w1.heap.size w1 (w1.alloc (.cells #[.int .i64 4, .int .i64 2, .slice p1 8 q1, .slice p2 8 q2] 25))) := (Below.refl _ _).alloc (Nat.le_refl _) _
  have X2 : Hid (Bx (w1.alloc (.cells #[.int .i64 4, .int .i64 2, .slice p1 8 q1, .slice p2 8 q2] 25)) w1.heap.size 4 2 (.slice p1 8 q1) (.slice p2 8 q2)) := Bx.mk' _ _ _ _ rfl
  have FL : Hid (Fl (w1.alloc (.cells #[.int .i64 4, .int .i64 2, .slice p1 8 q1, .slice p2 8 q2] 25)) (.agg #[.int .i64 4, .int .i64 2, .slice p1 8 q1, .slice p2 8 q2]) 4 2 SG SO) := ⟨_, _, rfl, RO.out.1.below BA.out, RO.out.2.below BA.out⟩
  have R2 : Hid (Wx (w1.alloc (.cells #[.int .i64 4, .int .i64 2, .slice p1 8 q1, .slice p2 8 q2] 25)) w.heap.size (.int .i64 0) (.int .i64 0) (.int .i64 0) (.int .i64 0) (.slice none 0 0) (.slice none 0 0) (.slice none 0 0) (.slice none 0 0) (.slice none 0 0)) := R1.out.below BA.out R1.out.lt
  have B2 : Hid (Below w.heap.size w (w1.alloc (.cells #[.int .i64 4, .int .i64 2, .slice p1 8 q1, .slice p2 8 q2] 25))) := B1.out.trans (BA.out.mono B1.out.size)
  generalize (w1.alloc (.cells #[.int .i64 4, .int .i64 2, .slice p1 8 q1, .slice p2 8 q2] 25)) = w2 at *
  clear BA B1 R1 RO
  have N2 : Hid (w.heap.size < w2.heap.size) := by have := R2.out.lt; exact this
  go_cut [5, 6] (fun v5 v6 V => v6 = .nilIface ∧ SmI w S0 v5 V)
  case first =>
    refine wp_region_float 6 [(true, 1), (false, 0), (false, 2), (true, 3), (true, 4), (true, 5)] [(false, 7)] [(false, 8)] (fun V => Bx V w1.heap.size 4 2 (.slice p1 8 q1) (.slice p2 8 q2)) (by kernel_rfl) (by kernel_rfl) (by kernel_rfl) (by decide +kernel) (by decide +kernel) (X2.out.below (Below.refl _ _).drew X2.out.lt) ?_
    have X3 : Hid (Bx { w2 with drawn := w2.drawn + 1 } w1.heap.size 4 2 (.slice p1 8 q1) (.slice p2 8 q2)) := X2.out.below (Below.refl _ _).drew X2.out.lt
    have F3 : Hid (Fl { w2 with drawn := w2.drawn + 1 } (.agg #[.int .i64 4, .int .i64 2, .slice p1 8 q1, .slice p2 8 q2]) 4 2 SG SO) := FL.out.below (Below.refl _ _).drew
    have R3 : Hid (Wx { w2 with drawn := w2.drawn + 1 } w.heap.size (.int .i64 0) (.int .i64 0) (.int .i64 0) (.int .i64 0) (.slice none 0 0) (.slice none 0 0) (.slice none 0 0) (.slice none 0 0) (.slice none 0 0)) := R2.out
    have B3 : Hid (Below w.heap.size w { w2 with drawn := w2.drawn + 1 }) := B2.out.drew
    generalize ({ w2 with drawn := w2.drawn + 1 } : World) = w3 at *
    clear X2 FL R2 B2
    refine headA_read rfl (.agg #[.int .i64 4, .int .i64 2, .slice p1 8 q1, .slice p2 8 q2]) (by go_simp) (fun V hV => by obtain ⟨f0, f1, f2, f3⟩ := hV; go_simp) ?_
    go_simp
    refine headA_call rfl 11 #[] (by go_simp) (by go_simp) ?_ rfl (.pointer (some ⟨w3.heap.size, 0, none⟩)) (w3.alloc (.cells #[.int .i64 0, .int .i64 0, .int .i64 0, .int .i64 0, .slice none 0 0, .slice none 0 0, .slice none 0 0, .slice none 0 0, .slice none 0 0] 29)) (by go_simp) (by go_simp) (X3.out.below ((Below.refl _ _).alloc (Nat.le_refl _) _) X3.out.lt) ?_
    · refine (sorts_any w3).mono ?_
      rintro e w4 ⟨ku, rfl, hk, hb⟩
      have K4 : Hid (Kl w4 ku SK) := hk
      have X4 : Hid (Bx w4 w1.heap.size 4 2 (.slice p1 8 q1) (.slice p2 8 q2)) := X3.out.below hb X3.out.lt
      have F4 : Hid (Fl w4 (.agg #[.int .i64 4, .int .i64 2, .slice p1 8 q1, .slice p2 8 q2]) 4 2 SG SO) := F3.out.below hb
      have R4 : Hid (Wx w4 w.heap.size (.int .i64 0) (.int .i64 0) (.int .i64 0) (.int .i64 0) (.slice none 0 0) (.slice none 0 0) (.slice none 0 0) (.slice none 0 0) (.slice none 0 0)) := R3.out.below hb R3.out.lt
      have B4 : Hid (Below w.heap.size w w4) := B3.out.trans (hb.mono B3.out.size)
      clear hk hb X3 F3 R3 B3
      refine ⟨_, rfl, X4.out, ?_⟩
      go_simp
      refine headA_call rfl 45 #[ku, .agg #[.int .i64 4, .int .i64 2, .slice p1 8 q1, .slice p2 8 q2], .int .i64 2, .int .i64 100] (by go_simp) (by go_simp) ?_ rfl (.pointer (some ⟨w4.heap.size, 0, none⟩)) (w4.alloc (.cells #[.int .i64 0, .int .i64 0, .int .i64 0, .int .i64 0, .slice none 0 0, .slice none 0 0, .slice none 0 0, .slice none 0 0, .slice none 0 0] 29)) (by go_simp) (by go_simp) (X4.out.below ((Below.refl _ _).alloc (Nat.le_refl _) _) X4.out.lt) ?_
      · refine (new_any ku _ SK 4 2 SG SO 2 100 w4 K4.out sm_names F4.out).mono ?_
        rintro e w5 ⟨u, r, rfl, hr, ho, hb⟩
        rw [sm_f0] at hr
        rw [sm_0] at ho
        obtain rfl := er_zero hr
        have X5 : Hid (Bx w5 w1.heap.size 4 2 (.slice p1 8 q1) (.slice p2 8 q2)) := X4.out.below hb X4.out.lt
        have R5 : Hid (Wx w5 w.heap.size (.int .i64 0) (.int .i64 0) (.int .i64 0) (.int .i64 0) (.slice none 0 0) (.slice none 0 0) (.slice none 0 0) (.slice none 0 0) (.slice none 0 0)) := R4.out.below hb R4.out.lt
        have B5 : Hid (Below w.heap.size w w5) := B4.out.trans (hb.mono B4.out.size)
        obtain ⟨v1, v2, v3, v4, v5, rfl, o1, o2, o3, o4, o5⟩ := ho
        obtain ⟨a1, b1, rfl⟩ := o1.len
        obtain ⟨a2, b2, rfl⟩ := o2.len
        obtain ⟨a3, b3, rfl⟩ := o3.len
        obtain ⟨a4, b4, rfl⟩ := o4.len
        obtain ⟨a5, b5, rfl⟩ := o5.len
        obtain ⟨g1, g2, g3, g4, g5, g6, g7, g8, g9⟩ := s0_eqs
        simp only [g5] at o1
        simp only [g6] at o2
        simp only [g7] at o3
        simp only [g8] at o4
        simp only [g9] at o5
        simp only [g1, g2, g3, g4, g5, g6, g7, g8, g9]
        clear g1 g2 g3 g4 g5 g6 g7 g8 g9
        have O5 : Hid (Ow w5 (w.heap.size + 1) (.slice a1 8 b1) S0.gs ∧ Ow w5 (w.heap.size + 1) (.slice a2 8 b2) S0.os ∧ Ow w5 (w.heap.size + 1) (.slice a3 2 b3) S0.gold ∧ Uno w5 (w.heap.size + 1) (.slice a4 0 b4) S0.us ∧ Jbo w5 (w.heap.size + 1) (.slice a5 0 b5) S0.qs) := ⟨o1.mono R4.out.lt, o2.mono R4.out.lt, o3.mono R4.out.lt, o4.mono R4.out.lt, o5.mono R4.out.lt⟩
        clear hr hb o1 o2 o3 o4 o5 K4 X4 F4 R4 B4
        refine ⟨_, rfl, X5.out, ?_⟩
        go_simp
        refine headA_read rfl (.tuple #[.agg #[.int .i64 0, .int .i64 1, .int .i64 4, .int .i64 2, .slice a1 8 b1, .slice a2 8 b2, .slice a3 2 b3, .slice a4 0 b4, .slice a5 0 b5], .nilIface]) (by go_simp) (fun V hV => by go_simp) ?_
        go_simp
        refine headA_read rfl (.agg #[.int .i64 0, .int .i64 1, .int .i64 4, .int .i64 2, .slice a1 8 b1, .slice a2 8 b2, .slice a3 2 b3, .slice a4 0 b4, .slice a5 0 b5]) (by go_simp) (fun V hV => by go_simp) ?_
        go_simp
        refine headA_read rfl .nilIface (by go_simp) (fun V hV => by go_simp) ?_
        go_simp
        have NZ : Hid (Nz w5.heap.size (.slice a1 8 b1) ∧ Nz w5.heap.size (.slice a2 8 b2) ∧ Nz w5.heap.size (.slice a3 2 b3) ∧ Nz w5.heap.size (.slice a4 0 b4) ∧ Nz w5.heap.size (.slice a5 0 b5)) := ⟨fun b hb => by have := (O5.out.1.block b hb).2; omega, fun b hb => by have := (O5.out.2.1.block b hb).2; omega, fun b hb => by have := (O5.out.2.2.1.block b hb).2; omega, fun b hb => by have := (O5.out.2.2.2.1.block b hb).2; omega, fun b hb => by have := (O5.out.2.2.2.2.block b hb).2; omega⟩
        have BQ : Hid (Below w5.heap.size w5 (w5.alloc (.cells #[.int .i64 0, .int .i64 0, .int .i64 0, .int .i64 0, .slice none 0 0, .slice none 0 0, .slice none 0 0, .slice none 0 0, .slice none 0 0] 29))) := (Below.refl _ _).alloc (Nat.le_refl _) _
        have Z6 : Hid (Wx (w5.alloc (.cells #[.int .i64 0, .int .i64 0, .int .i64 0, .int .i64 0, .slice none 0 0, .slice none 0 0, .slice none 0 0, .slice none 0 0, .slice none 0 0] 29)) w5.heap.size (.int .i64 0) (.int .i64 0) (.int .i64 0) (.int .i64 0) (.slice none 0 0) (.slice none 0 0) (.slice none 0 0) (.slice none 0 0) (.slice none 0 0)) := Wx.new _ _ _ _ _ _ _ _ _ rfl
        refine headA_last rfl (.pointer (some ⟨w5.heap.size, 0, none⟩)) (w5.alloc (.cells #[.int .i64 0, .int .i64 0, .int .i64 0, .int .i64 0, .slice none 0 0, .slice none 0 0, .slice none 0 0, .slice none 0 0, .slice none 0 0] 29)) (by go_simp) (by go_simp) (X5.out.below BQ.out X5.out.lt) ?_
        obtain ⟨z, hz⟩ : ∃ z, w5.heap.size = z := ⟨_, rfl⟩
        have HZ : Hid (w.heap.size < z) := by rw [← hz]; exact R5.out.lt
        rw [hz] at NZ Z6 BQ ⊢
        go_simp
        generalize (w5.alloc (.cells #[.int .i64 0, .int .i64 0, .int .i64 0, .int .i64 0, .slice none 0 0, .slice none 0 0, .slice none 0 0, .slice none 0 0, .slice none 0 0] 29)) = w6 at *
        have X6 : Hid (Bx w6 w1.heap.size 4 2 (.slice p1 8 q1) (.slice p2 8 q2)) := X5.out.below BQ.out (by have := X5.out.lt; omega)
        have R6 : Hid (Wx w6 w.heap.size (.int .i64 0) (.int .i64 0) (.int .i64 0) (.int .i64 0) (.slice none 0 0) (.slice none 0 0) (.slice none 0 0) (.slice none 0 0) (.slice none 0 0)) := R5.out.below BQ.out HZ.out
        have B6 : Hid (Below w.heap.size w w6) := B5.out.trans (BQ.out.mono (by have := HZ.out; omega))
        have O6 : Hid (Ow w6 (w.heap.size + 1) (.slice a1 8 b1) S0.gs ∧ Ow w6 (w.heap.size + 1) (.slice a2 8 b2) S0.os ∧ Ow w6 (w.heap.size + 1) (.slice a3 2 b3) S0.gold ∧ Uno w6 (w.heap.size + 1) (.slice a4 0 b4) S0.us ∧ Jbo w6 (w.heap.size + 1) (.slice a5 0 b5) S0.qs) := ⟨O5.out.1.below (by rw [hz]; exact BQ.out), O5.out.2.1.below (by rw [hz]; exact BQ.out), O5.out.2.2.1.below (by rw [hz]; exact BQ.out), O5.out.2.2.2.1.below (by rw [hz]; exact BQ.out), O5.out.2.2.2.2.below (by rw [hz]; exact BQ.out)⟩
        have XZ : Hid (w1.heap.size ≠ z) := by have := X5.out.lt; unfold Hid; omega
        clear X5 R5 B5 O5 BQ hz
        have KW : Hid (Kp z w6 (((((((((w6.setCell ⟨z, 0, none⟩ (.int .i64 0)).setCell ⟨z, 1, none⟩ (.int .i64 1)).setCell ⟨z, 2, none⟩ (.int .i64 4)).setCell ⟨z, 3, none⟩ (.int .i64 2)).setCell ⟨z, 4, none⟩ (.slice a1 8 b1)).setCell ⟨z, 5, none⟩ (.slice a2 8 b2)).setCell ⟨z, 6, none⟩ (.slice a3 2 b3)).setCell ⟨z, 7, none⟩ (.slice a4 0 b4)).setCell ⟨z, 8, none⟩ (.slice a5 0 b5))) := put_kp _ _ _ _ _ _ _ _ _ _ _
        have FIN : Hid (SmI w S0 (.pointer (some ⟨z, 0, none⟩)) (((((((((w6.setCell ⟨z, 0, none⟩ (.int .i64 0)).setCell ⟨z, 1, none⟩ (.int .i64 1)).setCell ⟨z, 2, none⟩ (.int .i64 4)).setCell ⟨z, 3, none⟩ (.int .i64 2)).setCell ⟨z, 4, none⟩ (.slice a1 8 b1)).setCell ⟨z, 5, none⟩ (.slice a2 8 b2)).setCell ⟨z, 6, none⟩ (.slice a3 2 b3)).setCell ⟨z, 7, none⟩ (.slice a4 0 b4)).setCell ⟨z, 8, none⟩ (.slice a5 0 b5))) := smi_put HZ.out B6.out R6.out Z6.out O6.out NZ.out
        obtain ⟨x0, x1, x2, x3, x4, x5, x6, x7, x8⟩ := Z6.out.cells
        obtain ⟨t0, t1, t2, t3, t4, t5, t6, t7, t8⟩ := Z6.out.thaws
        refine headT_skip rfl (((((((((w6.setCell ⟨z, 0, none⟩ (.int .i64 0)).setCell ⟨z, 1, none⟩ (.int .i64 1)).setCell ⟨z, 2, none⟩ (.int .i64 4)).setCell ⟨z, 3, none⟩ (.int .i64 2)).setCell ⟨z, 4, none⟩ (.slice a1 8 b1)).setCell ⟨z, 5, none⟩ (.slice a2 8 b2)).setCell ⟨z, 6, none⟩ (.slice a3 2 b3)).setCell ⟨z, 7, none⟩ (.slice a4 0 b4)).setCell ⟨z, 8, none⟩ (.slice a5 0 b5)) (by go_simp) (by go_simp) (bx_kp X6.out KW.out XZ.out) ?_
        go_simp
        clear x0 x1 x2 x3 x4 x5 x6 x7 x8 t0 t1 t2 t3 t4 t5 t6 t7 t8
        generalize (((((((((w6.setCell ⟨z, 0, none⟩ (.int .i64 0)).setCell ⟨z, 1, none⟩ (.int .i64 1)).setCell ⟨z, 2, none⟩ (.int .i64 4)).setCell ⟨z, 3, none⟩ (.int .i64 2)).setCell ⟨z, 4, none⟩ (.slice a1 8 b1)).setCell ⟨z, 5, none⟩ (.slice a2 8 b2)).setCell ⟨z, 6, none⟩ (.slice a3 2 b3)).setCell ⟨z, 7, none⟩ (.slice a4 0 b4)).setCell ⟨z, 8, none⟩ (.slice a5 0 b5)) = w7 at *
        unfold wpHeadT
        refine sched_value rfl .nilIface w7 (by go_simp) (by go_simp) trivial ?_
        go_simp
        unfold wpSched
        go_wp2_with fail
        go_meet
        case rel => exact ⟨rfl, FIN.out⟩
      · -- the memory is made behind the kinds
        have BQ : Hid (Below w4.heap.size w4 (w4.alloc (.cells #[.int .i64 0, .int .i64 0, .int .i64 0, .int .i64 0, .slice none 0 0, .slice none 0 0, .slice none 0 0, .slice none 0 0, .slice none 0 0] 29))) := (Below.refl _ _).alloc (Nat.le_refl _) _
        have ZQ : Hid (Wx (w4.alloc (.cells #[.int .i64 0, .int .i64 0, .int .i64 0, .int .i64 0, .slice none 0 0, .slice none 0 0, .slice none 0 0, .slice none 0 0, .slice none 0 0] 29)) w4.heap.size (.int .i64 0) (.int .i64 0) (.int .i64 0) (.int .i64 0) (.slice none 0 0) (.slice none 0 0) (.slice none 0 0) (.slice none 0 0) (.slice none 0 0)) := Wx.new _ _ _ _ _ _ _ _ _ rfl
        obtain ⟨z, hz⟩ : ∃ z, w4.heap.size = z := ⟨_, rfl⟩
        have HZ : Hid (w.heap.size < z) := by rw [← hz]; exact R4.out.lt
        have XZ : Hid (w1.heap.size ≠ z) := by have := X4.out.lt; unfold Hid; omega
        rw [hz] at ZQ ⊢
        go_simp
        generalize (w4.alloc (.cells #[.int .i64 0, .int .i64 0, .int .i64 0, .int .i64 0, .slice none 0 0, .slice none 0 0, .slice none 0 0, .slice none 0 0, .slice none 0 0] 29)) = w4' at *
        have K4' : Hid (Kl w4' ku SK) := K4.out.below BQ.out
        have X4' : Hid (Bx w4' w1.heap.size 4 2 (.slice p1 8 q1) (.slice p2 8 q2)) := X4.out.below BQ.out X4.out.lt
        have F4' : Hid (Fl w4' (.agg #[.int .i64 4, .int .i64 2, .slice p1 8 q1, .slice p2 8 q2]) 4 2 SG SO) := F4.out.below BQ.out
        have R4' : Hid (Wx w4' w.heap.size (.int .i64 0) (.int .i64 0) (.int .i64 0) (.int .i64 0) (.slice none 0 0) (.slice none 0 0) (.slice none 0 0) (.slice none 0 0) (.slice none 0 0)) := R4.out.below BQ.out R4.out.lt
        have B4' : Hid (Below w.heap.size w w4') := B4.out.trans (BQ.out.mono B4.out.size)
        clear K4 X4 F4 R4 B4 BQ hz
        refine headT_call rfl 45 #[ku, .agg #[.int .i64 4, .int .i64 2, .slice p1 8 q1, .slice p2 8 q2], .int .i64 2, .int .i64 100] (by go_simp) (by go_simp) ?_
        refine (new_any ku _ SK 4 2 SG SO 2 100 w4' K4'.out sm_names F4'.out).mono ?_
        rintro e w5 ⟨u, r, rfl, hr, ho, hb⟩
        rw [sm_f0] at hr
        rw [sm_0] at ho
        obtain rfl := er_zero hr
        have X5 : Hid (Bx w5 w1.heap.size 4 2 (.slice p1 8 q1) (.slice p2 8 q2)) := X4'.out.below hb X4'.out.lt
        have R5 : Hid (Wx w5 w.heap.size (.int .i64 0) (.int .i64 0) (.int .i64 0) (.int .i64 0) (.slice none 0 0) (.slice none 0 0) (.slice none 0 0) (.slice none 0 0) (.slice none 0 0)) := R4'.out.below hb R4'.out.lt
        have B5 : Hid (Below w.heap.size w w5) := B4'.out.trans (hb.mono B4'.out.size)
        have Z5 : Hid (Wx w5 z (.int .i64 0) (.int .i64 0) (.int .i64 0) (.int .i64 0) (.slice none 0 0) (.slice none 0 0) (.slice none 0 0) (.slice none 0 0) (.slice none 0 0)) := ZQ.out.below hb ZQ.out.lt
        have ZL : Hid (z < w4'.heap.size) := ZQ.out.lt
        obtain ⟨v1, v2, v3, v4, v5, rfl, o1, o2, o3, o4, o5⟩ := ho
        obtain ⟨a1, b1, rfl⟩ := o1.len
        obtain ⟨a2, b2, rfl⟩ := o2.len
        obtain ⟨a3, b3, rfl⟩ := o3.len
        obtain ⟨a4, b4, rfl⟩ := o4.len
        obtain ⟨a5, b5, rfl⟩ := o5.len
        obtain ⟨g1, g2, g3, g4, g5, g6, g7, g8, g9⟩ := s0_eqs
        simp only [g5] at o1
        simp only [g6] at o2
        simp only [g7] at o3
        simp only [g8] at o4
        simp only [g9] at o5
        simp only [g1, g2, g3, g4, g5, g6, g7, g8, g9]
        clear g1 g2 g3 g4 g5 g6 g7 g8 g9
        have NZ : Hid (Nz z (.slice a1 8 b1) ∧ Nz z (.slice a2 8 b2) ∧ Nz z (.slice a3 2 b3) ∧ Nz z (.slice a4 0 b4) ∧ Nz z (.slice a5 0 b5)) := ⟨fun b hb => by have := (o1.block b hb).1; have := ZL.out; omega, fun b hb => by have := (o2.block b hb).1; have := ZL.out; omega, fun b hb => by have := (o3.block b hb).1; have := ZL.out; omega, fun b hb => by have := (o4.block b hb).1; have := ZL.out; omega, fun b hb => by have := (o5.block b hb).1; have := ZL.out; omega⟩
        have O5 : Hid (Ow w5 (w.heap.size + 1) (.slice a1 8 b1) S0.gs ∧ Ow w5 (w.heap.size + 1) (.slice a2 8 b2) S0.os ∧ Ow w5 (w.heap.size + 1) (.slice a3 2 b3) S0.gold ∧ Uno w5 (w.heap.size + 1) (.slice a4 0 b4) S0.us ∧ Jbo w5 (w.heap.size + 1) (.slice a5 0 b5) S0.qs) := ⟨o1.mono R4'.out.lt, o2.mono R4'.out.lt, o3.mono R4'.out.lt, o4.mono R4'.out.lt, o5.mono R4'.out.lt⟩
        clear hr hb o1 o2 o3 o4 o5 K4' X4' F4' R4' B4' ZQ ZL
        refine ⟨_, rfl, X5.out, ?_⟩
        go_simp
        refine headT_read rfl (.tuple #[.agg #[.int .i64 0, .int .i64 1, .int .i64 4, .int .i64 2, .slice a1 8 b1, .slice a2 8 b2, .slice a3 2 b3, .slice a4 0 b4, .slice a5 0 b5], .nilIface]) (by go_simp) (fun V hV => by go_simp) ?_
        go_simp
        generalize w5 = w6 at *
        have X6 := X5
        have R6 := R5
        have B6 := B5
        have O6 := O5
        have Z6 := Z5
        clear X5 R5 B5 O5 Z5
        refine headT_read rfl (.agg #[.int .i64 0, .int .i64 1, .int .i64 4, .int .i64 2, .slice a1 8 b1, .slice a2 8 b2, .slice a3 2 b3, .slice a4 0 b4, .slice a5 0 b5]) (by go_simp) (fun V hV => by go_simp) ?_
        go_simp
        refine headT_read rfl .nilIface (by go_simp) (fun V hV => by go_simp) ?_
        go_simp
        have KW : Hid (Kp z w6 (((((((((w6.setCell ⟨z, 0, none⟩ (.int .i64 0)).setCell ⟨z, 1, none⟩ (.int .i64 1)).setCell ⟨z, 2, none⟩ (.int .i64 4)).setCell ⟨z, 3, none⟩ (.int .i64 2)).setCell ⟨z, 4, none⟩ (.slice a1 8 b1)).setCell ⟨z, 5, none⟩ (.slice a2 8 b2)).setCell ⟨z, 6, none⟩ (.slice a3 2 b3)).setCell ⟨z, 7, none⟩ (.slice a4 0 b4)).setCell ⟨z, 8, none⟩ (.slice a5 0 b5))) := put_kp _ _ _ _ _ _ _ _ _ _ _
        have FIN : Hid (SmI w S0 (.pointer (some ⟨z, 0, none⟩)) (((((((((w6.setCell ⟨z, 0, none⟩ (.int .i64 0)).setCell ⟨z, 1, none⟩ (.int .i64 1)).setCell ⟨z, 2, none⟩ (.int .i64 4)).setCell ⟨z, 3, none⟩ (.int .i64 2)).setCell ⟨z, 4, none⟩ (.slice a1 8 b1)).setCell ⟨z, 5, none⟩ (.slice a2 8 b2)).setCell ⟨z, 6, none⟩ (.slice a3 2 b3)).setCell ⟨z, 7, none⟩ (.slice a4 0 b4)).setCell ⟨z, 8, none⟩ (.slice a5 0 b5))) := smi_put HZ.out B6.out R6.out Z6.out O6.out NZ.out
        obtain ⟨x0, x1, x2, x3, x4, x5, x6, x7, x8⟩ := Z6.out.cells
        obtain ⟨t0, t1, t2, t3, t4, t5, t6, t7, t8⟩ := Z6.out.thaws
        refine headT_skip rfl (((((((((w6.setCell ⟨z, 0, none⟩ (.int .i64 0)).setCell ⟨z, 1, none⟩ (.int .i64 1)).setCell ⟨z, 2, none⟩ (.int .i64 4)).setCell ⟨z, 3, none⟩ (.int .i64 2)).setCell ⟨z, 4, none⟩ (.slice a1 8 b1)).setCell ⟨z, 5, none⟩ (.slice a2 8 b2)).setCell ⟨z, 6, none⟩ (.slice a3 2 b3)).setCell ⟨z, 7, none⟩ (.slice a4 0 b4)).setCell ⟨z, 8, none⟩ (.slice a5 0 b5)) (by go_simp) (by go_simp) (bx_kp X6.out KW.out XZ.out) ?_
        go_simp
        clear x0 x1 x2 x3 x4 x5 x6 x7 x8 t0 t1 t2 t3 t4 t5 t6 t7 t8
        generalize (((((((((w6.setCell ⟨z, 0, none⟩ (.int .i64 0)).setCell ⟨z, 1, none⟩ (.int .i64 1)).setCell ⟨z, 2, none⟩ (.int .i64 4)).setCell ⟨z, 3, none⟩ (.int .i64 2)).setCell ⟨z, 4, none⟩ (.slice a1 8 b1)).setCell ⟨z, 5, none⟩ (.slice a2 8 b2)).setCell ⟨z, 6, none⟩ (.slice a3 2 b3)).setCell ⟨z, 7, none⟩ (.slice a4 0 b4)).setCell ⟨z, 8, none⟩ (.slice a5 0 b5)) = w7 at *
        unfold wpHeadT
        refine sched_value rfl .nilIface w7 (by go_simp) (by go_simp) trivial ?_
        go_simp
        unfold wpSched
        go_wp2_with fail
        go_meet
        case rel => exact ⟨rfl, FIN.out⟩
    · -- the memory is made first
      have BQ : Hid (Below w3.heap.size w3 (w3.alloc (.cells #[.int .i64 0, .int .i64 0, .int .i64 0, .int .i64 0, .slice none 0 0, .slice none 0 0, .slice none 0 0, .slice none 0 0, .slice none 0 0] 29))) := (Below.refl _ _).alloc (Nat.le_refl _) _
      have ZQ : Hid (Wx (w3.alloc (.cells #[.int .i64 0, .int .i64 0, .int .i64 0, .int .i64 0, .slice none 0 0, .slice none 0 0, .slice none 0 0, .slice none 0 0, .slice none 0 0] 29)) w3.heap.size (.int .i64 0) (.int .i64 0) (.int .i64 0) (.int .i64 0) (.slice none 0 0) (.slice none 0 0) (.slice none 0 0) (.slice none 0 0) (.slice none 0 0)) := Wx.new _ _ _ _ _ _ _ _ _ rfl
      obtain ⟨z, hz⟩ : ∃ z, w3.heap.size = z := ⟨_, rfl⟩
      have HZ : Hid (w.heap.size < z) := by rw [← hz]; exact R3.out.lt
      have XZ : Hid (w1.heap.size ≠ z) := by have := X3.out.lt; unfold Hid; omega
      rw [hz] at ZQ ⊢
      go_simp
      generalize (w3.alloc (.cells #[.int .i64 0, .int .i64 0, .int .i64 0, .int .i64 0, .slice none 0 0, .slice none 0 0, .slice none 0 0, .slice none 0 0, .slice none 0 0] 29)) = w3' at *
      have X3' : Hid (Bx w3' w1.heap.size 4 2 (.slice p1 8 q1) (.slice p2 8 q2)) := X3.out.below BQ.out X3.out.lt
      have F3' : Hid (Fl w3' (.agg #[.int .i64 4, .int .i64 2, .slice p1 8 q1, .slice p2 8 q2]) 4 2 SG SO) := F3.out.below BQ.out
      have R3' : Hid (Wx w3' w.heap.size (.int .i64 0) (.int .i64 0) (.int .i64 0) (.int .i64 0) (.slice none 0 0) (.slice none 0 0) (.slice none 0 0) (.slice none 0 0) (.slice none 0 0)) := R3.out.below BQ.out R3.out.lt
      have B3' : Hid (Below w.heap.size w w3') := B3.out.trans (BQ.out.mono B3.out.size)
      clear X3 F3 R3 B3 BQ hz
      refine headT_call rfl 11 #[] (by go_simp) (by go_simp) ?_
      refine (sorts_any w3').mono ?_
      rintro e w4' ⟨ku, rfl, hk, hb⟩
      have K4' : Hid (Kl w4' ku SK) := hk
      have X4' : Hid (Bx w4' w1.heap.size 4 2 (.slice p1 8 q1) (.slice p2 8 q2)) := X3'.out.below hb X3'.out.lt
      have F4' : Hid (Fl w4' (.agg #[.int .i64 4, .int .i64 2, .slice p1 8 q1, .slice p2 8 q2]) 4 2 SG SO) := F3'.out.below hb
      have R4' : Hid (Wx w4' w.heap.size (.int .i64 0) (.int .i64 0) (.int .i64 0) (.int .i64 0) (.slice none 0 0) (.slice none 0 0) (.slice none 0 0) (.slice none 0 0) (.slice none 0 0)) := R3'.out.below hb R3'.out.lt
      have B4' : Hid (Below w.heap.size w w4') := B3'.out.trans (hb.mono B3'.out.size)
      have ZQ' : Hid (Wx w4' z (.int .i64 0) (.int .i64 0) (.int .i64 0) (.int .i64 0) (.slice none 0 0) (.slice none 0 0) (.slice none 0 0) (.slice none 0 0) (.slice none 0 0)) := ZQ.out.below hb ZQ.out.lt
      clear hk hb X3' F3' R3' B3' ZQ
      have ZQ := ZQ'
      clear ZQ'
      refine ⟨_, rfl, X4'.out, ?_⟩
      go_simp
      refine headT_call rfl 45 #[ku, .agg #[.int .i64 4, .int .i64 2, .slice p1 8 q1, .slice p2 8 q2], .int .i64 2, .int .i64 100] (by go_simp) (by go_simp) ?_
      refine (new_any ku _ SK 4 2 SG SO 2 100 w4' K4'.out sm_names F4'.out).mono ?_
      rintro e w5 ⟨u, r, rfl, hr, ho, hb⟩
      rw [sm_f0] at hr
      rw [sm_0] at ho
      obtain rfl := er_zero hr
      have X5 : Hid (Bx w5 w1.heap.size 4 2 (.slice p1 8 q1) (.slice p2 8 q2)) := X4'.out.below hb X4'.out.lt
      have R5 : Hid (Wx w5 w.heap.size (.int .i64 0) (.int .i64 0) (.int .i64 0) (.int .i64 0) (.slice none 0 0) (.slice none 0 0) (.slice none 0 0) (.slice none 0 0) (.slice none 0 0)) := R4'.out.below hb R4'.out.lt
      have B5 : Hid (Below w.heap.size w w5) := B4'.out.trans (hb.mono B4'.out.size)
      have Z5 : Hid (Wx w5 z (.int .i64 0) (.int .i64 0) (.int .i64 0) (.int .i64 0) (.slice none 0 0) (.slice none 0 0) (.slice none 0 0) (.slice none 0 0) (.slice none 0 0)) := ZQ.out.below hb ZQ.out.lt
      have ZL : Hid (z < w4'.heap.size) := ZQ.out.lt
      obtain ⟨v1, v2, v3, v4, v5, rfl, o1, o2, o3, o4, o5⟩ := ho
      obtain ⟨a1, b1, rfl⟩ := o1.len
      obtain ⟨a2, b2, rfl⟩ := o2.len
      obtain ⟨a3, b3, rfl⟩ := o3.len
      obtain ⟨a4, b4, rfl⟩ := o4.len
      obtain ⟨a5, b5, rfl⟩ := o5.len
      obtain ⟨g1, g2, g3, g4, g5, g6, g7, g8, g9⟩ := s0_eqs
      simp only [g5] at o1
      simp only [g6] at o2
      simp only [g7] at o3
      simp only [g8] at o4
      simp only [g9] at o5
      simp only [g1, g2, g3, g4, g5, g6, g7, g8, g9]
      clear g1 g2 g3 g4 g5 g6 g7 g8 g9
      have NZ : Hid (Nz z (.slice a1 8 b1) ∧ Nz z (.slice a2 8 b2) ∧ Nz z (.slice a3 2 b3) ∧ Nz z (.slice a4 0 b4) ∧ Nz z (.slice a5 0 b5)) := ⟨fun b hb => by have := (o1.block b hb).1; have := ZL.out; omega, fun b hb => by have := (o2.block b hb).1; have := ZL.out; omega, fun b hb => by have := (o3.block b hb).1; have := ZL.out; omega, fun b hb => by have := (o4.block b hb).1; have := ZL.out; omega, fun b hb => by have := (o5.block b hb).1; have := ZL.out; omega⟩
      have O5 : Hid (Ow w5 (w.heap.size + 1) (.slice a1 8 b1) S0.gs ∧ Ow w5 (w.heap.size + 1) (.slice a2 8 b2) S0.os ∧ Ow w5 (w.heap.size + 1) (.slice a3 2 b3) S0.gold ∧ Uno w5 (w.heap.size + 1) (.slice a4 0 b4) S0.us ∧ Jbo w5 (w.heap.size + 1) (.slice a5 0 b5) S0.qs) := ⟨o1.mono R4'.out.lt, o2.mono R4'.out.lt, o3.mono R4'.out.lt, o4.mono R4'.out.lt, o5.mono R4'.out.lt⟩
      clear hr hb o1 o2 o3 o4 o5 K4' X4' F4' R4' B4' ZQ ZL
      refine ⟨_, rfl, X5.out, ?_⟩
      go_simp
      refine headT_read rfl (.tuple #[.agg #[.int .i64 0, .int .i64 1, .int .i64 4, .int .i64 2, .slice a1 8 b1, .slice a2 8 b2, .slice a3 2 b3, .slice a4 0 b4, .slice a5 0 b5], .nilIface]) (by go_simp) (fun V hV => by go_simp) ?_
      go_simp
      generalize w5 = w6 at *
      have X6 := X5
      have R6 := R5
      have B6 := B5
      have O6 := O5
      have Z6 := Z5
      clear X5 R5 B5 O5 Z5
      refine headT_read rfl (.agg #[.int .i64 0, .int .i64 1, .int .i64 4, .int .i64 2, .slice a1 8 b1, .slice a2 8 b2, .slice a3 2 b3, .slice a4 0 b4, .slice a5 0 b5]) (by go_simp) (fun V hV => by go_simp) ?_
      go_simp
      refine headT_read rfl .nilIface (by go_simp) (fun V hV => by go_simp) ?_
      go_simp
      have KW : Hid (Kp z w6 (((((((((w6.setCell ⟨z, 0, none⟩ (.int .i64 0)).setCell ⟨z, 1, none⟩ (.int .i64 1)).setCell ⟨z, 2, none⟩ (.int .i64 4)).setCell ⟨z, 3, none⟩ (.int .i64 2)).setCell ⟨z, 4, none⟩ (.slice a1 8 b1)).setCell ⟨z, 5, none⟩ (.slice a2 8 b2)).setCell ⟨z, 6, none⟩ (.slice a3 2 b3)).setCell ⟨z, 7, none⟩ (.slice a4 0 b4)).setCell ⟨z, 8, none⟩ (.slice a5 0 b5))) := put_kp _ _ _ _ _ _ _ _ _ _ _
      have FIN : Hid (SmI w S0 (.pointer (some ⟨z, 0, none⟩)) (((((((((w6.setCell ⟨z, 0, none⟩ (.int .i64 0)).setCell ⟨z, 1, none⟩ (.int .i64 1)).setCell ⟨z, 2, none⟩ (.int .i64 4)).setCell ⟨z, 3, none⟩ (.int .i64 2)).setCell ⟨z, 4, none⟩ (.slice a1 8 b1)).setCell ⟨z, 5, none⟩ (.slice a2 8 b2)).setCell ⟨z, 6, none⟩ (.slice a3 2 b3)).setCell ⟨z, 7, none⟩ (.slice a4 0 b4)).setCell ⟨z, 8, none⟩ (.slice a5 0 b5))) := smi_put HZ.out B6.out R6.out Z6.out O6.out NZ.out
      obtain ⟨x0, x1, x2, x3, x4, x5, x6, x7, x8⟩ := Z6.out.cells
      obtain ⟨t0, t1, t2, t3, t4, t5, t6, t7, t8⟩ := Z6.out.thaws
      refine headT_skip rfl (((((((((w6.setCell ⟨z, 0, none⟩ (.int .i64 0)).setCell ⟨z, 1, none⟩ (.int .i64 1)).setCell ⟨z, 2, none⟩ (.int .i64 4)).setCell ⟨z, 3, none⟩ (.int .i64 2)).setCell ⟨z, 4, none⟩ (.slice a1 8 b1)).setCell ⟨z, 5, none⟩ (.slice a2 8 b2)).setCell ⟨z, 6, none⟩ (.slice a3 2 b3)).setCell ⟨z, 7, none⟩ (.slice a4 0 b4)).setCell ⟨z, 8, none⟩ (.slice a5 0 b5)) (by go_simp) (by go_simp) (bx_kp X6.out KW.out XZ.out) ?_
      go_simp
      clear x0 x1 x2 x3 x4 x5 x6 x7 x8 t0 t1 t2 t3 t4 t5 t6 t7 t8
      generalize (((((((((w6.setCell ⟨z, 0, none⟩ (.int .i64 0)).setCell ⟨z, 1, none⟩ (.int .i64 1)).setCell ⟨z, 2, none⟩ (.int .i64 4)).setCell ⟨z, 3, none⟩ (.int .i64 2)).setCell ⟨z, 4, none⟩ (.slice a1 8 b1)).setCell ⟨z, 5, none⟩ (.slice a2 8 b2)).setCell ⟨z, 6, none⟩ (.slice a3 2 b3)).setCell ⟨z, 7, none⟩ (.slice a4 0 b4)).setCell ⟨z, 8, none⟩ (.slice a5 0 b5)) = w7 at *
      unfold wpHeadT
      refine sched_value rfl .nilIface w7 (by go_simp) (by go_simp) trivial ?_
      go_simp
      unfold wpSched
      go_wp2_with fail
      go_meet
      case rel => exact ⟨rfl, FIN.out⟩
  case rest =>
    obtain ⟨rfl, hS⟩ := hcut
    obtain ⟨z, c1, c2, c3, c4, c5, rfl, hz, hB, hR, hX, hO, hN⟩ := hS
    have HZ : Hid (w.heap.size < z) := hz
    have BA0 : Hid (Below w.heap.size w wc) := hB
    have RA0 : Hid (Wx wc w.heap.size (.int .i64 0) (.int .i64 0) (.int .i64 0) (.int .i64 0) (.slice none 0 0) (.slice none 0 0) (.slice none 0 0) (.slice none 0 0) (.slice none 0 0)) := hR
    have XA0 : Hid (Wx wc z (.int .i64 S0.turn) (.int .i64 S0.next) (.int .i64 S0.wide) (.int .i64 S0.high) c1 c2 c3 c4 c5) := hX
    have OA0 : Hid (Ow wc (w.heap.size + 1) c1 S0.gs ∧ Ow wc (w.heap.size + 1) c2 S0.os ∧ Ow wc (w.heap.size + 1) c3 S0.gold ∧ Uno wc (w.heap.size + 1) c4 S0.us ∧ Jbo wc (w.heap.size + 1) c5 S0.qs) := hO
    clear hz hB hR hX hO hN X2 FL R2 B2 N2
    generalize wc = s0 at *
    go_upto_region 3 with fail
    refine wp_region_two [(true, 1), (false, 0), (false, 2), (true, 3)] [(true, 4), (true, 5), (false, 6), (false, 7)] (fun V => Wx V z (.int .i64 S0.turn) (.int .i64 S0.next) (.int .i64 S0.wide) (.int .i64 S0.high) c1 c2 c3 c4 c5) (by kernel_rfl) (by kernel_rfl) (by kernel_rfl) (by decide +kernel) (by decide +kernel) XA0.out.drew ?_
    have X1 : Hid (Wx { s0 with drawn := s0.drawn + 1 } z (.int .i64 S0.turn) (.int .i64 S0.next) (.int .i64 S0.wide) (.int .i64 S0.high) c1 c2 c3 c4 c5) := XA0.out
    have R1 : Hid (Wx { s0 with drawn := s0.drawn + 1 } w.heap.size (.int .i64 0) (.int .i64 0) (.int .i64 0) (.int .i64 0) (.slice none 0 0) (.slice none 0 0) (.slice none 0 0) (.slice none 0 0) (.slice none 0 0)) := RA0.out
    have B1 : Hid (Below w.heap.size w { s0 with drawn := s0.drawn + 1 }) := BA0.out.drew
    have D1 : Hid (Below s0.heap.size s0 { s0 with drawn := s0.drawn + 1 }) := (Below.refl _ _).drew
    generalize ({ s0 with drawn := s0.drawn + 1 } : World) = v3 at *
    have L1 : Hid (Wl v3 (.agg #[.int .i64 S0.turn, .int .i64 S0.next, .int .i64 S0.wide, .int .i64 S0.high, c1, c2, c3, c4, c5]) S0) := ⟨_, _, _, _, _, rfl, (OA0.out.1.below D1.out).ro, (OA0.out.2.1.below D1.out).ro, (OA0.out.2.2.1.below D1.out).ro, (OA0.out.2.2.2.1.below D1.out).l, (OA0.out.2.2.2.2.below D1.out).l⟩
    clear XA0 RA0 BA0 OA0 D1
    refine headT_read rfl (.agg #[.int .i64 S0.turn, .int .i64 S0.next, .int .i64 S0.wide, .int .i64 S0.high, c1, c2, c3, c4, c5]) (by go_simp) (fun V hV => by obtain ⟨x0, x1, x2, x3, x4, x5, x6, x7, x8⟩ := hV.cells; go_simp) ?_
    go_simp
    refine headT_call rfl 11 #[] (by go_simp) (by go_simp) ?_
    refine (sorts_any v3).mono ?_
    rintro e v4 ⟨ku, rfl, hk, hb⟩
    have K4 : Hid (Kl v4 ku SK) := hk
    have X4 : Hid (Wx v4 z (.int .i64 S0.turn) (.int .i64 S0.next) (.int .i64 S0.wide) (.int .i64 S0.high) c1 c2 c3 c4 c5) := X1.out.below hb X1.out.lt
    have R4 : Hid (Wx v4 w.heap.size (.int .i64 0) (.int .i64 0) (.int .i64 0) (.int .i64 0) (.slice none 0 0) (.slice none 0 0) (.slice none 0 0) (.slice none 0 0) (.slice none 0 0)) := R1.out.below hb R1.out.lt
    have B4 : Hid (Below w.heap.size w v4) := B1.out.trans (hb.mono B1.out.size)
    have L4 : Hid (Wl v4 (.agg #[.int .i64 S0.turn, .int .i64 S0.next, .int .i64 S0.wide, .int .i64 S0.high, c1, c2, c3, c4, c5]) S0) := L1.out.below hb
    clear hk hb X1 R1 B1 L1
    refine ⟨_, rfl, X4.out, ?_⟩
    go_simp
    refine headT_call rfl 46 #[ku, .agg #[.int .i64 S0.turn, .int .i64 S0.next, .int .i64 S0.wide, .int .i64 S0.high, c1, c2, c3, c4, c5], .int .i64 0, .int .i64 0, .int .i64 0] (by go_simp) (by go_simp) ?_
    refine (place_any ku _ SK S0 0 0 0 v4 K4.out sm_names L4.out).mono ?_
    rintro e v5 ⟨u, r, rfl, hr, ho, hb⟩
    rw [sm_f1] at hr
    rw [sm_1] at ho
    obtain rfl := er_zero hr
    have X5 : Hid (Wx v5 z (.int .i64 S0.turn) (.int .i64 S0.next) (.int .i64 S0.wide) (.int .i64 S0.high) c1 c2 c3 c4 c5) := X4.out.below hb X4.out.lt
    have R5 : Hid (Wx v5 w.heap.size (.int .i64 0) (.int .i64 0) (.int .i64 0) (.int .i64 0) (.slice none 0 0) (.slice none 0 0) (.slice none 0 0) (.slice none 0 0) (.slice none 0 0)) := R4.out.below hb R4.out.lt
    have B5 : Hid (Below w.heap.size w v5) := B4.out.trans (hb.mono B4.out.size)
    have ZL : Hid (z < v4.heap.size) := X4.out.lt
    obtain ⟨y1, y2, y3, y4, y5, rfl, o1, o2, o3, o4, o5⟩ := ho
    obtain ⟨m11, n11, rfl⟩ := o1.len
    obtain ⟨m12, n12, rfl⟩ := o2.len
    obtain ⟨m13, n13, rfl⟩ := o3.len
    obtain ⟨m14, n14, rfl⟩ := o4.len
    obtain ⟨m15, n15, rfl⟩ := o5.len
    obtain ⟨g1, g2, g3, g4, g5, g6, g7, g8, g9⟩ := s1_eqs
    simp only [g5] at o1
    simp only [g6] at o2
    simp only [g7] at o3
    simp only [g8] at o4
    simp only [g9] at o5
    simp only [g1, g2, g3, g4, g5, g6, g7, g8, g9]
    clear g1 g2 g3 g4 g5 g6 g7 g8 g9
    have NZ : Hid (Nz z (.slice m11 8 n11) ∧ Nz z (.slice m12 8 n12) ∧ Nz z (.slice m13 2 n13) ∧ Nz z (.slice m14 1 n14) ∧ Nz z (.slice m15 0 n15)) := ⟨fun b hb => by have := (o1.block b hb).1; have := ZL.out; omega, fun b hb => by have := (o2.block b hb).1; have := ZL.out; omega, fun b hb => by have := (o3.block b hb).1; have := ZL.out; omega, fun b hb => by have := (o4.block b hb).1; have := ZL.out; omega, fun b hb => by have := (o5.block b hb).1; have := ZL.out; omega⟩
    have O5 : Hid (Ow v5 (w.heap.size + 1) (.slice m11 8 n11) S1.gs ∧ Ow v5 (w.heap.size + 1) (.slice m12 8 n12) S1.os ∧ Ow v5 (w.heap.size + 1) (.slice m13 2 n13) S1.gold ∧ Uno v5 (w.heap.size + 1) (.slice m14 1 n14) S1.us ∧ Jbo v5 (w.heap.size + 1) (.slice m15 0 n15) S1.qs) := ⟨o1.mono R4.out.lt, o2.mono R4.out.lt, o3.mono R4.out.lt, o4.mono R4.out.lt, o5.mono R4.out.lt⟩
    clear hr hb o1 o2 o3 o4 o5 K4 X4 R4 B4 L4 ZL
    refine ⟨_, rfl, X5.out, ?_⟩
    go_simp
    refine headT_read rfl (.tuple #[.agg #[.int .i64 0, .int .i64 2, .int .i64 4, .int .i64 2, .slice m11 8 n11, .slice m12 8 n12, .slice m13 2 n13, .slice m14 1 n14, .slice m15 0 n15], .nilIface]) (by go_simp) (fun V hV => by go_simp) ?_
    go_simp
    unfold wpHeadT
    have KW : Hid (Kp z v5 (((((((((v5.setCell ⟨z, 0, none⟩ (.int .i64 0)).setCell ⟨z, 1, none⟩ (.int .i64 2)).setCell ⟨z, 2, none⟩ (.int .i64 4)).setCell ⟨z, 3, none⟩ (.int .i64 2)).setCell ⟨z, 4, none⟩ (.slice m11 8 n11)).setCell ⟨z, 5, none⟩ (.slice m12 8 n12)).setCell ⟨z, 6, none⟩ (.slice m13 2 n13)).setCell ⟨z, 7, none⟩ (.slice m14 1 n14)).setCell ⟨z, 8, none⟩ (.slice m15 0 n15))) := put_kp _ _ _ _ _ _ _ _ _ _ _
    have XA1 : Hid (Wx (((((((((v5.setCell ⟨z, 0, none⟩ (.int .i64 0)).setCell ⟨z, 1, none⟩ (.int .i64 2)).setCell ⟨z, 2, none⟩ (.int .i64 4)).setCell ⟨z, 3, none⟩ (.int .i64 2)).setCell ⟨z, 4, none⟩ (.slice m11 8 n11)).setCell ⟨z, 5, none⟩ (.slice m12 8 n12)).setCell ⟨z, 6, none⟩ (.slice m13 2 n13)).setCell ⟨z, 7, none⟩ (.slice m14 1 n14)).setCell ⟨z, 8, none⟩ (.slice m15 0 n15)) z (.int .i64 0) (.int .i64 2) (.int .i64 4) (.int .i64 2) (.slice m11 8 n11) (.slice m12 8 n12) (.slice m13 2 n13) (.slice m14 1 n14) (.slice m15 0 n15)) := X5.out.put (.int .i64 0) (.int .i64 2) (.int .i64 4) (.int .i64 2) (.slice m11 8 n11) (.slice m12 8 n12) (.slice m13 2 n13) (.slice m14 1 n14) (.slice m15 0 n15)
    obtain ⟨x0, x1, x2, x3, x4, x5, x6, x7, x8⟩ := X5.out.cells
    obtain ⟨t0, t1, t2, t3, t4, t5, t6, t7, t8⟩ := X5.out.thaws
    refine sched_read rfl (.agg #[.int .i64 0, .int .i64 2, .int .i64 4, .int .i64 2, .slice m11 8 n11, .slice m12 8 n12, .slice m13 2 n13, .slice m14 1 n14, .slice m15 0 n15]) (by go_simp) (fun V hV => by go_simp) ?_
    go_simp
    refine sched_read rfl .nilIface (by go_simp) (fun V hV => by go_simp) ?_
    go_simp
    refine sched_skip rfl (((((((((v5.setCell ⟨z, 0, none⟩ (.int .i64 0)).setCell ⟨z, 1, none⟩ (.int .i64 2)).setCell ⟨z, 2, none⟩ (.int .i64 4)).setCell ⟨z, 3, none⟩ (.int .i64 2)).setCell ⟨z, 4, none⟩ (.slice m11 8 n11)).setCell ⟨z, 5, none⟩ (.slice m12 8 n12)).setCell ⟨z, 6, none⟩ (.slice m13 2 n13)).setCell ⟨z, 7, none⟩ (.slice m14 1 n14)).setCell ⟨z, 8, none⟩ (.slice m15 0 n15)) (by go_simp) (by go_simp) trivial ?_
    go_simp
    clear x0 x1 x2 x3 x4 x5 x6 x7 x8 t0 t1 t2 t3 t4 t5 t6 t7 t8
    generalize (((((((((v5.setCell ⟨z, 0, none⟩ (.int .i64 0)).setCell ⟨z, 1, none⟩ (.int .i64 2)).setCell ⟨z, 2, none⟩ (.int .i64 4)).setCell ⟨z, 3, none⟩ (.int .i64 2)).setCell ⟨z, 4, none⟩ (.slice m11 8 n11)).setCell ⟨z, 5, none⟩ (.slice m12 8 n12)).setCell ⟨z, 6, none⟩ (.slice m13 2 n13)).setCell ⟨z, 7, none⟩ (.slice m14 1 n14)).setCell ⟨z, 8, none⟩ (.slice m15 0 n15)) = s1 at *
    have BA1 : Hid (Below w.heap.size w s1) := KW.out.below B5.out B5.out.size (Nat.le_of_lt HZ.out)
    have RA1 : Hid (Wx s1 w.heap.size (.int .i64 0) (.int .i64 0) (.int .i64 0) (.int .i64 0) (.slice none 0 0) (.slice none 0 0) (.slice none 0 0) (.slice none 0 0) (.slice none 0 0)) := R5.out.kp KW.out (Nat.ne_of_lt HZ.out)
    have OA1 : Hid (Ow s1 (w.heap.size + 1) (.slice m11 8 n11) S1.gs ∧ Ow s1 (w.heap.size + 1) (.slice m12 8 n12) S1.os ∧ Ow s1 (w.heap.size + 1) (.slice m13 2 n13) S1.gold ∧ Uno s1 (w.heap.size + 1) (.slice m14 1 n14) S1.us ∧ Jbo s1 (w.heap.size + 1) (.slice m15 0 n15) S1.qs) := ⟨owns_nz O5.out.1 KW.out NZ.out.1, owns_nz O5.out.2.1 KW.out NZ.out.2.1, owns_nz O5.out.2.2.1 KW.out NZ.out.2.2.1, owns_nz O5.out.2.2.2.1 KW.out NZ.out.2.2.2.1, owns_nz O5.out.2.2.2.2 KW.out NZ.out.2.2.2.2⟩
    clear X5 R5 B5 O5 NZ KW
    refine sched_value rfl .nilIface s1 (by go_simp) (by go_simp) trivial ?_
    go_simp
    unfold wpSched
    go_upto_region 4 with fail
    refine wp_region_two [(true, 1), (false, 0), (false, 2), (true, 3)] [(true, 4), (true, 5), (false, 6), (false, 7)] (fun V => Wx V z (.int .i64 S1.turn) (.int .i64 S1.next) (.int .i64 S1.wide) (.int .i64 S1.high) (.slice m11 8 n11) (.slice m12 8 n12) (.slice m13 2 n13) (.slice m14 1 n14) (.slice m15 0 n15)) (by kernel_rfl) (by kernel_rfl) (by kernel_rfl) (by decide +kernel) (by decide +kernel) XA1.out.drew ?_
    have X1 : Hid (Wx { s1 with drawn := s1.drawn + 1 } z (.int .i64 S1.turn) (.int .i64 S1.next) (.int .i64 S1.wide) (.int .i64 S1.high) (.slice m11 8 n11) (.slice m12 8 n12) (.slice m13 2 n13) (.slice m14 1 n14) (.slice m15 0 n15)) := XA1.out
    have R1 : Hid (Wx { s1 with drawn := s1.drawn + 1 } w.heap.size (.int .i64 0) (.int .i64 0) (.int .i64 0) (.int .i64 0) (.slice none 0 0) (.slice none 0 0) (.slice none 0 0) (.slice none 0 0) (.slice none 0 0)) := RA1.out
    have B1 : Hid (Below w.heap.size w { s1 with drawn := s1.drawn + 1 }) := BA1.out.drew
    have D1 : Hid (Below s1.heap.size s1 { s1 with drawn := s1.drawn + 1 }) := (Below.refl _ _).drew
    generalize ({ s1 with drawn := s1.drawn + 1 } : World) = v3 at *
    have L1 : Hid (Wl v3 (.agg #[.int .i64 S1.turn, .int .i64 S1.next, .int .i64 S1.wide, .int .i64 S1.high, .slice m11 8 n11, .slice m12 8 n12, .slice m13 2 n13, .slice m14 1 n14, .slice m15 0 n15]) S1) := ⟨_, _, _, _, _, rfl, (OA1.out.1.below D1.out).ro, (OA1.out.2.1.below D1.out).ro, (OA1.out.2.2.1.below D1.out).ro, (OA1.out.2.2.2.1.below D1.out).l, (OA1.out.2.2.2.2.below D1.out).l⟩
    clear XA1 RA1 BA1 OA1 D1
    refine headT_read rfl (.agg #[.int .i64 S1.turn, .int .i64 S1.next, .int .i64 S1.wide, .int .i64 S1.high, .slice m11 8 n11, .slice m12 8 n12, .slice m13 2 n13, .slice m14 1 n14, .slice m15 0 n15]) (by go_simp) (fun V hV => by obtain ⟨x0, x1, x2, x3, x4, x5, x6, x7, x8⟩ := hV.cells; go_simp) ?_
    go_simp
    refine headT_call rfl 11 #[] (by go_simp) (by go_simp) ?_
    refine (sorts_any v3).mono ?_
    rintro e v4 ⟨ku, rfl, hk, hb⟩
    have K4 : Hid (Kl v4 ku SK) := hk
    have X4 : Hid (Wx v4 z (.int .i64 S1.turn) (.int .i64 S1.next) (.int .i64 S1.wide) (.int .i64 S1.high) (.slice m11 8 n11) (.slice m12 8 n12) (.slice m13 2 n13) (.slice m14 1 n14) (.slice m15 0 n15)) := X1.out.below hb X1.out.lt
    have R4 : Hid (Wx v4 w.heap.size (.int .i64 0) (.int .i64 0) (.int .i64 0) (.int .i64 0) (.slice none 0 0) (.slice none 0 0) (.slice none 0 0) (.slice none 0 0) (.slice none 0 0)) := R1.out.below hb R1.out.lt
    have B4 : Hid (Below w.heap.size w v4) := B1.out.trans (hb.mono B1.out.size)
    have L4 : Hid (Wl v4 (.agg #[.int .i64 S1.turn, .int .i64 S1.next, .int .i64 S1.wide, .int .i64 S1.high, .slice m11 8 n11, .slice m12 8 n12, .slice m13 2 n13, .slice m14 1 n14, .slice m15 0 n15]) S1) := L1.out.below hb
    clear hk hb X1 R1 B1 L1
    refine ⟨_, rfl, X4.out, ?_⟩
    go_simp
    refine headT_call rfl 46 #[ku, .agg #[.int .i64 S1.turn, .int .i64 S1.next, .int .i64 S1.wide, .int .i64 S1.high, .slice m11 8 n11, .slice m12 8 n12, .slice m13 2 n13, .slice m14 1 n14, .slice m15 0 n15], .int .i64 0, .int .i64 1, .int .i64 1] (by go_simp) (by go_simp) ?_
    refine (place_any ku _ SK S1 0 1 1 v4 K4.out sm_names L4.out).mono ?_
    rintro e v5 ⟨u, r, rfl, hr, ho, hb⟩
    rw [sm_f2] at hr
    rw [sm_2] at ho
    obtain rfl := er_zero hr
    have X5 : Hid (Wx v5 z (.int .i64 S1.turn) (.int .i64 S1.next) (.int .i64 S1.wide) (.int .i64 S1.high) (.slice m11 8 n11) (.slice m12 8 n12) (.slice m13 2 n13) (.slice m14 1 n14) (.slice m15 0 n15)) := X4.out.below hb X4.out.lt
    have R5 : Hid (Wx v5 w.heap.size (.int .i64 0) (.int .i64 0) (.int .i64 0) (.int .i64 0) (.slice none 0 0) (.slice none 0 0) (.slice none 0 0) (.slice none 0 0) (.slice none 0 0)) := R4.out.below hb R4.out.lt
    have B5 : Hid (Below w.heap.size w v5) := B4.out.trans (hb.mono B4.out.size)
    have ZL : Hid (z < v4.heap.size) := X4.out.lt
    obtain ⟨y1, y2, y3, y4, y5, rfl, o1, o2, o3, o4, o5⟩ := ho
    obtain ⟨m21, n21, rfl⟩ := o1.len
    obtain ⟨m22, n22, rfl⟩ := o2.len
    obtain ⟨m23, n23, rfl⟩ := o3.len
    obtain ⟨m24, n24, rfl⟩ := o4.len
    obtain ⟨m25, n25, rfl⟩ := o5.len
    obtain ⟨g1, g2, g3, g4, g5, g6, g7, g8, g9⟩ := s2_eqs
    simp only [g5] at o1
    simp only [g6] at o2
    simp only [g7] at o3
    simp only [g8] at o4
    simp only [g9] at o5
    simp only [g1, g2, g3, g4, g5, g6, g7, g8, g9]
    clear g1 g2 g3 g4 g5 g6 g7 g8 g9
    have NZ : Hid (Nz z (.slice m21 8 n21) ∧ Nz z (.slice m22 8 n22) ∧ Nz z (.slice m23 2 n23) ∧ Nz z (.slice m24 2 n24) ∧ Nz z (.slice m25 0 n25)) := ⟨fun b hb => by have := (o1.block b hb).1; have := ZL.out; omega, fun b hb => by have := (o2.block b hb).1; have := ZL.out; omega, fun b hb => by have := (o3.block b hb).1; have := ZL.out; omega, fun b hb => by have := (o4.block b hb).1; have := ZL.out; omega, fun b hb => by have := (o5.block b hb).1; have := ZL.out; omega⟩
    have O5 : Hid (Ow v5 (w.heap.size + 1) (.slice m21 8 n21) S2.gs ∧ Ow v5 (w.heap.size + 1) (.slice m22 8 n22) S2.os ∧ Ow v5 (w.heap.size + 1) (.slice m23 2 n23) S2.gold ∧ Uno v5 (w.heap.size + 1) (.slice m24 2 n24) S2.us ∧ Jbo v5 (w.heap.size + 1) (.slice m25 0 n25) S2.qs) := ⟨o1.mono R4.out.lt, o2.mono R4.out.lt, o3.mono R4.out.lt, o4.mono R4.out.lt, o5.mono R4.out.lt⟩
    clear hr hb o1 o2 o3 o4 o5 K4 X4 R4 B4 L4 ZL
    refine ⟨_, rfl, X5.out, ?_⟩
    go_simp
    refine headT_read rfl (.tuple #[.agg #[.int .i64 0, .int .i64 3, .int .i64 4, .int .i64 2, .slice m21 8 n21, .slice m22 8 n22, .slice m23 2 n23, .slice m24 2 n24, .slice m25 0 n25], .nilIface]) (by go_simp) (fun V hV => by go_simp) ?_
    go_simp
    unfold wpHeadT
    have KW : Hid (Kp z v5 (((((((((v5.setCell ⟨z, 0, none⟩ (.int .i64 0)).setCell ⟨z, 1, none⟩ (.int .i64 3)).setCell ⟨z, 2, none⟩ (.int .i64 4)).setCell ⟨z, 3, none⟩ (.int .i64 2)).setCell ⟨z, 4, none⟩ (.slice m21 8 n21)).setCell ⟨z, 5, none⟩ (.slice m22 8 n22)).setCell ⟨z, 6, none⟩ (.slice m23 2 n23)).setCell ⟨z, 7, none⟩ (.slice m24 2 n24)).setCell ⟨z, 8, none⟩ (.slice m25 0 n25))) := put_kp _ _ _ _ _ _ _ _ _ _ _
    have XA2 : Hid (Wx (((((((((v5.setCell ⟨z, 0, none⟩ (.int .i64 0)).setCell ⟨z, 1, none⟩ (.int .i64 3)).setCell ⟨z, 2, none⟩ (.int .i64 4)).setCell ⟨z, 3, none⟩ (.int .i64 2)).setCell ⟨z, 4, none⟩ (.slice m21 8 n21)).setCell ⟨z, 5, none⟩ (.slice m22 8 n22)).setCell ⟨z, 6, none⟩ (.slice m23 2 n23)).setCell ⟨z, 7, none⟩ (.slice m24 2 n24)).setCell ⟨z, 8, none⟩ (.slice m25 0 n25)) z (.int .i64 0) (.int .i64 3) (.int .i64 4) (.int .i64 2) (.slice m21 8 n21) (.slice m22 8 n22) (.slice m23 2 n23) (.slice m24 2 n24) (.slice m25 0 n25)) := X5.out.put (.int .i64 0) (.int .i64 3) (.int .i64 4) (.int .i64 2) (.slice m21 8 n21) (.slice m22 8 n22) (.slice m23 2 n23) (.slice m24 2 n24) (.slice m25 0 n25)
    obtain ⟨x0, x1, x2, x3, x4, x5, x6, x7, x8⟩ := X5.out.cells
    obtain ⟨t0, t1, t2, t3, t4, t5, t6, t7, t8⟩ := X5.out.thaws
    refine sched_read rfl (.agg #[.int .i64 0, .int .i64 3, .int .i64 4, .int .i64 2, .slice m21 8 n21, .slice m22 8 n22, .slice m23 2 n23, .slice m24 2 n24, .slice m25 0 n25]) (by go_simp) (fun V hV => by go_simp) ?_
    go_simp
    refine sched_read rfl .nilIface (by go_simp) (fun V hV => by go_simp) ?_
    go_simp
    refine sched_skip rfl (((((((((v5.setCell ⟨z, 0, none⟩ (.int .i64 0)).setCell ⟨z, 1, none⟩ (.int .i64 3)).setCell ⟨z, 2, none⟩ (.int .i64 4)).setCell ⟨z, 3, none⟩ (.int .i64 2)).setCell ⟨z, 4, none⟩ (.slice m21 8 n21)).setCell ⟨z, 5, none⟩ (.slice m22 8 n22)).setCell ⟨z, 6, none⟩ (.slice m23 2 n23)).setCell ⟨z, 7, none⟩ (.slice m24 2 n24)).setCell ⟨z, 8, none⟩ (.slice m25 0 n25)) (by go_simp) (by go_simp) trivial ?_
    go_simp
    clear x0 x1 x2 x3 x4 x5 x6 x7 x8 t0 t1 t2 t3 t4 t5 t6 t7 t8
    generalize (((((((((v5.setCell ⟨z, 0, none⟩ (.int .i64 0)).setCell ⟨z, 1, none⟩ (.int .i64 3)).setCell ⟨z, 2, none⟩ (.int .i64 4)).setCell ⟨z, 3, none⟩ (.int .i64 2)).setCell ⟨z, 4, none⟩ (.slice m21 8 n21)).setCell ⟨z, 5, none⟩ (.slice m22 8 n22)).setCell ⟨z, 6, none⟩ (.slice m23 2 n23)).setCell ⟨z, 7, none⟩ (.slice m24 2 n24)).setCell ⟨z, 8, none⟩ (.slice m25 0 n25)) = s2 at *
    have BA2 : Hid (Below w.heap.size w s2) := KW.out.below B5.out B5.out.size (Nat.le_of_lt HZ.out)
    have RA2 : Hid (Wx s2 w.heap.size (.int .i64 0) (.int .i64 0) (.int .i64 0) (.int .i64 0) (.slice none 0 0) (.slice none 0 0) (.slice none 0 0) (.slice none 0 0) (.slice none 0 0)) := R5.out.kp KW.out (Nat.ne_of_lt HZ.out)
    have OA2 : Hid (Ow s2 (w.heap.size + 1) (.slice m21 8 n21) S2.gs ∧ Ow s2 (w.heap.size + 1) (.slice m22 8 n22) S2.os ∧ Ow s2 (w.heap.size + 1) (.slice m23 2 n23) S2.gold ∧ Uno s2 (w.heap.size + 1) (.slice m24 2 n24) S2.us ∧ Jbo s2 (w.heap.size + 1) (.slice m25 0 n25) S2.qs) := ⟨owns_nz O5.out.1 KW.out NZ.out.1, owns_nz O5.out.2.1 KW.out NZ.out.2.1, owns_nz O5.out.2.2.1 KW.out NZ.out.2.2.1, owns_nz O5.out.2.2.2.1 KW.out NZ.out.2.2.2.1, owns_nz O5.out.2.2.2.2 KW.out NZ.out.2.2.2.2⟩
    clear X5 R5 B5 O5 NZ KW
    refine sched_value rfl .nilIface s2 (by go_simp) (by go_simp) trivial ?_
    go_simp
    unfold wpSched
    go_upto_region 5 with fail
    refine wp_region_two [(true, 1), (false, 0), (false, 2), (true, 3)] [(true, 4), (true, 5), (false, 6), (false, 7)] (fun V => Wx V z (.int .i64 S2.turn) (.int .i64 S2.next) (.int .i64 S2.wide) (.int .i64 S2.high) (.slice m21 8 n21) (.slice m22 8 n22) (.slice m23 2 n23) (.slice m24 2 n24) (.slice m25 0 n25)) (by kernel_rfl) (by kernel_rfl) (by kernel_rfl) (by decide +kernel) (by decide +kernel) XA2.out.drew ?_
    have X1 : Hid (Wx { s2 with drawn := s2.drawn + 1 } z (.int .i64 S2.turn) (.int .i64 S2.next) (.int .i64 S2.wide) (.int .i64 S2.high) (.slice m21 8 n21) (.slice m22 8 n22) (.slice m23 2 n23) (.slice m24 2 n24) (.slice m25 0 n25)) := XA2.out
    have R1 : Hid (Wx { s2 with drawn := s2.drawn + 1 } w.heap.size (.int .i64 0) (.int .i64 0) (.int .i64 0) (.int .i64 0) (.slice none 0 0) (.slice none 0 0) (.slice none 0 0) (.slice none 0 0) (.slice none 0 0)) := RA2.out
    have B1 : Hid (Below w.heap.size w { s2 with drawn := s2.drawn + 1 }) := BA2.out.drew
    have D1 : Hid (Below s2.heap.size s2 { s2 with drawn := s2.drawn + 1 }) := (Below.refl _ _).drew
    generalize ({ s2 with drawn := s2.drawn + 1 } : World) = v3 at *
    have L1 : Hid (Wl v3 (.agg #[.int .i64 S2.turn, .int .i64 S2.next, .int .i64 S2.wide, .int .i64 S2.high, .slice m21 8 n21, .slice m22 8 n22, .slice m23 2 n23, .slice m24 2 n24, .slice m25 0 n25]) S2) := ⟨_, _, _, _, _, rfl, (OA2.out.1.below D1.out).ro, (OA2.out.2.1.below D1.out).ro, (OA2.out.2.2.1.below D1.out).ro, (OA2.out.2.2.2.1.below D1.out).l, (OA2.out.2.2.2.2.below D1.out).l⟩
    clear XA2 RA2 BA2 OA2 D1
    refine headT_read rfl (.agg #[.int .i64 S2.turn, .int .i64 S2.next, .int .i64 S2.wide, .int .i64 S2.high, .slice m21 8 n21, .slice m22 8 n22, .slice m23 2 n23, .slice m24 2 n24, .slice m25 0 n25]) (by go_simp) (fun V hV => by obtain ⟨x0, x1, x2, x3, x4, x5, x6, x7, x8⟩ := hV.cells; go_simp) ?_
    go_simp
    refine headT_call rfl 11 #[] (by go_simp) (by go_simp) ?_
    refine (sorts_any v3).mono ?_
    rintro e v4 ⟨ku, rfl, hk, hb⟩
    have K4 : Hid (Kl v4 ku SK) := hk
    have X4 : Hid (Wx v4 z (.int .i64 S2.turn) (.int .i64 S2.next) (.int .i64 S2.wide) (.int .i64 S2.high) (.slice m21 8 n21) (.slice m22 8 n22) (.slice m23 2 n23) (.slice m24 2 n24) (.slice m25 0 n25)) := X1.out.below hb X1.out.lt
    have R4 : Hid (Wx v4 w.heap.size (.int .i64 0) (.int .i64 0) (.int .i64 0) (.int .i64 0) (.slice none 0 0) (.slice none 0 0) (.slice none 0 0) (.slice none 0 0) (.slice none 0 0)) := R1.out.below hb R1.out.lt
    have B4 : Hid (Below w.heap.size w v4) := B1.out.trans (hb.mono B1.out.size)
    have L4 : Hid (Wl v4 (.agg #[.int .i64 S2.turn, .int .i64 S2.next, .int .i64 S2.wide, .int .i64 S2.high, .slice m21 8 n21, .slice m22 8 n22, .slice m23 2 n23, .slice m24 2 n24, .slice m25 0 n25]) S2) := L1.out.below hb
    clear hk hb X1 R1 B1 L1
    refine ⟨_, rfl, X4.out, ?_⟩
    go_simp
    refine headT_call rfl 46 #[ku, .agg #[.int .i64 S2.turn, .int .i64 S2.next, .int .i64 S2.wide, .int .i64 S2.high, .slice m21 8 n21, .slice m22 8 n22, .slice m23 2 n23, .slice m24 2 n24, .slice m25 0 n25], .int .i64 1, .int .i64 2, .int .i64 3] (by go_simp) (by go_simp) ?_
    refine (place_any ku _ SK S2 1 2 3 v4 K4.out sm_names L4.out).mono ?_
    rintro e v5 ⟨u, r, rfl, hr, ho, hb⟩
    rw [sm_f3] at hr
    rw [sm_3] at ho
    obtain rfl := er_zero hr
    have X5 : Hid (Wx v5 z (.int .i64 S2.turn) (.int .i64 S2.next) (.int .i64 S2.wide) (.int .i64 S2.high) (.slice m21 8 n21) (.slice m22 8 n22) (.slice m23 2 n23) (.slice m24 2 n24) (.slice m25 0 n25)) := X4.out.below hb X4.out.lt
    have R5 : Hid (Wx v5 w.heap.size (.int .i64 0) (.int .i64 0) (.int .i64 0) (.int .i64 0) (.slice none 0 0) (.slice none 0 0) (.slice none 0 0) (.slice none 0 0) (.slice none 0 0)) := R4.out.below hb R4.out.lt
    have B5 : Hid (Below w.heap.size w v5) := B4.out.trans (hb.mono B4.out.size)
    have ZL : Hid (z < v4.heap.size) := X4.out.lt
    obtain ⟨y1, y2, y3, y4, y5, rfl, o1, o2, o3, o4, o5⟩ := ho
    obtain ⟨m31, n31, rfl⟩ := o1.len
    obtain ⟨m32, n32, rfl⟩ := o2.len
    obtain ⟨m33, n33, rfl⟩ := o3.len
    obtain ⟨m34, n34, rfl⟩ := o4.len
    obtain ⟨m35, n35, rfl⟩ := o5.len
    obtain ⟨g1, g2, g3, g4, g5, g6, g7, g8, g9⟩ := s3_eqs
    simp only [g5] at o1
    simp only [g6] at o2
    simp only [g7] at o3
    simp only [g8] at o4
    simp only [g9] at o5
    simp only [g1, g2, g3, g4, g5, g6, g7, g8, g9]
    clear g1 g2 g3 g4 g5 g6 g7 g8 g9
    have NZ : Hid (Nz z (.slice m31 8 n31) ∧ Nz z (.slice m32 8 n32) ∧ Nz z (.slice m33 2 n33) ∧ Nz z (.slice m34 3 n34) ∧ Nz z (.slice m35 0 n35)) := ⟨fun b hb => by have := (o1.block b hb).1; have := ZL.out; omega, fun b hb => by have := (o2.block b hb).1; have := ZL.out; omega, fun b hb => by have := (o3.block b hb).1; have := ZL.out; omega, fun b hb => by have := (o4.block b hb).1; have := ZL.out; omega, fun b hb => by have := (o5.block b hb).1; have := ZL.out; omega⟩
    have O5 : Hid (Ow v5 (w.heap.size + 1) (.slice m31 8 n31) S3.gs ∧ Ow v5 (w.heap.size + 1) (.slice m32 8 n32) S3.os ∧ Ow v5 (w.heap.size + 1) (.slice m33 2 n33) S3.gold ∧ Uno v5 (w.heap.size + 1) (.slice m34 3 n34) S3.us ∧ Jbo v5 (w.heap.size + 1) (.slice m35 0 n35) S3.qs) := ⟨o1.mono R4.out.lt, o2.mono R4.out.lt, o3.mono R4.out.lt, o4.mono R4.out.lt, o5.mono R4.out.lt⟩
    clear hr hb o1 o2 o3 o4 o5 K4 X4 R4 B4 L4 ZL
    refine ⟨_, rfl, X5.out, ?_⟩
    go_simp
    refine headT_read rfl (.tuple #[.agg #[.int .i64 0, .int .i64 4, .int .i64 4, .int .i64 2, .slice m31 8 n31, .slice m32 8 n32, .slice m33 2 n33, .slice m34 3 n34, .slice m35 0 n35], .nilIface]) (by go_simp) (fun V hV => by go_simp) ?_
    go_simp
    unfold wpHeadT
    have KW : Hid (Kp z v5 (((((((((v5.setCell ⟨z, 0, none⟩ (.int .i64 0)).setCell ⟨z, 1, none⟩ (.int .i64 4)).setCell ⟨z, 2, none⟩ (.int .i64 4)).setCell ⟨z, 3, none⟩ (.int .i64 2)).setCell ⟨z, 4, none⟩ (.slice m31 8 n31)).setCell ⟨z, 5, none⟩ (.slice m32 8 n32)).setCell ⟨z, 6, none⟩ (.slice m33 2 n33)).setCell ⟨z, 7, none⟩ (.slice m34 3 n34)).setCell ⟨z, 8, none⟩ (.slice m35 0 n35))) := put_kp _ _ _ _ _ _ _ _ _ _ _
    have XA3 : Hid (Wx (((((((((v5.setCell ⟨z, 0, none⟩ (.int .i64 0)).setCell ⟨z, 1, none⟩ (.int .i64 4)).setCell ⟨z, 2, none⟩ (.int .i64 4)).setCell ⟨z, 3, none⟩ (.int .i64 2)).setCell ⟨z, 4, none⟩ (.slice m31 8 n31)).setCell ⟨z, 5, none⟩ (.slice m32 8 n32)).setCell ⟨z, 6, none⟩ (.slice m33 2 n33)).setCell ⟨z, 7, none⟩ (.slice m34 3 n34)).setCell ⟨z, 8, none⟩ (.slice m35 0 n35)) z (.int .i64 0) (.int .i64 4) (.int .i64 4) (.int .i64 2) (.slice m31 8 n31) (.slice m32 8 n32) (.slice m33 2 n33) (.slice m34 3 n34) (.slice m35 0 n35)) := X5.out.put (.int .i64 0) (.int .i64 4) (.int .i64 4) (.int .i64 2) (.slice m31 8 n31) (.slice m32 8 n32) (.slice m33 2 n33) (.slice m34 3 n34) (.slice m35 0 n35)
    obtain ⟨x0, x1, x2, x3, x4, x5, x6, x7, x8⟩ := X5.out.cells
    obtain ⟨t0, t1, t2, t3, t4, t5, t6, t7, t8⟩ := X5.out.thaws
    refine sched_read rfl (.agg #[.int .i64 0, .int .i64 4, .int .i64 4, .int .i64 2, .slice m31 8 n31, .slice m32 8 n32, .slice m33 2 n33, .slice m34 3 n34, .slice m35 0 n35]) (by go_simp) (fun V hV => by go_simp) ?_
    go_simp
    refine sched_read rfl .nilIface (by go_simp) (fun V hV => by go_simp) ?_
    go_simp
    refine sched_skip rfl (((((((((v5.setCell ⟨z, 0, none⟩ (.int .i64 0)).setCell ⟨z, 1, none⟩ (.int .i64 4)).setCell ⟨z, 2, none⟩ (.int .i64 4)).setCell ⟨z, 3, none⟩ (.int .i64 2)).setCell ⟨z, 4, none⟩ (.slice m31 8 n31)).setCell ⟨z, 5, none⟩ (.slice m32 8 n32)).setCell ⟨z, 6, none⟩ (.slice m33 2 n33)).setCell ⟨z, 7, none⟩ (.slice m34 3 n34)).setCell ⟨z, 8, none⟩ (.slice m35 0 n35)) (by go_simp) (by go_simp) trivial ?_
    go_simp
    clear x0 x1 x2 x3 x4 x5 x6 x7 x8 t0 t1 t2 t3 t4 t5 t6 t7 t8
    generalize (((((((((v5.setCell ⟨z, 0, none⟩ (.int .i64 0)).setCell ⟨z, 1, none⟩ (.int .i64 4)).setCell ⟨z, 2, none⟩ (.int .i64 4)).setCell ⟨z, 3, none⟩ (.int .i64 2)).setCell ⟨z, 4, none⟩ (.slice m31 8 n31)).setCell ⟨z, 5, none⟩ (.slice m32 8 n32)).setCell ⟨z, 6, none⟩ (.slice m33 2 n33)).setCell ⟨z, 7, none⟩ (.slice m34 3 n34)).setCell ⟨z, 8, none⟩ (.slice m35 0 n35)) = s3 at *
    have BA3 : Hid (Below w.heap.size w s3) := KW.out.below B5.out B5.out.size (Nat.le_of_lt HZ.out)
    have RA3 : Hid (Wx s3 w.heap.size (.int .i64 0) (.int .i64 0) (.int .i64 0) (.int .i64 0) (.slice none 0 0) (.slice none 0 0) (.slice none 0 0) (.slice none 0 0) (.slice none 0 0)) := R5.out.kp KW.out (Nat.ne_of_lt HZ.out)
    have OA3 : Hid (Ow s3 (w.heap.size + 1) (.slice m31 8 n31) S3.gs ∧ Ow s3 (w.heap.size + 1) (.slice m32 8 n32) S3.os ∧ Ow s3 (w.heap.size + 1) (.slice m33 2 n33) S3.gold ∧ Uno s3 (w.heap.size + 1) (.slice m34 3 n34) S3.us ∧ Jbo s3 (w.heap.size + 1) (.slice m35 0 n35) S3.qs) := ⟨owns_nz O5.out.1 KW.out NZ.out.1, owns_nz O5.out.2.1 KW.out NZ.out.2.1, owns_nz O5.out.2.2.1 KW.out NZ.out.2.2.1, owns_nz O5.out.2.2.2.1 KW.out NZ.out.2.2.2.1, owns_nz O5.out.2.2.2.2 KW.out NZ.out.2.2.2.2⟩
    clear X5 R5 B5 O5 NZ KW
    refine sched_value rfl .nilIface s3 (by go_simp) (by go_simp) trivial ?_
    go_simp
    unfold wpSched
    go_upto_region 6 with fail
    refine wp_region_two [(true, 0), (true, 1), (true, 2), (true, 3), (true, 4), (true, 5), (true, 6), (true, 7), (true, 8), (true, 9), (true, 10), (true, 11), (true, 12), (true, 13), (true, 14), (true, 15), (true, 16), (true, 17), (true, 18), (true, 19), (true, 20), (true, 21), (true, 22), (true, 23), (true, 24), (true, 25), (true, 26), (true, 27), (true, 28), (true, 29), (true, 30), (false, 31)] [(false, 32)] (fun V => Wx V z (.int .i64 0) (.int .i64 4) (.int .i64 4) (.int .i64 2) (.slice m31 8 n31) (.slice m32 8 n32) (.slice m33 2 n33) (.slice m34 3 n34) (.slice m35 0 n35)) (by kernel_rfl) (by kernel_rfl) (by kernel_rfl) (by decide +kernel) (by decide +kernel) XA3.out.drew ?_
    have X1 : Hid (Wx { s3 with drawn := s3.drawn + 1 } z (.int .i64 0) (.int .i64 4) (.int .i64 4) (.int .i64 2) (.slice m31 8 n31) (.slice m32 8 n32) (.slice m33 2 n33) (.slice m34 3 n34) (.slice m35 0 n35)) := XA3.out
    have R1 : Hid (Wx { s3 with drawn := s3.drawn + 1 } w.heap.size (.int .i64 0) (.int .i64 0) (.int .i64 0) (.int .i64 0) (.slice none 0 0) (.slice none 0 0) (.slice none 0 0) (.slice none 0 0) (.slice none 0 0)) := RA3.out
    have B1 : Hid (Below w.heap.size w { s3 with drawn := s3.drawn + 1 }) := BA3.out.drew
    have D1 : Hid (Below s3.heap.size s3 { s3 with drawn := s3.drawn + 1 }) := (Below.refl _ _).drew
    generalize ({ s3 with drawn := s3.drawn + 1 } : World) = v3 at *
    have O1 : Hid (Ow v3 (w.heap.size + 1) (.slice m31 8 n31) S3.gs ∧ Ow v3 (w.heap.size + 1) (.slice m32 8 n32) S3.os ∧ Ow v3 (w.heap.size + 1) (.slice m33 2 n33) S3.gold ∧ Uno v3 (w.heap.size + 1) (.slice m34 3 n34) S3.us ∧ Jbo v3 (w.heap.size + 1) (.slice m35 0 n35) S3.qs) := ⟨OA3.out.1.below D1.out, OA3.out.2.1.below D1.out, OA3.out.2.2.1.below D1.out, OA3.out.2.2.2.1.below D1.out, OA3.out.2.2.2.2.below D1.out⟩
    clear XA3 RA3 BA3 OA3 D1
    refine headT_read rfl (.agg #[.int .i64 0, .int .i64 4, .int .i64 4, .int .i64 2, .slice m31 8 n31, .slice m32 8 n32, .slice m33 2 n33, .slice m34 3 n34, .slice m35 0 n35]) (by go_simp) (fun V hV => by obtain ⟨x0, x1, x2, x3, x4, x5, x6, x7, x8⟩ := hV.cells; go_simp) ?_
    go_simp
    refine headT_read rfl (.nilIface) (by go_simp) (fun V hV => by go_simp) ?_
    go_simp
    refine headT_read rfl (.bool true) (by go_simp) (fun V hV => by go_simp) ?_
    go_simp
    refine headT_read rfl (.bool true) (by go_simp) (fun V hV => by go_simp) ?_
    go_simp
    refine headT_read rfl (.nilIface) (by go_simp) (fun V hV => by go_simp) ?_
    go_simp
    refine headT_read rfl (.bool true) (by go_simp) (fun V hV => by go_simp) ?_
    go_simp
    refine headT_read rfl (.bool true) (by go_simp) (fun V hV => by go_simp) ?_
    go_simp
    refine headT_read rfl (.bool true) (by go_simp) (fun V hV => by go_simp) ?_
    go_simp
    refine headT_read rfl (.nilIface) (by go_simp) (fun V hV => by go_simp) ?_
    go_simp
    refine headT_read rfl (.bool true) (by go_simp) (fun V hV => by go_simp) ?_
    go_simp
    refine headT_read rfl (.bool true) (by go_simp) (fun V hV => by go_simp) ?_
    go_simp
    refine headT_read rfl (.bool true) (by go_simp) (fun V hV => by go_simp) ?_
    go_simp
    refine headT_read rfl (.nilIface) (by go_simp) (fun V hV => by go_simp) ?_
    go_simp
    refine headT_read rfl (.bool true) (by go_simp) (fun V hV => by go_simp) ?_
    go_simp
    refine headT_read rfl (.bool true) (by go_simp) (fun V hV => by go_simp) ?_
    go_simp
    refine headT_read rfl (.bool true) (by go_simp) (fun V hV => by go_simp) ?_
    go_simp
    refine headT_read rfl (.nilIface) (by go_simp) (fun V hV => by go_simp) ?_
    go_simp
    refine headT_read rfl (.bool true) (by go_simp) (fun V hV => by go_simp) ?_
    go_simp
    refine headT_read rfl (.bool true) (by go_simp) (fun V hV => by go_simp) ?_
    go_simp
    refine headT_read rfl (.bool true) (by go_simp) (fun V hV => by go_simp) ?_
    go_simp
    refine headT_read rfl (.pointer (some ⟨z, 7, none⟩)) (by go_simp) (fun V hV => by go_simp) ?_
    go_simp
    refine headT_read rfl (.slice m34 3 n34) (by go_simp) (fun V hV => by obtain ⟨x0, x1, x2, x3, x4, x5, x6, x7, x8⟩ := hV.cells; go_simp) ?_
    go_simp
    refine headT_read rfl (.int .i64 3) (by go_simp) (fun V hV => by go_simp) ?_
    go_simp
    refine headT_read rfl (.bool true) (by go_simp) (fun V hV => by go_simp) ?_
    go_simp
    refine headT_read rfl (.bool true) (by go_simp) (fun V hV => by go_simp) ?_
    go_simp
    refine headT_read rfl (.bool true) (by go_simp) (fun V hV => by go_simp) ?_
    go_simp
    refine headT_read rfl (.pointer (some ⟨z, 6, none⟩)) (by go_simp) (fun V hV => by go_simp) ?_
    go_simp
    refine headT_read rfl (.slice m33 2 n33) (by go_simp) (fun V hV => by obtain ⟨x0, x1, x2, x3, x4, x5, x6, x7, x8⟩ := hV.cells; go_simp) ?_
    go_simp
    refine headT_read rfl (.int .i64 2) (by go_simp) (fun V hV => by go_simp) ?_
    go_simp
    refine headT_read rfl (.bool true) (by go_simp) (fun V hV => by go_simp) ?_
    go_simp
    refine headT_read rfl (.bool true) (by go_simp) (fun V hV => by go_simp) ?_
    go_simp
    have KW : Hid (Kp w.heap.size v3 (((((((((v3.setCell ⟨w.heap.size, 0, none⟩ (.int .i64 0)).setCell ⟨w.heap.size, 1, none⟩ (.int .i64 4)).setCell ⟨w.heap.size, 2, none⟩ (.int .i64 4)).setCell ⟨w.heap.size, 3, none⟩ (.int .i64 2)).setCell ⟨w.heap.size, 4, none⟩ (.slice m31 8 n31)).setCell ⟨w.heap.size, 5, none⟩ (.slice m32 8 n32)).setCell ⟨w.heap.size, 6, none⟩ (.slice m33 2 n33)).setCell ⟨w.heap.size, 7, none⟩ (.slice m34 3 n34)).setCell ⟨w.heap.size, 8, none⟩ (.slice m35 0 n35))) := put_kp _ _ _ _ _ _ _ _ _ _ _
    have XF : Hid (Wx (((((((((v3.setCell ⟨w.heap.size, 0, none⟩ (.int .i64 0)).setCell ⟨w.heap.size, 1, none⟩ (.int .i64 4)).setCell ⟨w.heap.size, 2, none⟩ (.int .i64 4)).setCell ⟨w.heap.size, 3, none⟩ (.int .i64 2)).setCell ⟨w.heap.size, 4, none⟩ (.slice m31 8 n31)).setCell ⟨w.heap.size, 5, none⟩ (.slice m32 8 n32)).setCell ⟨w.heap.size, 6, none⟩ (.slice m33 2 n33)).setCell ⟨w.heap.size, 7, none⟩ (.slice m34 3 n34)).setCell ⟨w.heap.size, 8, none⟩ (.slice m35 0 n35)) w.heap.size (.int .i64 0) (.int .i64 4) (.int .i64 4) (.int .i64 2) (.slice m31 8 n31) (.slice m32 8 n32) (.slice m33 2 n33) (.slice m34 3 n34) (.slice m35 0 n35)) := R1.out.put (.int .i64 0) (.int .i64 4) (.int .i64 4) (.int .i64 2) (.slice m31 8 n31) (.slice m32 8 n32) (.slice m33 2 n33) (.slice m34 3 n34) (.slice m35 0 n35)
    obtain ⟨x0, x1, x2, x3, x4, x5, x6, x7, x8⟩ := R1.out.cells
    obtain ⟨t0, t1, t2, t3, t4, t5, t6, t7, t8⟩ := R1.out.thaws
    refine headT_skip rfl (((((((((v3.setCell ⟨w.heap.size, 0, none⟩ (.int .i64 0)).setCell ⟨w.heap.size, 1, none⟩ (.int .i64 4)).setCell ⟨w.heap.size, 2, none⟩ (.int .i64 4)).setCell ⟨w.heap.size, 3, none⟩ (.int .i64 2)).setCell ⟨w.heap.size, 4, none⟩ (.slice m31 8 n31)).setCell ⟨w.heap.size, 5, none⟩ (.slice m32 8 n32)).setCell ⟨w.heap.size, 6, none⟩ (.slice m33 2 n33)).setCell ⟨w.heap.size, 7, none⟩ (.slice m34 3 n34)).setCell ⟨w.heap.size, 8, none⟩ (.slice m35 0 n35)) (by go_simp) (by go_simp) (X1.out.kp KW.out (Nat.ne_of_gt HZ.out)) ?_
    go_simp
    clear x0 x1 x2 x3 x4 x5 x6 x7 x8 t0 t1 t2 t3 t4 t5 t6 t7 t8
    generalize (((((((((v3.setCell ⟨w.heap.size, 0, none⟩ (.int .i64 0)).setCell ⟨w.heap.size, 1, none⟩ (.int .i64 4)).setCell ⟨w.heap.size, 2, none⟩ (.int .i64 4)).setCell ⟨w.heap.size, 3, none⟩ (.int .i64 2)).setCell ⟨w.heap.size, 4, none⟩ (.slice m31 8 n31)).setCell ⟨w.heap.size, 5, none⟩ (.slice m32 8 n32)).setCell ⟨w.heap.size, 6, none⟩ (.slice m33 2 n33)).setCell ⟨w.heap.size, 7, none⟩ (.slice m34 3 n34)).setCell ⟨w.heap.size, 8, none⟩ (.slice m35 0 n35)) = v4 at *
    unfold wpHeadT
    refine sched_value rfl (.bool true) v4 (by go_simp) (by go_simp) trivial ?_
    go_simp
    unfold wpSched
    obtain ⟨y0, y1, y2, y3, y4, y5, y6, y7, y8⟩ := XF.out.cells
    go_wp2
    refine bodyPost_ret (v := .tuple #[.agg #[.int .i64 0, .int .i64 4, .int .i64 4, .int .i64 2, .slice m31 8 n31, .slice m32 8 n32, .slice m33 2 n33, .slice m34 3 n34, .slice m35 0 n35], .bool true]) (by simp [results, Tryz.results9, go_sem, y0, y1, y2, y3, y4, y5, y6, y7, y8]) rfl ⟨_, rfl, ⟨_, _, _, _, _, rfl, Ow.mono (owns_kp O1.out.1 KW.out (by omega)) (by omega), Ow.mono (owns_kp O1.out.2.1 KW.out (by omega)) (by omega), Ow.mono (owns_kp O1.out.2.2.1 KW.out (by omega)) (by omega), Uno.mono (owns_kp O1.out.2.2.2.1 KW.out (by omega)) (by omega), Jbo.mono (owns_kp O1.out.2.2.2.2 KW.out (by omega)) (by omega)⟩, KW.out.below B1.out B1.out.size (Nat.le_refl _)⟩
end Go.Proofs.YtkejdkajfnaieaaGreatDoor

namespace Go.Proofs.YtkejdkajfnaieaaGreatDoor
open Go.RowKit
set_option linter.unusedVariables false

set_option maxRecDepth 100000 in
set_option maxHeartbeats 2000000 in
theorem rfind_any (v : Value) (W : WV) (id : Int) (w : World) (h : Wl w v W) :
    Calls Tryz.prog 34 #[v, .int .i64 id] w fun e w' => ∃ r : Int, e = .returned (.int .i64 r) ∧ FstU (fun u => u.id == id) W.us r ∧ Below w.heap.size w w' := by
  obtain ⟨u1, u2, u3, u4, u5, rfl, -, -, -, ⟨a, c, rfl, c1, c2, ca⟩, -⟩ := h
  have Ca : Hid (W.us ≠ [] → ∃ x, a = some x ∧ x.block < w.heap.size ∧ ∀ (i : Nat) k, W.us[i]? = some k → Unc w (x.add (i * 8)) k) := ca
  clear ca
  go_enter Tryz.func34, Tryz.ntmps34
  go_wp2
  have B0 : Hid (Below w.heap.size w (w.alloc (Obj.cells #[.int .i64 W.turn, .int .i64 W.next, .int .i64 W.wide, .int .i64 W.high, u1, u2, u3, .slice a W.us.length c, u5] 29))) := (Below.refl _ _).alloc (Nat.le_refl _) _
  have X0 : Hid (Bw (w.alloc (Obj.cells #[.int .i64 W.turn, .int .i64 W.next, .int .i64 W.wide, .int .i64 W.high, u1, u2, u3, .slice a W.us.length c, u5] 29)) w.heap.size W u1 u2 u3 (.slice a W.us.length c) u5) := Bw.mk' W _ _ _ _ _ rfl
  generalize w.alloc (Obj.cells #[.int .i64 W.turn, .int .i64 W.next, .int .i64 W.wide, .int .i64 W.high, u1, u2, u3, .slice a W.us.length c, u5] 29) = w0 at *
  go_loopw [5] (fun iv V => ∃ k : Nat, k ≤ W.us.length ∧ iv = .int .i64 (k : Nat) ∧ (W.us.take k).any (fun u => u.id == id) = false ∧ V = w0) (fun iv _ => W.us.length - (intOf iv).toNat)
  case atStart => exact ⟨0, Nat.zero_le _, rfl, rfl, rfl⟩
  case round =>
    obtain ⟨k, hk, rfl, hn, rfl⟩ := hrel
    have HN : Hid ((W.us.take k).any (fun u => u.id == id) = false) := hn
    have c7 := X0.out.c7
    clear hn
    by_cases hkl : k = W.us.length
    · have F : Hid (FstU (fun u => u.id == id) W.us (-1)) := .inl ⟨rfl, by have := HN.out; rwa [hkl, List.take_length] at this⟩
      subst hkl
      clear hk
      go_wp2
      go_ret
      exact ⟨-1, rfl, F.out, B0.out⟩
    · have hlt : k < W.us.length := by omega
      have hli : (k : Int) < (W.us.length : Int) := by omega
      obtain ⟨u, hu⟩ : ∃ u, W.us[k]? = some u := ⟨_, List.getElem?_eq_getElem hlt⟩
      obtain ⟨x, rfl, hx, hcell⟩ := Ca.out (by intro e; rw [e] at hlt; simp at hlt)
      obtain ⟨d0, -, -, -, -, -, -, -⟩ := (hcell k u hu).below B0.out (by rw [add_block]; exact hx)
      have HU : Hid (W.us[k]? = some u) := hu
      clear hcell hx hu hkl
      by_cases hid : u.id = id
      · have F : Hid (FstU (fun u => u.id == id) W.us (k : Nat)) := .inr ⟨k, u, rfl, HU.out, by simp [hid], HN.out⟩
        go_wp2
        go_ret
        exact ⟨_, rfl, F.out, B0.out⟩
      · have hidb : (u.id == id) = false := by simpa using hid
        have N2 : Hid ((W.us.take (k + 1)).any (fun u => u.id == id) = false) := by unfold Hid; rw [anyu_next HU.out, HN.out, hidb]; rfl
        clear hid
        go_wp2
        go_roundw
        case rel => exact ⟨k + 1, by omega, rfl, N2.out, trivial⟩
        case measure => simp [intOf]; omega
end Go.Proofs.YtkejdkajfnaieaaGreatDoor

