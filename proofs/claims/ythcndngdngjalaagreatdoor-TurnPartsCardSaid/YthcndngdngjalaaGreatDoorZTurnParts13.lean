/- A fact's small world. · A region that draws its order, walked along a tree of the orders that may come: reads first, then what makes memory in each order. · Turns in parts: what the calls of TurnParts bring; a world in a box. · Lists of integers: what marchsame.Ints answers. · What marchsame.Field answers of two fields that are the same. · What marchsame.World answers of two worlds that are the same. · How great what came in is; a byte. · What a walk is told of worlds and bytes that came in. · What a walk is told of kinds that came in. -/
import Derived.Test.YthcndngdngjalaaGreatDoorZTurnParts12
import Derived.Test.YthcndngdngjalaaGreatDoorZTurnParts7
import Derived.Deep.DeepCutAuto
import Derived.Test.YthcndngdngjalaaGreatDoorZTurnParts5
import Derived.Test.YthcndngdngjalaaGreatDoorZTurnParts1
import Derived.Test.YthcndngdngjalaaGreatDoorZTurnParts2
import Derived.Deep.SlicePairs
import Derived.ChangeArms
import Derived.ProofKit
import Derived.OpenShut
namespace Go.Proofs.YthcndngdngjalaaGreatDoor
open Go.RowKit
set_option linter.unusedVariables false

theorem kl_mk {w : World} {z : Nat} (hz : w.heap.size = z) : Kl (w.alloc (.cells #[.string ⟨#[98, 97, 115, 101]⟩, .int .i64 50, .int .i64 0, .int .i64 0, .int .i64 4, .int .i64 0, .int .i64 50, .int .i64 5, .int .i64 0, .bool false, .bool true, .string ⟨#[100, 105, 103, 103, 101, 114]⟩, .int .i64 10, .int .i64 0, .int .i64 0, .int .i64 3, .int .i64 2, .int .i64 10, .int .i64 2, .int .i64 20, .bool false, .bool false, .string ⟨#[102, 105, 103, 104, 116, 101, 114]⟩, .int .i64 20, .int .i64 4, .int .i64 1, .int .i64 4, .int .i64 2, .int .i64 20, .int .i64 3, .int .i64 0, .bool false, .bool false] 65)) (.slice (some ⟨z, 0, none⟩) 3 3) SK := by
  subst hz
  refine ⟨_, 3, rfl, Nat.le_refl _, by omega, fun _ => ⟨_, rfl, by simp, fun i k hi => ?_⟩⟩
  have hl : i < 3 := (List.getElem?_eq_some_iff.1 hi).1
  rw [Addr.add_lit, Nat.zero_add]
  match i, hl, hi with
  | 0, _, hi => injection hi with hi; subst hi; constructor <;> simp
  | 1, _, hi => injection hi with hi; subst hi; constructor <;> simp
  | 2, _, hi => injection hi with hi; subst hi; constructor <;> simp
set_option maxRecDepth 100000 in
set_option maxHeartbeats 2000000 in
theorem sorts_any (w : World) : Calls Tryz.prog 26 #[] w fun e w' => ∃ u, e = .returned u ∧ Kl w' u SK ∧ Below w.heap.size w w' := by
  have KL : Hid (Kl (w.alloc (.cells #[.string ⟨#[98, 97, 115, 101]⟩, .int .i64 50, .int .i64 0, .int .i64 0, .int .i64 4, .int .i64 0, .int .i64 50, .int .i64 5, .int .i64 0, .bool false, .bool true, .string ⟨#[100, 105, 103, 103, 101, 114]⟩, .int .i64 10, .int .i64 0, .int .i64 0, .int .i64 3, .int .i64 2, .int .i64 10, .int .i64 2, .int .i64 20, .bool false, .bool false, .string ⟨#[102, 105, 103, 104, 116, 101, 114]⟩, .int .i64 20, .int .i64 4, .int .i64 1, .int .i64 4, .int .i64 2, .int .i64 20, .int .i64 3, .int .i64 0, .bool false, .bool false] 65)) (.slice (some ⟨w.heap.size, 0, none⟩) 3 3) SK ∧ Below w.heap.size w (w.alloc (.cells #[.string ⟨#[98, 97, 115, 101]⟩, .int .i64 50, .int .i64 0, .int .i64 0, .int .i64 4, .int .i64 0, .int .i64 50, .int .i64 5, .int .i64 0, .bool false, .bool true, .string ⟨#[100, 105, 103, 103, 101, 114]⟩, .int .i64 10, .int .i64 0, .int .i64 0, .int .i64 3, .int .i64 2, .int .i64 10, .int .i64 2, .int .i64 20, .bool false, .bool false, .string ⟨#[102, 105, 103, 104, 116, 101, 114]⟩, .int .i64 20, .int .i64 4, .int .i64 1, .int .i64 4, .int .i64 2, .int .i64 20, .int .i64 3, .int .i64 0, .bool false, .bool false] 65))) := ⟨kl_mk rfl, (Below.refl _ _).alloc (Nat.le_refl _) _⟩
  go_enter Tryz.func26, Tryz.ntmps26
  go_wp2
  go_ret
  exact ⟨_, rfl, KL.out.1, KL.out.2⟩
/-- u does not lie in block z. -/
def Nz (z : Nat) (u : Value) : Prop := ∀ b, u.ownBlock = some b → b ≠ z
/-- how far the small world is: it lies in a block of its own, which v points to. -/
def SmI (w : World) (Y : WV) (v : Value) (V : World) : Prop := ∃ z u1 u2 u3 u4 u5, v = .pointer (some ⟨z, 0, none⟩) ∧ w.heap.size < z ∧ Below w.heap.size w V ∧ Wx V w.heap.size (.int .i64 0) (.int .i64 0) (.int .i64 0) (.int .i64 0) (.slice none 0 0) (.slice none 0 0) (.slice none 0 0) (.slice none 0 0) (.slice none 0 0) ∧ Wx V z (.int .i64 Y.turn) (.int .i64 Y.next) (.int .i64 Y.wide) (.int .i64 Y.high) u1 u2 u3 u4 u5 ∧ (Ow V (w.heap.size + 1) u1 Y.gs ∧ Ow V (w.heap.size + 1) u2 Y.os ∧ Ow V (w.heap.size + 1) u3 Y.gold ∧ Uno V (w.heap.size + 1) u4 Y.us ∧ Jbo V (w.heap.size + 1) u5 Y.qs) ∧ Nz z u1 ∧ Nz z u2 ∧ Nz z u3 ∧ Nz z u4 ∧ Nz z u5
theorem s0_eqs : S0.turn = 0 ∧ S0.next = 1 ∧ S0.wide = 4 ∧ S0.high = 2 ∧ S0.gs.length = 8 ∧ S0.os.length = 8 ∧ S0.gold.length = 2 ∧ S0.us.length = 0 ∧ S0.qs.length = 0 := ⟨rfl, rfl, rfl, rfl, rfl, rfl, rfl, rfl, rfl⟩
theorem s1_eqs : S1.turn = 0 ∧ S1.next = 2 ∧ S1.wide = 4 ∧ S1.high = 2 ∧ S1.gs.length = 8 ∧ S1.os.length = 8 ∧ S1.gold.length = 2 ∧ S1.us.length = 1 ∧ S1.qs.length = 0 := ⟨rfl, rfl, rfl, rfl, rfl, rfl, rfl, rfl, rfl⟩
theorem s2_eqs : S2.turn = 0 ∧ S2.next = 3 ∧ S2.wide = 4 ∧ S2.high = 2 ∧ S2.gs.length = 8 ∧ S2.os.length = 8 ∧ S2.gold.length = 2 ∧ S2.us.length = 2 ∧ S2.qs.length = 0 := ⟨rfl, rfl, rfl, rfl, rfl, rfl, rfl, rfl, rfl⟩
theorem s3_eqs : S3.turn = 0 ∧ S3.next = 4 ∧ S3.wide = 4 ∧ S3.high = 2 ∧ S3.gs.length = 8 ∧ S3.os.length = 8 ∧ S3.gold.length = 2 ∧ S3.us.length = 3 ∧ S3.qs.length = 0 := ⟨rfl, rfl, rfl, rfl, rfl, rfl, rfl, rfl, rfl⟩
theorem er_zero {r : Value} (h : Er r 0) : r = .nilIface := by
  rcases h with ⟨-, h⟩ | ⟨h, -⟩
  · exact h
  · exact absurd rfl h
theorem bx_kp {w w' : World} {y z : Nat} {a b : Int} {u1 u2 : Value} (h : Bx w y a b u1 u2) (k : Kp z w w') (hn : y ≠ z) : Bx w' y a b u1 u2 := by
  have hc : ∀ i, w'.cell? ⟨y, i, none⟩ = w.cell? ⟨y, i, none⟩ := fun i => by
    have := k.block y h.lt hn
    simp only [World.cell?, this]
  exact ⟨by rw [hc]; exact h.c0, by rw [hc]; exact h.c1, by rw [hc]; exact h.c2, by rw [hc]; exact h.c3⟩
theorem owns_nz {z : Nat} {w w' : World} {base : Nat} {T : TypeId} {size : Nat} {u : Value} {n : Nat} {cs : List Value} (h : w.ownsRow base T size u n cs) (k : Kp z w w') (hz : Nz z u) : w'.ownsRow base T size u n cs := by
  refine ⟨h.1, ?_⟩
  rcases h.2 with h1 | ⟨g, cap, cur, h1, h2, h3, h4⟩
  · exact .inl h1
  · exact .inr ⟨g, cap, cur, h1, h2, (k.block g (lt_of_block h3) (hz g (by rw [h1]; rfl))).trans h3, h4⟩
theorem smi_put {w V : World} {z : Nat} {Y : WV} {u1 u2 u3 u4 u5 d0 d1 d2 d3 d4 d5 d6 d7 d8 : Value} (hz : w.heap.size < z) (B : Below w.heap.size w V) (R : Wx V w.heap.size (.int .i64 0) (.int .i64 0) (.int .i64 0) (.int .i64 0) (.slice none 0 0) (.slice none 0 0) (.slice none 0 0) (.slice none 0 0) (.slice none 0 0)) (Z : Wx V z d0 d1 d2 d3 d4 d5 d6 d7 d8)
    (O : Ow V (w.heap.size + 1) u1 Y.gs ∧ Ow V (w.heap.size + 1) u2 Y.os ∧ Ow V (w.heap.size + 1) u3 Y.gold ∧ Uno V (w.heap.size + 1) u4 Y.us ∧ Jbo V (w.heap.size + 1) u5 Y.qs) (N : Nz z u1 ∧ Nz z u2 ∧ Nz z u3 ∧ Nz z u4 ∧ Nz z u5) :
    SmI w Y (.pointer (some ⟨z, 0, none⟩)) (((((((((V.setCell ⟨z, 0, none⟩ (.int .i64 Y.turn)).setCell ⟨z, 1, none⟩ (.int .i64 Y.next)).setCell ⟨z, 2, none⟩ (.int .i64 Y.wide)).setCell ⟨z, 3, none⟩ (.int .i64 Y.high)).setCell ⟨z, 4, none⟩ u1).setCell ⟨z, 5, none⟩ u2).setCell ⟨z, 6, none⟩ u3).setCell ⟨z, 7, none⟩ u4).setCell ⟨z, 8, none⟩ u5) := by
  have K := put_kp V z (.int .i64 Y.turn) (.int .i64 Y.next) (.int .i64 Y.wide) (.int .i64 Y.high) u1 u2 u3 u4 u5
  exact ⟨z, u1, u2, u3, u4, u5, rfl, hz, K.below B B.size (Nat.le_of_lt hz), R.kp K (by omega), Z.put _ _ _ _ _ _ _ _ _, ⟨owns_nz O.1 K N.1, owns_nz O.2.1 K N.2.1, owns_nz O.2.2.1 K N.2.2.1, owns_nz O.2.2.2.1 K N.2.2.2.1, owns_nz O.2.2.2.2 K N.2.2.2.2⟩, N⟩
theorem sl_wo {w : World} {base : Nat} {u : Value} {Y : WV} (h : Wo w base u Y) : ∃ p1 q1 p2 q2 p3 q3 p4 q4 p5 q5, u = .agg #[.int .i64 Y.turn, .int .i64 Y.next, .int .i64 Y.wide, .int .i64 Y.high, .slice p1 Y.gs.length q1, .slice p2 Y.os.length q2, .slice p3 Y.gold.length q3, .slice p4 Y.us.length q4, .slice p5 Y.qs.length q5] := by
  obtain ⟨u1, u2, u3, u4, u5, rfl, h1, h2, h3, h4, h5⟩ := h
  obtain ⟨p1, q1, rfl⟩ := h1.len
  obtain ⟨p2, q2, rfl⟩ := h2.len
  obtain ⟨p3, q3, rfl⟩ := h3.len
  obtain ⟨p4, q4, rfl⟩ := h4.len
  obtain ⟨p5, q5, rfl⟩ := h5.len
  exact ⟨_, _, _, _, _, _, _, _, _, _, rfl⟩
set_option maxRecDepth 100000 in
set_option maxHeartbeats 8000000 in
theorem small_any (w : World) : Calls Tryz.prog 24 #[] w fun e w' => ∃ u, e = .returned (.tuple #[u, .bool true]) ∧ Wo w' w.heap.size u S3 ∧ Below w.heap.size w w' := by
  go_enter Tryz.func24, Tryz.ntmps24
  go_upto_region 1 with fail
  have B0 : Hid (Below w.heap.size w (w.alloc (.cells #[.int .i64 0, .int .i64 0, .int .i64 0, .int .i64 0, .slice none 0 0, .slice none 0 0, .slice none 0 0, .slice none 0 0, .slice none 0 0] 29))) := (Below.refl _ _).alloc (Nat.le_refl _) _
  have R0 : Hid (Wx (w.alloc (.cells #[.int .i64 0, .int .i64 0, .int .i64 0, .int .i64 0, .slice none 0 0, .slice none 0 0, .slice none 0 0, .slice none 0 0, .slice none 0 0] 29)) w.heap.size (.int .i64 0) (.int .i64 0) (.int .i64 0) (.int .i64 0) (.slice none 0 0) (.slice none 0 0) (.slice none 0 0) (.slice none 0 0) (.slice none 0 0)) := Wx.new _ _ _ _ _ _ _ _ _ rfl
  generalize (w.alloc (.cells #[.int .i64 0, .int .i64 0, .int .i64 0, .int .i64 0, .slice none 0 0, .slice none 0 0, .slice none 0 0, .slice none 0 0, .slice none 0 0] 29)) = w0 at *
  go_wp2_with fail
  refine (parse_any ⟨#[46, 46, 46, 46, 10, 46, 46, 51, 46, 10]⟩ w0 (by decide)).mono ?_
  rintro e w1 ⟨hs, hb⟩
  have hp : Fd.parse (⟨#[46, 46, 46, 46, 10, 46, 46, 51, 46, 10]⟩ : ByteArray).data.toList = .inr ⟨0, 4, 2, SG, SO⟩ := sm_parse
  rcases hs with ⟨i, f, h1, -⟩ | ⟨st, u1, u2, h1, h2, r1, r2⟩
  · rw [hp] at h1; cases h1
  rw [hp] at h1
  injection h1 with h1
  subst h1
  subst h2
  have RO : Hid (Ro w1 u1 SG ∧ Ro w1 u2 SO) := ⟨r1, r2⟩
  obtain ⟨p1, q1, rfl, -⟩ := r1
  obtain ⟨p2, q2, rfl, -⟩ := r2
  have B1 : Hid (Below w.heap.size w w1) := B0.out.trans (hb.mono B0.out.size)
  have R1 : Hid (Wx w1 w.heap.size (.int .i64 0) (.int .i64 0) (.int .i64 0) (.int .i64 0) (.slice none 0 0) (.slice none 0 0) (.slice none 0 0) (.slice none 0 0) (.slice none 0 0)) := R0.out.below hb R0.out.lt
  clear hb hp B0 R0
  have l8 : SG.length = 8 := rfl
  have l8' : SO.length = 8 := rfl
  rw [l8, l8'] at *
  clear l8 l8'
  go_upto_region 2 with fail
  have BA : Hid (Below w1.heap.size w1 (w1.alloc (.cells #[.int .i64 4, .int .i64 2, .slice p1 8 q1, .slice p2 8 q2] 25))) := (Below.refl _ _).alloc (Nat.le_refl _) _
  have X2 : Hid (Bx (w1.alloc (.cells #[.int .i64 4, .int .i64 2, .slice p1 8 q1, .slice p2 8 q2] 25)) w1.heap.size 4 2 (.slice p1 8 q1) (.slice p2 8 q2)) := Bx.mk' _ _ _ _ rfl
  have FL : Hid (Fl (w1.alloc (.cells #[.int .i64 4, .int .i64 2, .slice p1 8 q1, .slice p2 8 q2] 25)) (.agg #[.int .i64 4, .int .i64 2, .slice p1 8 q1, .slice p2 8 q2]) 4 2 SG SO) := ⟨_, _, rfl, RO.out.1.below BA.out, RO.out.2.below BA.out⟩
  have R2 : Hid (Wx (w1.alloc (.cells #[.int .i64 4, .int .i64 2, .slice p1 8 q1, .slice p2 8 q2] 25)) w.heap.size (.int .i64 0) (.int .i64 0) (.int .i64 0) (.int .i64 0) (.slice none 0 0) (.slice none 0 0) (.slice none 0 0) (.slice none 0 0) (.slice none 0 0)) := R1.out.below BA.out R1.out.lt
  have B2 : Hid (Below w.heap.size w (w1.alloc (.cells #[.int .i64 4, .int .i64 2, .slice p1 8 q1, .slice p2 8 q2] 25))) := B1.out.trans (BA.out.mono B1.out.size)
  generalize (w1.alloc (.cells #[.int .i64 4, .int .i64 2, .slice p1 8 q1, .slice p2 8 q2] 25)) = w2 at *
  clear BA B1 R1 RO
  have N2 : Hid (w.heap.size < w2.heap.size) := by have := R2.out.lt; exact this
  go_cut [5, 6] (fun v5 v6 V => v6 = .nilIface ∧ SmI w S0 v5 V)
  case first =>
    refine wp_region_float 6 [(true, 1), (false, 0), (false, 2), (true, 3), (true, 4), (true, 5)] [(false, 7)] [(false, 8)] (fun V => Bx V w1.heap.size 4 2 (.slice p1 8 q1) (.slice p2 8 q2)) (by kernel_rfl) (by kernel_rfl) (by kernel_rfl) (by decide +kernel) (by decide +kernel) (X2.out.below (Below.refl _ _).drew X2.out.lt) ?_
    have X3 : Hid (Bx { w2 with drawn := w2.drawn + 1 } w1.heap.size 4 2 (.slice p1 8 q1) (.slice p2 8 q2)) := X2.out.below (Below.refl _ _).drew X2.out.lt
    have F3 : Hid (Fl { w2 with drawn := w2.drawn + 1 } (.agg #[.int .i64 4, .int .i64 2, .slice p1 8 q1, .slice p2 8 q2]) 4 2 SG SO) := FL.out.below (Below.refl _ _).drew
    have R3 : Hid (Wx { w2 with drawn := w2.drawn + 1 } w.heap.size (.int .i64 0) (.int .i64 0) (.int .i64 0) (.int .i64 0) (.slice none 0 0) (.slice none 0 0) (.slice none 0 0) (.slice none 0 0) (.slice none 0 0)) := R2.out
    have B3 : Hid (Below w.heap.size w { w2 with drawn := w2.drawn + 1 }) := B2.out.drew
    generalize ({ w2 with drawn := w2.drawn + 1 } : World) = w3 at *
    clear X2 FL R2 B2
    refine headA_read rfl (.agg #[.int .i64 4, .int .i64 2, .slice p1 8 q1, .slice p2 8 q2]) (by go_simp) (fun V hV => by obtain ⟨f0, f1, f2, f3⟩ := hV; go_simp) ?_
    go_simp
    refine headA_call rfl 26 #[] (by go_simp) (by go_simp) ?_ rfl (.pointer (some ⟨w3.heap.size, 0, none⟩)) (w3.alloc (.cells #[.int .i64 0, .int .i64 0, .int .i64 0, .int .i64 0, .slice none 0 0, .slice none 0 0, .slice none 0 0, .slice none 0 0, .slice none 0 0] 29)) (by go_simp) (by go_simp) (X3.out.below ((Below.refl _ _).alloc (Nat.le_refl _) _) X3.out.lt) ?_
    · refine (sorts_any w3).mono ?_
      rintro e w4 ⟨ku, rfl, hk, hb⟩
      have K4 : Hid (Kl w4 ku SK) := hk
      have X4 : Hid (Bx w4 w1.heap.size 4 2 (.slice p1 8 q1) (.slice p2 8 q2)) := X3.out.below hb X3.out.lt
      have F4 : Hid (Fl w4 (.agg #[.int .i64 4, .int .i64 2, .slice p1 8 q1, .slice p2 8 q2]) 4 2 SG SO) := F3.out.below hb
      have R4 : Hid (Wx w4 w.heap.size (.int .i64 0) (.int .i64 0) (.int .i64 0) (.int .i64 0) (.slice none 0 0) (.slice none 0 0) (.slice none 0 0) (.slice none 0 0) (.slice none 0 0)) := R3.out.below hb R3.out.lt
      have B4 : Hid (Below w.heap.size w w4) := B3.out.trans (hb.mono B3.out.size)
      clear hk hb X3 F3 R3 B3
      refine ⟨_, rfl, X4.out, ?_⟩
      go_simp
      refine headA_call rfl 54 #[ku, .agg #[.int .i64 4, .int .i64 2, .slice p1 8 q1, .slice p2 8 q2], .int .i64 2, .int .i64 100] (by go_simp) (by go_simp) ?_ rfl (.pointer (some ⟨w4.heap.size, 0, none⟩)) (w4.alloc (.cells #[.int .i64 0, .int .i64 0, .int .i64 0, .int .i64 0, .slice none 0 0, .slice none 0 0, .slice none 0 0, .slice none 0 0, .slice none 0 0] 29)) (by go_simp) (by go_simp) (X4.out.below ((Below.refl _ _).alloc (Nat.le_refl _) _) X4.out.lt) ?_
      · refine (new_any ku _ SK 4 2 SG SO 2 100 w4 K4.out sm_names F4.out).mono ?_
        rintro e w5 ⟨u, r, rfl, hr, ho, hb⟩
        rw [sm_f0] at hr
        rw [sm_0] at ho
        obtain rfl := er_zero hr
        have X5 : Hid (Bx w5 w1.heap.size 4 2 (.slice p1 8 q1) (.slice p2 8 q2)) := X4.out.below hb X4.out.lt
        have R5 : Hid (Wx w5 w.heap.size (.int .i64 0) (.int .i64 0) (.int .i64 0) (.int .i64 0) (.slice none 0 0) (.slice none 0 0) (.slice none 0 0) (.slice none 0 0) (.slice none 0 0)) := R4.out.below hb R4.out.lt
        have B5 : Hid (Below w.heap.size w w5) := B4.out.trans (hb.mono B4.out.size)
        obtain ⟨v1, v2, v3, v4, v5, rfl, o1, o2, o3, o4, o5⟩ := ho
        obtain ⟨a1, b1, rfl⟩ := o1.len
        obtain ⟨a2, b2, rfl⟩ := o2.len
        obtain ⟨a3, b3, rfl⟩ := o3.len
        obtain ⟨a4, b4, rfl⟩ := o4.len
        obtain ⟨a5, b5, rfl⟩ := o5.len
        obtain ⟨g1, g2, g3, g4, g5, g6, g7, g8, g9⟩ := s0_eqs
        simp only [g5] at o1
        simp only [g6] at o2
        simp only [g7] at o3
        simp only [g8] at o4
        simp only [g9] at o5
        simp only [g1, g2, g3, g4, g5, g6, g7, g8, g9]
        clear g1 g2 g3 g4 g5 g6 g7 g8 g9
        have O5 : Hid (Ow w5 (w.heap.size + 1) (.slice a1 8 b1) S0.gs ∧ Ow w5 (w.heap.size + 1) (.slice a2 8 b2) S0.os ∧ Ow w5 (w.heap.size + 1) (.slice a3 2 b3) S0.gold ∧ Uno w5 (w.heap.size + 1) (.slice a4 0 b4) S0.us ∧ Jbo w5 (w.heap.size + 1) (.slice a5 0 b5) S0.qs) := ⟨o1.mono R4.out.lt, o2.mono R4.out.lt, o3.mono R4.out.lt, o4.mono R4.out.lt, o5.mono R4.out.lt⟩
        clear hr hb o1 o2 o3 o4 o5 K4 X4 F4 R4 B4
        refine ⟨_, rfl, X5.out, ?_⟩
        go_simp
        refine headA_read rfl (.tuple #[.agg #[.int .i64 0, .int .i64 1, .int .i64 4, .int .i64 2, .slice a1 8 b1, .slice a2 8 b2, .slice a3 2 b3, .slice a4 0 b4, .slice a5 0 b5], .nilIface]) (by go_simp) (fun V hV => by go_simp) ?_
        go_simp
        refine headA_read rfl (.agg #[.int .i64 0, .int .i64 1, .int .i64 4, .int .i64 2, .slice a1 8 b1, .slice a2 8 b2, .slice a3 2 b3, .slice a4 0 b4, .slice a5 0 b5]) (by go_simp) (fun V hV => by go_simp) ?_
        go_simp
        refine headA_read rfl .nilIface (by go_simp) (fun V hV => by go_simp) ?_
        go_simp
        have NZ : Hid (Nz w5.heap.size (.slice a1 8 b1) ∧ Nz w5.heap.size (.slice a2 8 b2) ∧ Nz w5.heap.size (.slice a3 2 b3) ∧ Nz w5.heap.size (.slice a4 0 b4) ∧ Nz w5.heap.size (.slice a5 0 b5)) := ⟨fun b hb => by have := (O5.out.1.block b hb).2; omega, fun b hb => by have := (O5.out.2.1.block b hb).2; omega, fun b hb => by have := (O5.out.2.2.1.block b hb).2; omega, fun b hb => by have := (O5.out.2.2.2.1.block b hb).2; omega, fun b hb => by have := (O5.out.2.2.2.2.block b hb).2; omega⟩
        have BQ : Hid (Below w5.heap.size w5 (w5.alloc (.cells #[.int .i64 0, .int .i64 0, .int .i64 0, .int .i64 0, .slice none 0 0, .slice none 0 0, .slice none 0 0, .slice none 0 0, .slice none 0 0] 29))) := (Below.refl _ _).alloc (Nat.le_refl _) _
        have Z6 : Hid (Wx (w5.alloc (.cells #[.int .i64 0, .int .i64 0, .int .i64 0, .int .i64 0, .slice none 0 0, .slice none 0 0, .slice none 0 0, .slice none 0 0, .slice none 0 0] 29)) w5.heap.size (.int .i64 0) (.int .i64 0) (.int .i64 0) (.int .i64 0) (.slice none 0 0) (.slice none 0 0) (.slice none 0 0) (.slice none 0 0) (.slice none 0 0)) := Wx.new _ _ _ _ _ _ _ _ _ rfl
        refine headA_last rfl (.pointer (some ⟨w5.heap.size, 0, none⟩)) (w5.alloc (.cells #[.int .i64 0, .int .i64 0, .int .i64 0, .int .i64 0, .slice none 0 0, .slice none 0 0, .slice none 0 0, .slice none 0 0, .slice none 0 0] 29)) (by go_simp) (by go_simp) (X5.out.below BQ.out X5.out.lt) ?_
        obtain ⟨z, hz⟩ : ∃ z, w5.heap.size = z := ⟨_, rfl⟩
        have HZ : Hid (w.heap.size < z) := by rw [← hz]; exact R5.out.lt
        rw [hz] at NZ Z6 BQ ⊢
        go_simp
        generalize (w5.alloc (.cells #[.int .i64 0, .int .i64 0, .int .i64 0, .int .i64 0, .slice none 0 0, .slice none 0 0, .slice none 0 0, .slice none 0 0, .slice none 0 0] 29)) = w6 at *
        have X6 : Hid (Bx w6 w1.heap.size 4 2 (.slice p1 8 q1) (.slice p2 8 q2)) := X5.out.below BQ.out (by have := X5.out.lt; omega)
        have R6 : Hid (Wx w6 w.heap.size (.int .i64 0) (.int .i64 0) (.int .i64 0) (.int .i64 0) (.slice none 0 0) (.slice none 0 0) (.slice none 0 0) (.slice none 0 0) (.slice none 0 0)) := R5.out.below BQ.out HZ.out
        have B6 : Hid (Below w.heap.size w w6) := B5.out.trans (BQ.out.mono (by have := HZ.out; omega))
        have O6 : Hid (Ow w6 (w.heap.size + 1) (.slice a1 8 b1) S0.gs ∧ Ow w6 (w.heap.size + 1) (.slice a2 8 b2) S0.os ∧ Ow w6 (w.heap.size + 1) (.slice a3 2 b3) S0.gold ∧ Uno w6 (w.heap.size + 1) (.slice a4 0 b4) S0.us ∧ Jbo w6 (w.heap.size + 1) (.slice a5 0 b5) S0.qs) := ⟨O5.out.1.below (by rw [hz]; exact BQ.out), O5.out.2.1.below (by rw [hz]; exact BQ.out), O5.out.2.2.1.below (by rw [hz]; exact BQ.out), O5.out.2.2.2.1.below (by rw [hz]; exact BQ.out), O5.out.2.2.2.2.below (by rw [hz]; exact BQ.out)⟩
        have XZ : Hid (w1.heap.size ≠ z) := by have := X5.out.lt; unfold Hid; omega
        clear X5 R5 B5 O5 BQ hz
        have KW : Hid (Kp z w6 (((((((((w6.setCell ⟨z, 0, none⟩ (.int .i64 0)).setCell ⟨z, 1, none⟩ (.int .i64 1)).setCell ⟨z, 2, none⟩ (.int .i64 4)).setCell ⟨z, 3, none⟩ (.int .i64 2)).setCell ⟨z, 4, none⟩ (.slice a1 8 b1)).setCell ⟨z, 5, none⟩ (.slice a2 8 b2)).setCell ⟨z, 6, none⟩ (.slice a3 2 b3)).setCell ⟨z, 7, none⟩ (.slice a4 0 b4)).setCell ⟨z, 8, none⟩ (.slice a5 0 b5))) := put_kp _ _ _ _ _ _ _ _ _ _ _
        have FIN : Hid (SmI w S0 (.pointer (some ⟨z, 0, none⟩)) (((((((((w6.setCell ⟨z, 0, none⟩ (.int .i64 0)).setCell ⟨z, 1, none⟩ (.int .i64 1)).setCell ⟨z, 2, none⟩ (.int .i64 4)).setCell ⟨z, 3, none⟩ (.int .i64 2)).setCell ⟨z, 4, none⟩ (.slice a1 8 b1)).setCell ⟨z, 5, none⟩ (.slice a2 8 b2)).setCell ⟨z, 6, none⟩ (.slice a3 2 b3)).setCell ⟨z, 7, none⟩ (.slice a4 0 b4)).setCell ⟨z, 8, none⟩ (.slice a5 0 b5))) := smi_put HZ.out B6.out R6.out Z6.out O6.out NZ.out
        obtain ⟨x0, x1, x2, x3, x4, x5, x6, x7, x8⟩ := Z6.out.cells
        obtain ⟨t0, t1, t2, t3, t4, t5, t6, t7, t8⟩ := Z6.out.thaws
        refine headT_skip rfl (((((((((w6.setCell ⟨z, 0, none⟩ (.int .i64 0)).setCell ⟨z, 1, none⟩ (.int .i64 1)).setCell ⟨z, 2, none⟩ (.int .i64 4)).setCell ⟨z, 3, none⟩ (.int .i64 2)).setCell ⟨z, 4, none⟩ (.slice a1 8 b1)).setCell ⟨z, 5, none⟩ (.slice a2 8 b2)).setCell ⟨z, 6, none⟩ (.slice a3 2 b3)).setCell ⟨z, 7, none⟩ (.slice a4 0 b4)).setCell ⟨z, 8, none⟩ (.slice a5 0 b5)) (by go_simp) (by go_simp) (bx_kp X6.out KW.out XZ.out) ?_
        go_simp
        clear x0 x1 x2 x3 x4 x5 x6 x7 x8 t0 t1 t2 t3 t4 t5 t6 t7 t8
        generalize (((((((((w6.setCell ⟨z, 0, none⟩ (.int .i64 0)).setCell ⟨z, 1, none⟩ (.int .i64 1)).setCell ⟨z, 2, none⟩ (.int .i64 4)).setCell ⟨z, 3, none⟩ (.int .i64 2)).setCell ⟨z, 4, none⟩ (.slice a1 8 b1)).setCell ⟨z, 5, none⟩ (.slice a2 8 b2)).setCell ⟨z, 6, none⟩ (.slice a3 2 b3)).setCell ⟨z, 7, none⟩ (.slice a4 0 b4)).setCell ⟨z, 8, none⟩ (.slice a5 0 b5)) = w7 at *
        unfold wpHeadT
        refine sched_value rfl .nilIface w7 (by go_simp) (by go_simp) trivial ?_
        go_simp
        unfold wpSched
        go_wp2_with fail
        go_meet
        case rel => exact ⟨rfl, FIN.out⟩
      · -- the memory is made behind the kinds
        have BQ : Hid (Below w4.heap.size w4 (w4.alloc (.cells #[.int .i64 0, .int .i64 0, .int .i64 0, .int .i64 0, .slice none 0 0, .slice none 0 0, .slice none 0 0, .slice none 0 0, .slice none 0 0] 29))) := (Below.refl _ _).alloc (Nat.le_refl _) _
        have ZQ : Hid (Wx (w4.alloc (.cells #[.int .i64 0, .int .i64 0, .int .i64 0, .int .i64 0, .slice none 0 0, .slice none 0 0, .slice none 0 0, .slice none 0 0, .slice none 0 0] 29)) w4.heap.size (.int .i64 0) (.int .i64 0) (.int .i64 0) (.int .i64 0) (.slice none 0 0) (.slice none 0 0) (.slice none 0 0) (.slice none 0 0) (.slice none 0 0)) := Wx.new _ _ _ _ _ _ _ _ _ rfl
        obtain ⟨z, hz⟩ : ∃ z, w4.heap.size = z := ⟨_, rfl⟩
        have HZ : Hid (w.heap.size < z) := by rw [← hz]; exact R4.out.lt
        have XZ : Hid (w1.heap.size ≠ z) := by have := X4.out.lt; unfold Hid; omega
        rw [hz] at ZQ ⊢
        go_simp
        generalize (w4.alloc (.cells #[.int .i64 0, .int .i64 0, .int .i64 0, .int .i64 0, .slice none 0 0, .slice none 0 0, .slice none 0 0, .slice none 0 0, .slice none 0 0] 29)) = w4' at *
        have K4' : Hid (Kl w4' ku SK) := K4.out.below BQ.out
        have X4' : Hid (Bx w4' w1.heap.size 4 2 (.slice p1 8 q1) (.slice p2 8 q2)) := X4.out.below BQ.out X4.out.lt
        have F4' : Hid (Fl w4' (.agg #[.int .i64 4, .int .i64 2, .slice p1 8 q1, .slice p2 8 q2]) 4 2 SG SO) := F4.out.below BQ.out
        have R4' : Hid (Wx w4' w.heap.size (.int .i64 0) (.int .i64 0) (.int .i64 0) (.int .i64 0) (.slice none 0 0) (.slice none 0 0) (.slice none 0 0) (.slice none 0 0) (.slice none 0 0)) := R4.out.below BQ.out R4.out.lt
        have B4' : Hid (Below w.heap.size w w4') := B4.out.trans (BQ.out.mono B4.out.size)
        clear K4 X4 F4 R4 B4 BQ hz
        refine headT_call rfl 54 #[ku, .agg #[.int .i64 4, .int .i64 2, .slice p1 8 q1, .slice p2 8 q2], .int .i64 2, .int .i64 100] (by go_simp) (by go_simp) ?_
        refine (new_any ku _ SK 4 2 SG SO 2 100 w4' K4'.out sm_names F4'.out).mono ?_
        rintro e w5 ⟨u, r, rfl, hr, ho, hb⟩
        rw [sm_f0] at hr
        rw [sm_0] at ho
        obtain rfl := er_zero hr
        have X5 : Hid (Bx w5 w1.heap.size 4 2 (.slice p1 8 q1) (.slice p2 8 q2)) := X4'.out.below hb X4'.out.lt
        have R5 : Hid (Wx w5 w.heap.size (.int .i64 0) (.int .i64 0) (.int .i64 0) (.int .i64 0) (.slice none 0 0) (.slice none 0 0) (.slice none 0 0) (.slice none 0 0) (.slice none 0 0)) := R4'.out.below hb R4'.out.lt
        have B5 : Hid (Below w.heap.size w w5) := B4'.out.trans (hb.mono B4'.out.size)
        have Z5 : Hid (Wx w5 z (.int .i64 0) (.int .i64 0) (.int .i64 0) (.int .i64 0) (.slice none 0 0) (.slice none 0 0) (.slice none 0 0) (.slice none 0 0) (.slice none 0 0)) := ZQ.out.below hb ZQ.out.lt
        have ZL : Hid (z < w4'.heap.size) := ZQ.out.lt
        obtain ⟨v1, v2, v3, v4, v5, rfl, o1, o2, o3, o4, o5⟩ := ho
        obtain ⟨a1, b1, rfl⟩ := o1.len
        obtain ⟨a2, b2, rfl⟩ := o2.len
        obtain ⟨a3, b3, rfl⟩ := o3.len
        obtain ⟨a4, b4, rfl⟩ := o4.len
        obtain ⟨a5, b5, rfl⟩ := o5.len
        obtain ⟨g1, g2, g3, g4, g5, g6, g7, g8, g9⟩ := s0_eqs
        simp only [g5] at o1
        simp only [g6] at o2
        simp only [g7] at o3
        simp only [g8] at o4
        simp only [g9] at o5
        simp only [g1, g2, g3, g4, g5, g6, g7, g8, g9]
        clear g1 g2 g3 g4 g5 g6 g7 g8 g9
        have NZ : Hid (Nz z (.slice a1 8 b1) ∧ Nz z (.slice a2 8 b2) ∧ Nz z (.slice a3 2 b3) ∧ Nz z (.slice a4 0 b4) ∧ Nz z (.slice a5 0 b5)) := ⟨fun b hb => by have := (o1.block b hb).1; have := ZL.out; omega, fun b hb => by have := (o2.block b hb).1; have := ZL.out; omega, fun b hb => by have := (o3.block b hb).1; have := ZL.out; omega, fun b hb => by have := (o4.block b hb).1; have := ZL.out; omega, fun b hb => by have := (o5.block b hb).1; have := ZL.out; omega⟩
        have O5 : Hid (Ow w5 (w.heap.size + 1) (.slice a1 8 b1) S0.gs ∧ Ow w5 (w.heap.size + 1) (.slice a2 8 b2) S0.os ∧ Ow w5 (w.heap.size + 1) (.slice a3 2 b3) S0.gold ∧ Uno w5 (w.heap.size + 1) (.slice a4 0 b4) S0.us ∧ Jbo w5 (w.heap.size + 1) (.slice a5 0 b5) S0.qs) := ⟨o1.mono R4'.out.lt, o2.mono R4'.out.lt, o3.mono R4'.out.lt, o4.mono R4'.out.lt, o5.mono R4'.out.lt⟩
        clear hr hb o1 o2 o3 o4 o5 K4' X4' F4' R4' B4' ZQ ZL
        refine ⟨_, rfl, X5.out, ?_⟩
        go_simp
        refine headT_read rfl (.tuple #[.agg #[.int .i64 0, .int .i64 1, .int .i64 4, .int .i64 2, .slice a1 8 b1, .slice a2 8 b2, .slice a3 2 b3, .slice a4 0 b4, .slice a5 0 b5], .nilIface]) (by go_simp) (fun V hV => by go_simp) ?_
        go_simp
        generalize w5 = w6 at *
        have X6 := X5
        have R6 := R5
        have B6 := B5
        have O6 := O5
        have Z6 := Z5
        clear X5 R5 B5 O5 Z5
        refine headT_read rfl (.agg #[.int .i64 0, .int .i64 1, .int .i64 4, .int .i64 2, .slice a1 8 b1, .slice a2 8 b2, .slice a3 2 b3, .slice a4 0 b4, .slice a5 0 b5]) (by go_simp) (fun V hV => by go_simp) ?_
        go_simp
        refine headT_read rfl .nilIface (by go_simp) (fun V hV => by go_simp) ?_
        go_simp
        have KW : Hid (Kp z w6 (((((((((w6.setCell ⟨z, 0, none⟩ (.int .i64 0)).setCell ⟨z, 1, none⟩ (.int .i64 1)).setCell ⟨z, 2, none⟩ (.int .i64 4)).setCell ⟨z, 3, none⟩ (.int .i64 2)).setCell ⟨z, 4, none⟩ (.slice a1 8 b1)).setCell ⟨z, 5, none⟩ (.slice a2 8 b2)).setCell ⟨z, 6, none⟩ (.slice a3 2 b3)).setCell ⟨z, 7, none⟩ (.slice a4 0 b4)).setCell ⟨z, 8, none⟩ (.slice a5 0 b5))) := put_kp _ _ _ _ _ _ _ _ _ _ _
        have FIN : Hid (SmI w S0 (.pointer (some ⟨z, 0, none⟩)) (((((((((w6.setCell ⟨z, 0, none⟩ (.int .i64 0)).setCell ⟨z, 1, none⟩ (.int .i64 1)).setCell ⟨z, 2, none⟩ (.int .i64 4)).setCell ⟨z, 3, none⟩ (.int .i64 2)).setCell ⟨z, 4, none⟩ (.slice a1 8 b1)).setCell ⟨z, 5, none⟩ (.slice a2 8 b2)).setCell ⟨z, 6, none⟩ (.slice a3 2 b3)).setCell ⟨z, 7, none⟩ (.slice a4 0 b4)).setCell ⟨z, 8, none⟩ (.slice a5 0 b5))) := smi_put HZ.out B6.out R6.out Z6.out O6.out NZ.out
        obtain ⟨x0, x1, x2, x3, x4, x5, x6, x7, x8⟩ := Z6.out.cells
        obtain ⟨t0, t1, t2, t3, t4, t5, t6, t7, t8⟩ := Z6.out.thaws
        refine headT_skip rfl (((((((((w6.setCell ⟨z, 0, none⟩ (.int .i64 0)).setCell ⟨z, 1, none⟩ (.int .i64 1)).setCell ⟨z, 2, none⟩ (.int .i64 4)).setCell ⟨z, 3, none⟩ (.int .i64 2)).setCell ⟨z, 4, none⟩ (.slice a1 8 b1)).setCell ⟨z, 5, none⟩ (.slice a2 8 b2)).setCell ⟨z, 6, none⟩ (.slice a3 2 b3)).setCell ⟨z, 7, none⟩ (.slice a4 0 b4)).setCell ⟨z, 8, none⟩ (.slice a5 0 b5)) (by go_simp) (by go_simp) (bx_kp X6.out KW.out XZ.out) ?_
        go_simp
        clear x0 x1 x2 x3 x4 x5 x6 x7 x8 t0 t1 t2 t3 t4 t5 t6 t7 t8
        generalize (((((((((w6.setCell ⟨z, 0, none⟩ (.int .i64 0)).setCell ⟨z, 1, none⟩ (.int .i64 1)).setCell ⟨z, 2, none⟩ (.int .i64 4)).setCell ⟨z, 3, none⟩ (.int .i64 2)).setCell ⟨z, 4, none⟩ (.slice a1 8 b1)).setCell ⟨z, 5, none⟩ (.slice a2 8 b2)).setCell ⟨z, 6, none⟩ (.slice a3 2 b3)).setCell ⟨z, 7, none⟩ (.slice a4 0 b4)).setCell ⟨z, 8, none⟩ (.slice a5 0 b5)) = w7 at *
        unfold wpHeadT
        refine sched_value rfl .nilIface w7 (by go_simp) (by go_simp) trivial ?_
        go_simp
        unfold wpSched
        go_wp2_with fail
        go_meet
        case rel => exact ⟨rfl, FIN.out⟩
    · -- the memory is made first
      have BQ : Hid (Below w3.heap.size w3 (w3.alloc (.cells #[.int .i64 0, .int .i64 0, .int .i64 0, .int .i64 0, .slice none 0 0, .slice none 0 0, .slice none 0 0, .slice none 0 0, .slice none 0 0] 29))) := (Below.refl _ _).alloc (Nat.le_refl _) _
      have ZQ : Hid (Wx (w3.alloc (.cells #[.int .i64 0, .int .i64 0, .int .i64 0, .int .i64 0, .slice none 0 0, .slice none 0 0, .slice none 0 0, .slice none 0 0, .slice none 0 0] 29)) w3.heap.size (.int .i64 0) (.int .i64 0) (.int .i64 0) (.int .i64 0) (.slice none 0 0) (.slice none 0 0) (.slice none 0 0) (.slice none 0 0) (.slice none 0 0)) := Wx.new _ _ _ _ _ _ _ _ _ rfl
      obtain ⟨z, hz⟩ : ∃ z, w3.heap.size = z := ⟨_, rfl⟩
      have HZ : Hid (w.heap.size < z) := by rw [← hz]; exact R3.out.lt
      have XZ : Hid (w1.heap.size ≠ z) := by have := X3.out.lt; unfold Hid; omega
      rw [hz] at ZQ ⊢
      go_simp
      generalize (w3.alloc (.cells #[.int .i64 0, .int .i64 0, .int .i64 0, .int .i64 0, .slice none 0 0, .slice none 0 0, .slice none 0 0, .slice none 0 0, .slice none 0 0] 29)) = w3' at *
      have X3' : Hid (Bx w3' w1.heap.size 4 2 (.slice p1 8 q1) (.slice p2 8 q2)) := X3.out.below BQ.out X3.out.lt
      have F3' : Hid (Fl w3' (.agg #[.int .i64 4, .int .i64 2, .slice p1 8 q1, .slice p2 8 q2]) 4 2 SG SO) := F3.out.below BQ.out
      have R3' : Hid (Wx w3' w.heap.size (.int .i64 0) (.int .i64 0) (.int .i64 0) (.int .i64 0) (.slice none 0 0) (.slice none 0 0) (.slice none 0 0) (.slice none 0 0) (.slice none 0 0)) := R3.out.below BQ.out R3.out.lt
      have B3' : Hid (Below w.heap.size w w3') := B3.out.trans (BQ.out.mono B3.out.size)
      clear X3 F3 R3 B3 BQ hz
      refine headT_call rfl 26 #[] (by go_simp) (by go_simp) ?_
      refine (sorts_any w3').mono ?_
      rintro e w4' ⟨ku, rfl, hk, hb⟩
      have K4' : Hid (Kl w4' ku SK) := hk
      have X4' : Hid (Bx w4' w1.heap.size 4 2 (.slice p1 8 q1) (.slice p2 8 q2)) := X3'.out.below hb X3'.out.lt
      have F4' : Hid (Fl w4' (.agg #[.int .i64 4, .int .i64 2, .slice p1 8 q1, .slice p2 8 q2]) 4 2 SG SO) := F3'.out.below hb
      have R4' : Hid (Wx w4' w.heap.size (.int .i64 0) (.int .i64 0) (.int .i64 0) (.int .i64 0) (.slice none 0 0) (.slice none 0 0) (.slice none 0 0) (.slice none 0 0) (.slice none 0 0)) := R3'.out.below hb R3'.out.lt
      have B4' : Hid (Below w.heap.size w w4') := B3'.out.trans (hb.mono B3'.out.size)
      have ZQ' : Hid (Wx w4' z (.int .i64 0) (.int .i64 0) (.int .i64 0) (.int .i64 0) (.slice none 0 0) (.slice none 0 0) (.slice none 0 0) (.slice none 0 0) (.slice none 0 0)) := ZQ.out.below hb ZQ.out.lt
      clear hk hb X3' F3' R3' B3' ZQ
      have ZQ := ZQ'
      clear ZQ'
      refine ⟨_, rfl, X4'.out, ?_⟩
      go_simp
      refine headT_call rfl 54 #[ku, .agg #[.int .i64 4, .int .i64 2, .slice p1 8 q1, .slice p2 8 q2], .int .i64 2, .int .i64 100] (by go_simp) (by go_simp) ?_
      refine (new_any ku _ SK 4 2 SG SO 2 100 w4' K4'.out sm_names F4'.out).mono ?_
      rintro e w5 ⟨u, r, rfl, hr, ho, hb⟩
      rw [sm_f0] at hr
      rw [sm_0] at ho
      obtain rfl := er_zero hr
      have X5 : Hid (Bx w5 w1.heap.size 4 2 (.slice p1 8 q1) (.slice p2 8 q2)) := X4'.out.below hb X4'.out.lt
      have R5 : Hid (Wx w5 w.heap.size (.int .i64 0) (.int .i64 0) (.int .i64 0) (.int .i64 0) (.slice none 0 0) (.slice none 0 0) (.slice none 0 0) (.slice none 0 0) (.slice none 0 0)) := R4'.out.below hb R4'.out.lt
      have B5 : Hid (Below w.heap.size w w5) := B4'.out.trans (hb.mono B4'.out.size)
      have Z5 : Hid (Wx w5 z (.int .i64 0) (.int .i64 0) (.int .i64 0) (.int .i64 0) (.slice none 0 0) (.slice none 0 0) (.slice none 0 0) (.slice none 0 0) (.slice none 0 0)) := ZQ.out.below hb ZQ.out.lt
      have ZL : Hid (z < w4'.heap.size) := ZQ.out.lt
      obtain ⟨v1, v2, v3, v4, v5, rfl, o1, o2, o3, o4, o5⟩ := ho
      obtain ⟨a1, b1, rfl⟩ := o1.len
      obtain ⟨a2, b2, rfl⟩ := o2.len
      obtain ⟨a3, b3, rfl⟩ := o3.len
      obtain ⟨a4, b4, rfl⟩ := o4.len
      obtain ⟨a5, b5, rfl⟩ := o5.len
      obtain ⟨g1, g2, g3, g4, g5, g6, g7, g8, g9⟩ := s0_eqs
      simp only [g5] at o1
      simp only [g6] at o2
      simp only [g7] at o3
      simp only [g8] at o4
      simp only [g9] at o5
      simp only [g1, g2, g3, g4, g5, g6, g7, g8, g9]
      clear g1 g2 g3 g4 g5 g6 g7 g8 g9
      have NZ : Hid (Nz z (.slice a1 8 b1) ∧ Nz z (.slice a2 8 b2) ∧ Nz z (.slice a3 2 b3) ∧ Nz z (.slice a4 0 b4) ∧ Nz z (.slice a5 0 b5)) := ⟨fun b hb => by have := (o1.block b hb).1; have := ZL.out; omega, fun b hb => by have := (o2.block b hb).1; have := ZL.out; omega, fun b hb => by have := (o3.block b hb).1; have := ZL.out; omega, fun b hb => by have := (o4.block b hb).1; have := ZL.out; omega, fun b hb => by have := (o5.block b hb).1; have := ZL.out; omega⟩
      have O5 : Hid (Ow w5 (w.heap.size + 1) (.slice a1 8 b1) S0.gs ∧ Ow w5 (w.heap.size + 1) (.slice a2 8 b2) S0.os ∧ Ow w5 (w.heap.size + 1) (.slice a3 2 b3) S0.gold ∧ Uno w5 (w.heap.size + 1) (.slice a4 0 b4) S0.us ∧ Jbo w5 (w.heap.size + 1) (.slice a5 0 b5) S0.qs) := ⟨o1.mono R4'.out.lt, o2.mono R4'.out.lt, o3.mono R4'.out.lt, o4.mono R4'.out.lt, o5.mono R4'.out.lt⟩
      clear hr hb o1 o2 o3 o4 o5 K4' X4' F4' R4' B4' ZQ ZL
      refine ⟨_, rfl, X5.out, ?_⟩
      go_simp
      refine headT_read rfl (.tuple #[.agg #[.int .i64 0, .int .i64 1, .int .i64 4, .int .i64 2, .slice a1 8 b1, .slice a2 8 b2, .slice a3 2 b3, .slice a4 0 b4, .slice a5 0 b5], .nilIface]) (by go_simp) (fun V hV => by go_simp) ?_
      go_simp
      generalize w5 = w6 at *
      have X6 := X5
      have R6 := R5
      have B6 := B5
      have O6 := O5
      have Z6 := Z5
      clear X5 R5 B5 O5 Z5
      refine headT_read rfl (.agg #[.int .i64 0, .int .i64 1, .int .i64 4, .int .i64 2, .slice a1 8 b1, .slice a2 8 b2, .slice a3 2 b3, .slice a4 0 b4, .slice a5 0 b5]) (by go_simp) (fun V hV => by go_simp) ?_
      go_simp
      refine headT_read rfl .nilIface (by go_simp) (fun V hV => by go_simp) ?_
      go_simp
      have KW : Hid (Kp z w6 (((((((((w6.setCell ⟨z, 0, none⟩ (.int .i64 0)).setCell ⟨z, 1, none⟩ (.int .i64 1)).setCell ⟨z, 2, none⟩ (.int .i64 4)).setCell ⟨z, 3, none⟩ (.int .i64 2)).setCell ⟨z, 4, none⟩ (.slice a1 8 b1)).setCell ⟨z, 5, none⟩ (.slice a2 8 b2)).setCell ⟨z, 6, none⟩ (.slice a3 2 b3)).setCell ⟨z, 7, none⟩ (.slice a4 0 b4)).setCell ⟨z, 8, none⟩ (.slice a5 0 b5))) := put_kp _ _ _ _ _ _ _ _ _ _ _
      have FIN : Hid (SmI w S0 (.pointer (some ⟨z, 0, none⟩)) (((((((((w6.setCell ⟨z, 0, none⟩ (.int .i64 0)).setCell ⟨z, 1, none⟩ (.int .i64 1)).setCell ⟨z, 2, none⟩ (.int .i64 4)).setCell ⟨z, 3, none⟩ (.int .i64 2)).setCell ⟨z, 4, none⟩ (.slice a1 8 b1)).setCell ⟨z, 5, none⟩ (.slice a2 8 b2)).setCell ⟨z, 6, none⟩ (.slice a3 2 b3)).setCell ⟨z, 7, none⟩ (.slice a4 0 b4)).setCell ⟨z, 8, none⟩ (.slice a5 0 b5))) := smi_put HZ.out B6.out R6.out Z6.out O6.out NZ.out
      obtain ⟨x0, x1, x2, x3, x4, x5, x6, x7, x8⟩ := Z6.out.cells
      obtain ⟨t0, t1, t2, t3, t4, t5, t6, t7, t8⟩ := Z6.out.thaws
      refine headT_skip rfl (((((((((w6.setCell ⟨z, 0, none⟩ (.int .i64 0)).setCell ⟨z, 1, none⟩ (.int .i64 1)).setCell ⟨z, 2, none⟩ (.int .i64 4)).setCell ⟨z, 3, none⟩ (.int .i64 2)).setCell ⟨z, 4, none⟩ (.slice a1 8 b1)).setCell ⟨z, 5, none⟩ (.slice a2 8 b2)).setCell ⟨z, 6, none⟩ (.slice a3 2 b3)).setCell ⟨z, 7, none⟩ (.slice a4 0 b4)).setCell ⟨z, 8, none⟩ (.slice a5 0 b5)) (by go_simp) (by go_simp) (bx_kp X6.out KW.out XZ.out) ?_
      go_simp
      clear x0 x1 x2 x3 x4 x5 x6 x7 x8 t0 t1 t2 t3 t4 t5 t6 t7 t8
      generalize (((((((((w6.setCell ⟨z, 0, none⟩ (.int .i64 0)).setCell ⟨z, 1, none⟩ (.int .i64 1)).setCell ⟨z, 2, none⟩ (.int .i64 4)).setCell ⟨z, 3, none⟩ (.int .i64 2)).setCell ⟨z, 4, none⟩ (.slice a1 8 b1)).setCell ⟨z, 5, none⟩ (.slice a2 8 b2)).setCell ⟨z, 6, none⟩ (.slice a3 2 b3)).setCell ⟨z, 7, none⟩ (.slice a4 0 b4)).setCell ⟨z, 8, none⟩ (.slice a5 0 b5)) = w7 at *
      unfold wpHeadT
      refine sched_value rfl .nilIface w7 (by go_simp) (by go_simp) trivial ?_
      go_simp
      unfold wpSched
      go_wp2_with fail
      go_meet
      case rel => exact ⟨rfl, FIN.out⟩
  case rest =>
    obtain ⟨rfl, hS⟩ := hcut
    obtain ⟨z, c1, c2, c3, c4, c5, rfl, hz, hB, hR, hX, hO, hN⟩ := hS
    have HZ : Hid (w.heap.size < z) := hz
    have BA0 : Hid (Below w.heap.size w wc) := hB
    have RA0 : Hid (Wx wc w.heap.size (.int .i64 0) (.int .i64 0) (.int .i64 0) (.int .i64 0) (.slice none 0 0) (.slice none 0 0) (.slice none 0 0) (.slice none 0 0) (.slice none 0 0)) := hR
    have XA0 : Hid (Wx wc z (.int .i64 S0.turn) (.int .i64 S0.next) (.int .i64 S0.wide) (.int .i64 S0.high) c1 c2 c3 c4 c5) := hX
    have OA0 : Hid (Ow wc (w.heap.size + 1) c1 S0.gs ∧ Ow wc (w.heap.size + 1) c2 S0.os ∧ Ow wc (w.heap.size + 1) c3 S0.gold ∧ Uno wc (w.heap.size + 1) c4 S0.us ∧ Jbo wc (w.heap.size + 1) c5 S0.qs) := hO
    clear hz hB hR hX hO hN X2 FL R2 B2 N2
    generalize wc = s0 at *
    go_upto_region 3 with fail
    refine wp_region_two [(true, 1), (false, 0), (false, 2), (true, 3)] [(true, 4), (true, 5), (false, 6), (false, 7)] (fun V => Wx V z (.int .i64 S0.turn) (.int .i64 S0.next) (.int .i64 S0.wide) (.int .i64 S0.high) c1 c2 c3 c4 c5) (by kernel_rfl) (by kernel_rfl) (by kernel_rfl) (by decide +kernel) (by decide +kernel) XA0.out.drew ?_
    have X1 : Hid (Wx { s0 with drawn := s0.drawn + 1 } z (.int .i64 S0.turn) (.int .i64 S0.next) (.int .i64 S0.wide) (.int .i64 S0.high) c1 c2 c3 c4 c5) := XA0.out
    have R1 : Hid (Wx { s0 with drawn := s0.drawn + 1 } w.heap.size (.int .i64 0) (.int .i64 0) (.int .i64 0) (.int .i64 0) (.slice none 0 0) (.slice none 0 0) (.slice none 0 0) (.slice none 0 0) (.slice none 0 0)) := RA0.out
    have B1 : Hid (Below w.heap.size w { s0 with drawn := s0.drawn + 1 }) := BA0.out.drew
    have D1 : Hid (Below s0.heap.size s0 { s0 with drawn := s0.drawn + 1 }) := (Below.refl _ _).drew
    generalize ({ s0 with drawn := s0.drawn + 1 } : World) = v3 at *
    have L1 : Hid (Wl v3 (.agg #[.int .i64 S0.turn, .int .i64 S0.next, .int .i64 S0.wide, .int .i64 S0.high, c1, c2, c3, c4, c5]) S0) := ⟨_, _, _, _, _, rfl, (OA0.out.1.below D1.out).ro, (OA0.out.2.1.below D1.out).ro, (OA0.out.2.2.1.below D1.out).ro, (OA0.out.2.2.2.1.below D1.out).l, (OA0.out.2.2.2.2.below D1.out).l⟩
    clear XA0 RA0 BA0 OA0 D1
    refine headT_read rfl (.agg #[.int .i64 S0.turn, .int .i64 S0.next, .int .i64 S0.wide, .int .i64 S0.high, c1, c2, c3, c4, c5]) (by go_simp) (fun V hV => by obtain ⟨x0, x1, x2, x3, x4, x5, x6, x7, x8⟩ := hV.cells; go_simp) ?_
    go_simp
    refine headT_call rfl 26 #[] (by go_simp) (by go_simp) ?_
    refine (sorts_any v3).mono ?_
    rintro e v4 ⟨ku, rfl, hk, hb⟩
    have K4 : Hid (Kl v4 ku SK) := hk
    have X4 : Hid (Wx v4 z (.int .i64 S0.turn) (.int .i64 S0.next) (.int .i64 S0.wide) (.int .i64 S0.high) c1 c2 c3 c4 c5) := X1.out.below hb X1.out.lt
    have R4 : Hid (Wx v4 w.heap.size (.int .i64 0) (.int .i64 0) (.int .i64 0) (.int .i64 0) (.slice none 0 0) (.slice none 0 0) (.slice none 0 0) (.slice none 0 0) (.slice none 0 0)) := R1.out.below hb R1.out.lt
    have B4 : Hid (Below w.heap.size w v4) := B1.out.trans (hb.mono B1.out.size)
    have L4 : Hid (Wl v4 (.agg #[.int .i64 S0.turn, .int .i64 S0.next, .int .i64 S0.wide, .int .i64 S0.high, c1, c2, c3, c4, c5]) S0) := L1.out.below hb
    clear hk hb X1 R1 B1 L1
    refine ⟨_, rfl, X4.out, ?_⟩
    go_simp
    refine headT_call rfl 55 #[ku, .agg #[.int .i64 S0.turn, .int .i64 S0.next, .int .i64 S0.wide, .int .i64 S0.high, c1, c2, c3, c4, c5], .int .i64 0, .int .i64 0, .int .i64 0] (by go_simp) (by go_simp) ?_
    refine (place_any ku _ SK S0 0 0 0 v4 K4.out sm_names L4.out).mono ?_
    rintro e v5 ⟨u, r, rfl, hr, ho, hb⟩
    rw [sm_f1] at hr
    rw [sm_1] at ho
    obtain rfl := er_zero hr
    have X5 : Hid (Wx v5 z (.int .i64 S0.turn) (.int .i64 S0.next) (.int .i64 S0.wide) (.int .i64 S0.high) c1 c2 c3 c4 c5) := X4.out.below hb X4.out.lt
    have R5 : Hid (Wx v5 w.heap.size (.int .i64 0) (.int .i64 0) (.int .i64 0) (.int .i64 0) (.slice none 0 0) (.slice none 0 0) (.slice none 0 0) (.slice none 0 0) (.slice none 0 0)) := R4.out.below hb R4.out.lt
    have B5 : Hid (Below w.heap.size w v5) := B4.out.trans (hb.mono B4.out.size)
    have ZL : Hid (z < v4.heap.size) := X4.out.lt
    obtain ⟨y1, y2, y3, y4, y5, rfl, o1, o2, o3, o4, o5⟩ := ho
    obtain ⟨m11, n11, rfl⟩ := o1.len
    obtain ⟨m12, n12, rfl⟩ := o2.len
    obtain ⟨m13, n13, rfl⟩ := o3.len
    obtain ⟨m14, n14, rfl⟩ := o4.len
    obtain ⟨m15, n15, rfl⟩ := o5.len
    obtain ⟨g1, g2, g3, g4, g5, g6, g7, g8, g9⟩ := s1_eqs
    simp only [g5] at o1
    simp only [g6] at o2
    simp only [g7] at o3
    simp only [g8] at o4
    simp only [g9] at o5
    simp only [g1, g2, g3, g4, g5, g6, g7, g8, g9]
    clear g1 g2 g3 g4 g5 g6 g7 g8 g9
    have NZ : Hid (Nz z (.slice m11 8 n11) ∧ Nz z (.slice m12 8 n12) ∧ Nz z (.slice m13 2 n13) ∧ Nz z (.slice m14 1 n14) ∧ Nz z (.slice m15 0 n15)) := ⟨fun b hb => by have := (o1.block b hb).1; have := ZL.out; omega, fun b hb => by have := (o2.block b hb).1; have := ZL.out; omega, fun b hb => by have := (o3.block b hb).1; have := ZL.out; omega, fun b hb => by have := (o4.block b hb).1; have := ZL.out; omega, fun b hb => by have := (o5.block b hb).1; have := ZL.out; omega⟩
    have O5 : Hid (Ow v5 (w.heap.size + 1) (.slice m11 8 n11) S1.gs ∧ Ow v5 (w.heap.size + 1) (.slice m12 8 n12) S1.os ∧ Ow v5 (w.heap.size + 1) (.slice m13 2 n13) S1.gold ∧ Uno v5 (w.heap.size + 1) (.slice m14 1 n14) S1.us ∧ Jbo v5 (w.heap.size + 1) (.slice m15 0 n15) S1.qs) := ⟨o1.mono R4.out.lt, o2.mono R4.out.lt, o3.mono R4.out.lt, o4.mono R4.out.lt, o5.mono R4.out.lt⟩
    clear hr hb o1 o2 o3 o4 o5 K4 X4 R4 B4 L4 ZL
    refine ⟨_, rfl, X5.out, ?_⟩
    go_simp
    refine headT_read rfl (.tuple #[.agg #[.int .i64 0, .int .i64 2, .int .i64 4, .int .i64 2, .slice m11 8 n11, .slice m12 8 n12, .slice m13 2 n13, .slice m14 1 n14, .slice m15 0 n15], .nilIface]) (by go_simp) (fun V hV => by go_simp) ?_
    go_simp
    unfold wpHeadT
    have KW : Hid (Kp z v5 (((((((((v5.setCell ⟨z, 0, none⟩ (.int .i64 0)).setCell ⟨z, 1, none⟩ (.int .i64 2)).setCell ⟨z, 2, none⟩ (.int .i64 4)).setCell ⟨z, 3, none⟩ (.int .i64 2)).setCell ⟨z, 4, none⟩ (.slice m11 8 n11)).setCell ⟨z, 5, none⟩ (.slice m12 8 n12)).setCell ⟨z, 6, none⟩ (.slice m13 2 n13)).setCell ⟨z, 7, none⟩ (.slice m14 1 n14)).setCell ⟨z, 8, none⟩ (.slice m15 0 n15))) := put_kp _ _ _ _ _ _ _ _ _ _ _
    have XA1 : Hid (Wx (((((((((v5.setCell ⟨z, 0, none⟩ (.int .i64 0)).setCell ⟨z, 1, none⟩ (.int .i64 2)).setCell ⟨z, 2, none⟩ (.int .i64 4)).setCell ⟨z, 3, none⟩ (.int .i64 2)).setCell ⟨z, 4, none⟩ (.slice m11 8 n11)).setCell ⟨z, 5, none⟩ (.slice m12 8 n12)).setCell ⟨z, 6, none⟩ (.slice m13 2 n13)).setCell ⟨z, 7, none⟩ (.slice m14 1 n14)).setCell ⟨z, 8, none⟩ (.slice m15 0 n15)) z (.int .i64 0) (.int .i64 2) (.int .i64 4) (.int .i64 2) (.slice m11 8 n11) (.slice m12 8 n12) (.slice m13 2 n13) (.slice m14 1 n14) (.slice m15 0 n15)) := X5.out.put (.int .i64 0) (.int .i64 2) (.int .i64 4) (.int .i64 2) (.slice m11 8 n11) (.slice m12 8 n12) (.slice m13 2 n13) (.slice m14 1 n14) (.slice m15 0 n15)
    obtain ⟨x0, x1, x2, x3, x4, x5, x6, x7, x8⟩ := X5.out.cells
    obtain ⟨t0, t1, t2, t3, t4, t5, t6, t7, t8⟩ := X5.out.thaws
    refine sched_read rfl (.agg #[.int .i64 0, .int .i64 2, .int .i64 4, .int .i64 2, .slice m11 8 n11, .slice m12 8 n12, .slice m13 2 n13, .slice m14 1 n14, .slice m15 0 n15]) (by go_simp) (fun V hV => by go_simp) ?_
    go_simp
    refine sched_read rfl .nilIface (by go_simp) (fun V hV => by go_simp) ?_
    go_simp
    refine sched_skip rfl (((((((((v5.setCell ⟨z, 0, none⟩ (.int .i64 0)).setCell ⟨z, 1, none⟩ (.int .i64 2)).setCell ⟨z, 2, none⟩ (.int .i64 4)).setCell ⟨z, 3, none⟩ (.int .i64 2)).setCell ⟨z, 4, none⟩ (.slice m11 8 n11)).setCell ⟨z, 5, none⟩ (.slice m12 8 n12)).setCell ⟨z, 6, none⟩ (.slice m13 2 n13)).setCell ⟨z, 7, none⟩ (.slice m14 1 n14)).setCell ⟨z, 8, none⟩ (.slice m15 0 n15)) (by go_simp) (by go_simp) trivial ?_
    go_simp
    clear x0 x1 x2 x3 x4 x5 x6 x7 x8 t0 t1 t2 t3 t4 t5 t6 t7 t8
    generalize (((((((((v5.setCell ⟨z, 0, none⟩ (.int .i64 0)).setCell ⟨z, 1, none⟩ (.int .i64 2)).setCell ⟨z, 2, none⟩ (.int .i64 4)).setCell ⟨z, 3, none⟩ (.int .i64 2)).setCell ⟨z, 4, none⟩ (.slice m11 8 n11)).setCell ⟨z, 5, none⟩ (.slice m12 8 n12)).setCell ⟨z, 6, none⟩ (.slice m13 2 n13)).setCell ⟨z, 7, none⟩ (.slice m14 1 n14)).setCell ⟨z, 8, none⟩ (.slice m15 0 n15)) = s1 at *
    have BA1 : Hid (Below w.heap.size w s1) := KW.out.below B5.out B5.out.size (Nat.le_of_lt HZ.out)
    have RA1 : Hid (Wx s1 w.heap.size (.int .i64 0) (.int .i64 0) (.int .i64 0) (.int .i64 0) (.slice none 0 0) (.slice none 0 0) (.slice none 0 0) (.slice none 0 0) (.slice none 0 0)) := R5.out.kp KW.out (Nat.ne_of_lt HZ.out)
    have OA1 : Hid (Ow s1 (w.heap.size + 1) (.slice m11 8 n11) S1.gs ∧ Ow s1 (w.heap.size + 1) (.slice m12 8 n12) S1.os ∧ Ow s1 (w.heap.size + 1) (.slice m13 2 n13) S1.gold ∧ Uno s1 (w.heap.size + 1) (.slice m14 1 n14) S1.us ∧ Jbo s1 (w.heap.size + 1) (.slice m15 0 n15) S1.qs) := ⟨owns_nz O5.out.1 KW.out NZ.out.1, owns_nz O5.out.2.1 KW.out NZ.out.2.1, owns_nz O5.out.2.2.1 KW.out NZ.out.2.2.1, owns_nz O5.out.2.2.2.1 KW.out NZ.out.2.2.2.1, owns_nz O5.out.2.2.2.2 KW.out NZ.out.2.2.2.2⟩
    clear X5 R5 B5 O5 NZ KW
    refine sched_value rfl .nilIface s1 (by go_simp) (by go_simp) trivial ?_
    go_simp
    unfold wpSched
    go_upto_region 4 with fail
    refine wp_region_two [(true, 1), (false, 0), (false, 2), (true, 3)] [(true, 4), (true, 5), (false, 6), (false, 7)] (fun V => Wx V z (.int .i64 S1.turn) (.int .i64 S1.next) (.int .i64 S1.wide) (.int .i64 S1.high) (.slice m11 8 n11) (.slice m12 8 n12) (.slice m13 2 n13) (.slice m14 1 n14) (.slice m15 0 n15)) (by kernel_rfl) (by kernel_rfl) (by kernel_rfl) (by decide +kernel) (by decide +kernel) XA1.out.drew ?_
    have X1 : Hid (Wx { s1 with drawn := s1.drawn + 1 } z (.int .i64 S1.turn) (.int .i64 S1.next) (.int .i64 S1.wide) (.int .i64 S1.high) (.slice m11 8 n11) (.slice m12 8 n12) (.slice m13 2 n13) (.slice m14 1 n14) (.slice m15 0 n15)) := XA1.out
    have R1 : Hid (Wx { s1 with drawn := s1.drawn + 1 } w.heap.size (.int .i64 0) (.int .i64 0) (.int .i64 0) (.int .i64 0) (.slice none 0 0) (.slice none 0 0) (.slice none 0 0) (.slice none 0 0) (.slice none 0 0)) := RA1.out
    have B1 : Hid (Below w.heap.size w { s1 with drawn := s1.drawn + 1 }) := BA1.out.drew
    have D1 : Hid (Below s1.heap.size s1 { s1 with drawn := s1.drawn + 1 }) := (Below.refl _ _).drew
    generalize ({ s1 with drawn := s1.drawn + 1 } : World) = v3 at *
    have L1 : Hid (Wl v3 (.agg #[.int .i64 S1.turn, .int .i64 S1.next, .int .i64 S1.wide, .int .i64 S1.high, .slice m11 8 n11, .slice m12 8 n12, .slice m13 2 n13, .slice m14 1 n14, .slice m15 0 n15]) S1) := ⟨_, _, _, _, _, rfl, (OA1.out.1.below D1.out).ro, (OA1.out.2.1.below D1.out).ro, (OA1.out.2.2.1.below D1.out).ro, (OA1.out.2.2.2.1.below D1.out).l, (OA1.out.2.2.2.2.below D1.out).l⟩
    clear XA1 RA1 BA1 OA1 D1
    refine headT_read rfl (.agg #[.int .i64 S1.turn, .int .i64 S1.next, .int .i64 S1.wide, .int .i64 S1.high, .slice m11 8 n11, .slice m12 8 n12, .slice m13 2 n13, .slice m14 1 n14, .slice m15 0 n15]) (by go_simp) (fun V hV => by obtain ⟨x0, x1, x2, x3, x4, x5, x6, x7, x8⟩ := hV.cells; go_simp) ?_
    go_simp
    refine headT_call rfl 26 #[] (by go_simp) (by go_simp) ?_
    refine (sorts_any v3).mono ?_
    rintro e v4 ⟨ku, rfl, hk, hb⟩
    have K4 : Hid (Kl v4 ku SK) := hk
    have X4 : Hid (Wx v4 z (.int .i64 S1.turn) (.int .i64 S1.next) (.int .i64 S1.wide) (.int .i64 S1.high) (.slice m11 8 n11) (.slice m12 8 n12) (.slice m13 2 n13) (.slice m14 1 n14) (.slice m15 0 n15)) := X1.out.below hb X1.out.lt
    have R4 : Hid (Wx v4 w.heap.size (.int .i64 0) (.int .i64 0) (.int .i64 0) (.int .i64 0) (.slice none 0 0) (.slice none 0 0) (.slice none 0 0) (.slice none 0 0) (.slice none 0 0)) := R1.out.below hb R1.out.lt
    have B4 : Hid (Below w.heap.size w v4) := B1.out.trans (hb.mono B1.out.size)
    have L4 : Hid (Wl v4 (.agg #[.int .i64 S1.turn, .int .i64 S1.next, .int .i64 S1.wide, .int .i64 S1.high, .slice m11 8 n11, .slice m12 8 n12, .slice m13 2 n13, .slice m14 1 n14, .slice m15 0 n15]) S1) := L1.out.below hb
    clear hk hb X1 R1 B1 L1
    refine ⟨_, rfl, X4.out, ?_⟩
    go_simp
    refine headT_call rfl 55 #[ku, .agg #[.int .i64 S1.turn, .int .i64 S1.next, .int .i64 S1.wide, .int .i64 S1.high, .slice m11 8 n11, .slice m12 8 n12, .slice m13 2 n13, .slice m14 1 n14, .slice m15 0 n15], .int .i64 0, .int .i64 1, .int .i64 1] (by go_simp) (by go_simp) ?_
    refine (place_any ku _ SK S1 0 1 1 v4 K4.out sm_names L4.out).mono ?_
    rintro e v5 ⟨u, r, rfl, hr, ho, hb⟩
    rw [sm_f2] at hr
    rw [sm_2] at ho
    obtain rfl := er_zero hr
    have X5 : Hid (Wx v5 z (.int .i64 S1.turn) (.int .i64 S1.next) (.int .i64 S1.wide) (.int .i64 S1.high) (.slice m11 8 n11) (.slice m12 8 n12) (.slice m13 2 n13) (.slice m14 1 n14) (.slice m15 0 n15)) := X4.out.below hb X4.out.lt
    have R5 : Hid (Wx v5 w.heap.size (.int .i64 0) (.int .i64 0) (.int .i64 0) (.int .i64 0) (.slice none 0 0) (.slice none 0 0) (.slice none 0 0) (.slice none 0 0) (.slice none 0 0)) := R4.out.below hb R4.out.lt
    have B5 : Hid (Below w.heap.size w v5) := B4.out.trans (hb.mono B4.out.size)
    have ZL : Hid (z < v4.heap.size) := X4.out.lt
    obtain ⟨y1, y2, y3, y4, y5, rfl, o1, o2, o3, o4, o5⟩ := ho
    obtain ⟨m21, n21, rfl⟩ := o1.len
    obtain ⟨m22, n22, rfl⟩ := o2.len
    obtain ⟨m23, n23, rfl⟩ := o3.len
    obtain ⟨m24, n24, rfl⟩ := o4.len
    obtain ⟨m25, n25, rfl⟩ := o5.len
    obtain ⟨g1, g2, g3, g4, g5, g6, g7, g8, g9⟩ := s2_eqs
    simp only [g5] at o1
    simp only [g6] at o2
    simp only [g7] at o3
    simp only [g8] at o4
    simp only [g9] at o5
    simp only [g1, g2, g3, g4, g5, g6, g7, g8, g9]
    clear g1 g2 g3 g4 g5 g6 g7 g8 g9
    have NZ : Hid (Nz z (.slice m21 8 n21) ∧ Nz z (.slice m22 8 n22) ∧ Nz z (.slice m23 2 n23) ∧ Nz z (.slice m24 2 n24) ∧ Nz z (.slice m25 0 n25)) := ⟨fun b hb => by have := (o1.block b hb).1; have := ZL.out; omega, fun b hb => by have := (o2.block b hb).1; have := ZL.out; omega, fun b hb => by have := (o3.block b hb).1; have := ZL.out; omega, fun b hb => by have := (o4.block b hb).1; have := ZL.out; omega, fun b hb => by have := (o5.block b hb).1; have := ZL.out; omega⟩
    have O5 : Hid (Ow v5 (w.heap.size + 1) (.slice m21 8 n21) S2.gs ∧ Ow v5 (w.heap.size + 1) (.slice m22 8 n22) S2.os ∧ Ow v5 (w.heap.size + 1) (.slice m23 2 n23) S2.gold ∧ Uno v5 (w.heap.size + 1) (.slice m24 2 n24) S2.us ∧ Jbo v5 (w.heap.size + 1) (.slice m25 0 n25) S2.qs) := ⟨o1.mono R4.out.lt, o2.mono R4.out.lt, o3.mono R4.out.lt, o4.mono R4.out.lt, o5.mono R4.out.lt⟩
    clear hr hb o1 o2 o3 o4 o5 K4 X4 R4 B4 L4 ZL
    refine ⟨_, rfl, X5.out, ?_⟩
    go_simp
    refine headT_read rfl (.tuple #[.agg #[.int .i64 0, .int .i64 3, .int .i64 4, .int .i64 2, .slice m21 8 n21, .slice m22 8 n22, .slice m23 2 n23, .slice m24 2 n24, .slice m25 0 n25], .nilIface]) (by go_simp) (fun V hV => by go_simp) ?_
    go_simp
    unfold wpHeadT
    have KW : Hid (Kp z v5 (((((((((v5.setCell ⟨z, 0, none⟩ (.int .i64 0)).setCell ⟨z, 1, none⟩ (.int .i64 3)).setCell ⟨z, 2, none⟩ (.int .i64 4)).setCell ⟨z, 3, none⟩ (.int .i64 2)).setCell ⟨z, 4, none⟩ (.slice m21 8 n21)).setCell ⟨z, 5, none⟩ (.slice m22 8 n22)).setCell ⟨z, 6, none⟩ (.slice m23 2 n23)).setCell ⟨z, 7, none⟩ (.slice m24 2 n24)).setCell ⟨z, 8, none⟩ (.slice m25 0 n25))) := put_kp _ _ _ _ _ _ _ _ _ _ _
    have XA2 : Hid (Wx (((((((((v5.setCell ⟨z, 0, none⟩ (.int .i64 0)).setCell ⟨z, 1, none⟩ (.int .i64 3)).setCell ⟨z, 2, none⟩ (.int .i64 4)).setCell ⟨z, 3, none⟩ (.int .i64 2)).setCell ⟨z, 4, none⟩ (.slice m21 8 n21)).setCell ⟨z, 5, none⟩ (.slice m22 8 n22)).setCell ⟨z, 6, none⟩ (.slice m23 2 n23)).setCell ⟨z, 7, none⟩ (.slice m24 2 n24)).setCell ⟨z, 8, none⟩ (.slice m25 0 n25)) z (.int .i64 0) (.int .i64 3) (.int .i64 4) (.int .i64 2) (.slice m21 8 n21) (.slice m22 8 n22) (.slice m23 2 n23) (.slice m24 2 n24) (.slice m25 0 n25)) := X5.out.put (.int .i64 0) (.int .i64 3) (.int .i64 4) (.int .i64 2) (.slice m21 8 n21) (.slice m22 8 n22) (.slice m23 2 n23) (.slice m24 2 n24) (.slice m25 0 n25)
    obtain ⟨x0, x1, x2, x3, x4, x5, x6, x7, x8⟩ := X5.out.cells
    obtain ⟨t0, t1, t2, t3, t4, t5, t6, t7, t8⟩ := X5.out.thaws
    refine sched_read rfl (.agg #[.int .i64 0, .int .i64 3, .int .i64 4, .int .i64 2, .slice m21 8 n21, .slice m22 8 n22, .slice m23 2 n23, .slice m24 2 n24, .slice m25 0 n25]) (by go_simp) (fun V hV => by go_simp) ?_
    go_simp
    refine sched_read rfl .nilIface (by go_simp) (fun V hV => by go_simp) ?_
    go_simp
    refine sched_skip rfl (((((((((v5.setCell ⟨z, 0, none⟩ (.int .i64 0)).setCell ⟨z, 1, none⟩ (.int .i64 3)).setCell ⟨z, 2, none⟩ (.int .i64 4)).setCell ⟨z, 3, none⟩ (.int .i64 2)).setCell ⟨z, 4, none⟩ (.slice m21 8 n21)).setCell ⟨z, 5, none⟩ (.slice m22 8 n22)).setCell ⟨z, 6, none⟩ (.slice m23 2 n23)).setCell ⟨z, 7, none⟩ (.slice m24 2 n24)).setCell ⟨z, 8, none⟩ (.slice m25 0 n25)) (by go_simp) (by go_simp) trivial ?_
    go_simp
    clear x0 x1 x2 x3 x4 x5 x6 x7 x8 t0 t1 t2 t3 t4 t5 t6 t7 t8
    generalize (((((((((v5.setCell ⟨z, 0, none⟩ (.int .i64 0)).setCell ⟨z, 1, none⟩ (.int .i64 3)).setCell ⟨z, 2, none⟩ (.int .i64 4)).setCell ⟨z, 3, none⟩ (.int .i64 2)).setCell ⟨z, 4, none⟩ (.slice m21 8 n21)).setCell ⟨z, 5, none⟩ (.slice m22 8 n22)).setCell ⟨z, 6, none⟩ (.slice m23 2 n23)).setCell ⟨z, 7, none⟩ (.slice m24 2 n24)).setCell ⟨z, 8, none⟩ (.slice m25 0 n25)) = s2 at *
    have BA2 : Hid (Below w.heap.size w s2) := KW.out.below B5.out B5.out.size (Nat.le_of_lt HZ.out)
    have RA2 : Hid (Wx s2 w.heap.size (.int .i64 0) (.int .i64 0) (.int .i64 0) (.int .i64 0) (.slice none 0 0) (.slice none 0 0) (.slice none 0 0) (.slice none 0 0) (.slice none 0 0)) := R5.out.kp KW.out (Nat.ne_of_lt HZ.out)
    have OA2 : Hid (Ow s2 (w.heap.size + 1) (.slice m21 8 n21) S2.gs ∧ Ow s2 (w.heap.size + 1) (.slice m22 8 n22) S2.os ∧ Ow s2 (w.heap.size + 1) (.slice m23 2 n23) S2.gold ∧ Uno s2 (w.heap.size + 1) (.slice m24 2 n24) S2.us ∧ Jbo s2 (w.heap.size + 1) (.slice m25 0 n25) S2.qs) := ⟨owns_nz O5.out.1 KW.out NZ.out.1, owns_nz O5.out.2.1 KW.out NZ.out.2.1, owns_nz O5.out.2.2.1 KW.out NZ.out.2.2.1, owns_nz O5.out.2.2.2.1 KW.out NZ.out.2.2.2.1, owns_nz O5.out.2.2.2.2 KW.out NZ.out.2.2.2.2⟩
    clear X5 R5 B5 O5 NZ KW
    refine sched_value rfl .nilIface s2 (by go_simp) (by go_simp) trivial ?_
    go_simp
    unfold wpSched
    go_upto_region 5 with fail
    refine wp_region_two [(true, 1), (false, 0), (false, 2), (true, 3)] [(true, 4), (true, 5), (false, 6), (false, 7)] (fun V => Wx V z (.int .i64 S2.turn) (.int .i64 S2.next) (.int .i64 S2.wide) (.int .i64 S2.high) (.slice m21 8 n21) (.slice m22 8 n22) (.slice m23 2 n23) (.slice m24 2 n24) (.slice m25 0 n25)) (by kernel_rfl) (by kernel_rfl) (by kernel_rfl) (by decide +kernel) (by decide +kernel) XA2.out.drew ?_
    have X1 : Hid (Wx { s2 with drawn := s2.drawn + 1 } z (.int .i64 S2.turn) (.int .i64 S2.next) (.int .i64 S2.wide) (.int .i64 S2.high) (.slice m21 8 n21) (.slice m22 8 n22) (.slice m23 2 n23) (.slice m24 2 n24) (.slice m25 0 n25)) := XA2.out
    have R1 : Hid (Wx { s2 with drawn := s2.drawn + 1 } w.heap.size (.int .i64 0) (.int .i64 0) (.int .i64 0) (.int .i64 0) (.slice none 0 0) (.slice none 0 0) (.slice none 0 0) (.slice none 0 0) (.slice none 0 0)) := RA2.out
    have B1 : Hid (Below w.heap.size w { s2 with drawn := s2.drawn + 1 }) := BA2.out.drew
    have D1 : Hid (Below s2.heap.size s2 { s2 with drawn := s2.drawn + 1 }) := (Below.refl _ _).drew
    generalize ({ s2 with drawn := s2.drawn + 1 } : World) = v3 at *
    have L1 : Hid (Wl v3 (.agg #[.int .i64 S2.turn, .int .i64 S2.next, .int .i64 S2.wide, .int .i64 S2.high, .slice m21 8 n21, .slice m22 8 n22, .slice m23 2 n23, .slice m24 2 n24, .slice m25 0 n25]) S2) := ⟨_, _, _, _, _, rfl, (OA2.out.1.below D1.out).ro, (OA2.out.2.1.below D1.out).ro, (OA2.out.2.2.1.below D1.out).ro, (OA2.out.2.2.2.1.below D1.out).l, (OA2.out.2.2.2.2.below D1.out).l⟩
    clear XA2 RA2 BA2 OA2 D1
    refine headT_read rfl (.agg #[.int .i64 S2.turn, .int .i64 S2.next, .int .i64 S2.wide, .int .i64 S2.high, .slice m21 8 n21, .slice m22 8 n22, .slice m23 2 n23, .slice m24 2 n24, .slice m25 0 n25]) (by go_simp) (fun V hV => by obtain ⟨x0, x1, x2, x3, x4, x5, x6, x7, x8⟩ := hV.cells; go_simp) ?_
    go_simp
    refine headT_call rfl 26 #[] (by go_simp) (by go_simp) ?_
    refine (sorts_any v3).mono ?_
    rintro e v4 ⟨ku, rfl, hk, hb⟩
    have K4 : Hid (Kl v4 ku SK) := hk
    have X4 : Hid (Wx v4 z (.int .i64 S2.turn) (.int .i64 S2.next) (.int .i64 S2.wide) (.int .i64 S2.high) (.slice m21 8 n21) (.slice m22 8 n22) (.slice m23 2 n23) (.slice m24 2 n24) (.slice m25 0 n25)) := X1.out.below hb X1.out.lt
    have R4 : Hid (Wx v4 w.heap.size (.int .i64 0) (.int .i64 0) (.int .i64 0) (.int .i64 0) (.slice none 0 0) (.slice none 0 0) (.slice none 0 0) (.slice none 0 0) (.slice none 0 0)) := R1.out.below hb R1.out.lt
    have B4 : Hid (Below w.heap.size w v4) := B1.out.trans (hb.mono B1.out.size)
    have L4 : Hid (Wl v4 (.agg #[.int .i64 S2.turn, .int .i64 S2.next, .int .i64 S2.wide, .int .i64 S2.high, .slice m21 8 n21, .slice m22 8 n22, .slice m23 2 n23, .slice m24 2 n24, .slice m25 0 n25]) S2) := L1.out.below hb
    clear hk hb X1 R1 B1 L1
    refine ⟨_, rfl, X4.out, ?_⟩
    go_simp
    refine headT_call rfl 55 #[ku, .agg #[.int .i64 S2.turn, .int .i64 S2.next, .int .i64 S2.wide, .int .i64 S2.high, .slice m21 8 n21, .slice m22 8 n22, .slice m23 2 n23, .slice m24 2 n24, .slice m25 0 n25], .int .i64 1, .int .i64 2, .int .i64 3] (by go_simp) (by go_simp) ?_
    refine (place_any ku _ SK S2 1 2 3 v4 K4.out sm_names L4.out).mono ?_
    rintro e v5 ⟨u, r, rfl, hr, ho, hb⟩
    rw [sm_f3] at hr
    rw [sm_3] at ho
    obtain rfl := er_zero hr
    have X5 : Hid (Wx v5 z (.int .i64 S2.turn) (.int .i64 S2.next) (.int .i64 S2.wide) (.int .i64 S2.high) (.slice m21 8 n21) (.slice m22 8 n22) (.slice m23 2 n23) (.slice m24 2 n24) (.slice m25 0 n25)) := X4.out.below hb X4.out.lt
    have R5 : Hid (Wx v5 w.heap.size (.int .i64 0) (.int .i64 0) (.int .i64 0) (.int .i64 0) (.slice none 0 0) (.slice none 0 0) (.slice none 0 0) (.slice none 0 0) (.slice none 0 0)) := R4.out.below hb R4.out.lt
    have B5 : Hid (Below w.heap.size w v5) := B4.out.trans (hb.mono B4.out.size)
    have ZL : Hid (z < v4.heap.size) := X4.out.lt
    obtain ⟨y1, y2, y3, y4, y5, rfl, o1, o2, o3, o4, o5⟩ := ho
    obtain ⟨m31, n31, rfl⟩ := o1.len
    obtain ⟨m32, n32, rfl⟩ := o2.len
    obtain ⟨m33, n33, rfl⟩ := o3.len
    obtain ⟨m34, n34, rfl⟩ := o4.len
    obtain ⟨m35, n35, rfl⟩ := o5.len
    obtain ⟨g1, g2, g3, g4, g5, g6, g7, g8, g9⟩ := s3_eqs
    simp only [g5] at o1
    simp only [g6] at o2
    simp only [g7] at o3
    simp only [g8] at o4
    simp only [g9] at o5
    simp only [g1, g2, g3, g4, g5, g6, g7, g8, g9]
    clear g1 g2 g3 g4 g5 g6 g7 g8 g9
    have NZ : Hid (Nz z (.slice m31 8 n31) ∧ Nz z (.slice m32 8 n32) ∧ Nz z (.slice m33 2 n33) ∧ Nz z (.slice m34 3 n34) ∧ Nz z (.slice m35 0 n35)) := ⟨fun b hb => by have := (o1.block b hb).1; have := ZL.out; omega, fun b hb => by have := (o2.block b hb).1; have := ZL.out; omega, fun b hb => by have := (o3.block b hb).1; have := ZL.out; omega, fun b hb => by have := (o4.block b hb).1; have := ZL.out; omega, fun b hb => by have := (o5.block b hb).1; have := ZL.out; omega⟩
    have O5 : Hid (Ow v5 (w.heap.size + 1) (.slice m31 8 n31) S3.gs ∧ Ow v5 (w.heap.size + 1) (.slice m32 8 n32) S3.os ∧ Ow v5 (w.heap.size + 1) (.slice m33 2 n33) S3.gold ∧ Uno v5 (w.heap.size + 1) (.slice m34 3 n34) S3.us ∧ Jbo v5 (w.heap.size + 1) (.slice m35 0 n35) S3.qs) := ⟨o1.mono R4.out.lt, o2.mono R4.out.lt, o3.mono R4.out.lt, o4.mono R4.out.lt, o5.mono R4.out.lt⟩
    clear hr hb o1 o2 o3 o4 o5 K4 X4 R4 B4 L4 ZL
    refine ⟨_, rfl, X5.out, ?_⟩
    go_simp
    refine headT_read rfl (.tuple #[.agg #[.int .i64 0, .int .i64 4, .int .i64 4, .int .i64 2, .slice m31 8 n31, .slice m32 8 n32, .slice m33 2 n33, .slice m34 3 n34, .slice m35 0 n35], .nilIface]) (by go_simp) (fun V hV => by go_simp) ?_
    go_simp
    unfold wpHeadT
    have KW : Hid (Kp z v5 (((((((((v5.setCell ⟨z, 0, none⟩ (.int .i64 0)).setCell ⟨z, 1, none⟩ (.int .i64 4)).setCell ⟨z, 2, none⟩ (.int .i64 4)).setCell ⟨z, 3, none⟩ (.int .i64 2)).setCell ⟨z, 4, none⟩ (.slice m31 8 n31)).setCell ⟨z, 5, none⟩ (.slice m32 8 n32)).setCell ⟨z, 6, none⟩ (.slice m33 2 n33)).setCell ⟨z, 7, none⟩ (.slice m34 3 n34)).setCell ⟨z, 8, none⟩ (.slice m35 0 n35))) := put_kp _ _ _ _ _ _ _ _ _ _ _
    have XA3 : Hid (Wx (((((((((v5.setCell ⟨z, 0, none⟩ (.int .i64 0)).setCell ⟨z, 1, none⟩ (.int .i64 4)).setCell ⟨z, 2, none⟩ (.int .i64 4)).setCell ⟨z, 3, none⟩ (.int .i64 2)).setCell ⟨z, 4, none⟩ (.slice m31 8 n31)).setCell ⟨z, 5, none⟩ (.slice m32 8 n32)).setCell ⟨z, 6, none⟩ (.slice m33 2 n33)).setCell ⟨z, 7, none⟩ (.slice m34 3 n34)).setCell ⟨z, 8, none⟩ (.slice m35 0 n35)) z (.int .i64 0) (.int .i64 4) (.int .i64 4) (.int .i64 2) (.slice m31 8 n31) (.slice m32 8 n32) (.slice m33 2 n33) (.slice m34 3 n34) (.slice m35 0 n35)) := X5.out.put (.int .i64 0) (.int .i64 4) (.int .i64 4) (.int .i64 2) (.slice m31 8 n31) (.slice m32 8 n32) (.slice m33 2 n33) (.slice m34 3 n34) (.slice m35 0 n35)
    obtain ⟨x0, x1, x2, x3, x4, x5, x6, x7, x8⟩ := X5.out.cells
    obtain ⟨t0, t1, t2, t3, t4, t5, t6, t7, t8⟩ := X5.out.thaws
    refine sched_read rfl (.agg #[.int .i64 0, .int .i64 4, .int .i64 4, .int .i64 2, .slice m31 8 n31, .slice m32 8 n32, .slice m33 2 n33, .slice m34 3 n34, .slice m35 0 n35]) (by go_simp) (fun V hV => by go_simp) ?_
    go_simp
    refine sched_read rfl .nilIface (by go_simp) (fun V hV => by go_simp) ?_
    go_simp
    refine sched_skip rfl (((((((((v5.setCell ⟨z, 0, none⟩ (.int .i64 0)).setCell ⟨z, 1, none⟩ (.int .i64 4)).setCell ⟨z, 2, none⟩ (.int .i64 4)).setCell ⟨z, 3, none⟩ (.int .i64 2)).setCell ⟨z, 4, none⟩ (.slice m31 8 n31)).setCell ⟨z, 5, none⟩ (.slice m32 8 n32)).setCell ⟨z, 6, none⟩ (.slice m33 2 n33)).setCell ⟨z, 7, none⟩ (.slice m34 3 n34)).setCell ⟨z, 8, none⟩ (.slice m35 0 n35)) (by go_simp) (by go_simp) trivial ?_
    go_simp
    clear x0 x1 x2 x3 x4 x5 x6 x7 x8 t0 t1 t2 t3 t4 t5 t6 t7 t8
    generalize (((((((((v5.setCell ⟨z, 0, none⟩ (.int .i64 0)).setCell ⟨z, 1, none⟩ (.int .i64 4)).setCell ⟨z, 2, none⟩ (.int .i64 4)).setCell ⟨z, 3, none⟩ (.int .i64 2)).setCell ⟨z, 4, none⟩ (.slice m31 8 n31)).setCell ⟨z, 5, none⟩ (.slice m32 8 n32)).setCell ⟨z, 6, none⟩ (.slice m33 2 n33)).setCell ⟨z, 7, none⟩ (.slice m34 3 n34)).setCell ⟨z, 8, none⟩ (.slice m35 0 n35)) = s3 at *
    have BA3 : Hid (Below w.heap.size w s3) := KW.out.below B5.out B5.out.size (Nat.le_of_lt HZ.out)
    have RA3 : Hid (Wx s3 w.heap.size (.int .i64 0) (.int .i64 0) (.int .i64 0) (.int .i64 0) (.slice none 0 0) (.slice none 0 0) (.slice none 0 0) (.slice none 0 0) (.slice none 0 0)) := R5.out.kp KW.out (Nat.ne_of_lt HZ.out)
    have OA3 : Hid (Ow s3 (w.heap.size + 1) (.slice m31 8 n31) S3.gs ∧ Ow s3 (w.heap.size + 1) (.slice m32 8 n32) S3.os ∧ Ow s3 (w.heap.size + 1) (.slice m33 2 n33) S3.gold ∧ Uno s3 (w.heap.size + 1) (.slice m34 3 n34) S3.us ∧ Jbo s3 (w.heap.size + 1) (.slice m35 0 n35) S3.qs) := ⟨owns_nz O5.out.1 KW.out NZ.out.1, owns_nz O5.out.2.1 KW.out NZ.out.2.1, owns_nz O5.out.2.2.1 KW.out NZ.out.2.2.1, owns_nz O5.out.2.2.2.1 KW.out NZ.out.2.2.2.1, owns_nz O5.out.2.2.2.2 KW.out NZ.out.2.2.2.2⟩
    clear X5 R5 B5 O5 NZ KW
    refine sched_value rfl .nilIface s3 (by go_simp) (by go_simp) trivial ?_
    go_simp
    unfold wpSched
    go_upto_region 6 with fail
    refine wp_region_two [(true, 0), (true, 1), (true, 2), (true, 3), (true, 4), (true, 5), (true, 6), (true, 7), (true, 8), (true, 9), (true, 10), (true, 11), (true, 12), (true, 13), (true, 14), (true, 15), (true, 16), (true, 17), (true, 18), (true, 19), (true, 20), (true, 21), (true, 22), (true, 23), (true, 24), (true, 25), (true, 26), (true, 27), (true, 28), (true, 29), (true, 30), (false, 31)] [(false, 32)] (fun V => Wx V z (.int .i64 0) (.int .i64 4) (.int .i64 4) (.int .i64 2) (.slice m31 8 n31) (.slice m32 8 n32) (.slice m33 2 n33) (.slice m34 3 n34) (.slice m35 0 n35)) (by kernel_rfl) (by kernel_rfl) (by kernel_rfl) (by decide +kernel) (by decide +kernel) XA3.out.drew ?_
    have X1 : Hid (Wx { s3 with drawn := s3.drawn + 1 } z (.int .i64 0) (.int .i64 4) (.int .i64 4) (.int .i64 2) (.slice m31 8 n31) (.slice m32 8 n32) (.slice m33 2 n33) (.slice m34 3 n34) (.slice m35 0 n35)) := XA3.out
    have R1 : Hid (Wx { s3 with drawn := s3.drawn + 1 } w.heap.size (.int .i64 0) (.int .i64 0) (.int .i64 0) (.int .i64 0) (.slice none 0 0) (.slice none 0 0) (.slice none 0 0) (.slice none 0 0) (.slice none 0 0)) := RA3.out
    have B1 : Hid (Below w.heap.size w { s3 with drawn := s3.drawn + 1 }) := BA3.out.drew
    have D1 : Hid (Below s3.heap.size s3 { s3 with drawn := s3.drawn + 1 }) := (Below.refl _ _).drew
    generalize ({ s3 with drawn := s3.drawn + 1 } : World) = v3 at *
    have O1 : Hid (Ow v3 (w.heap.size + 1) (.slice m31 8 n31) S3.gs ∧ Ow v3 (w.heap.size + 1) (.slice m32 8 n32) S3.os ∧ Ow v3 (w.heap.size + 1) (.slice m33 2 n33) S3.gold ∧ Uno v3 (w.heap.size + 1) (.slice m34 3 n34) S3.us ∧ Jbo v3 (w.heap.size + 1) (.slice m35 0 n35) S3.qs) := ⟨OA3.out.1.below D1.out, OA3.out.2.1.below D1.out, OA3.out.2.2.1.below D1.out, OA3.out.2.2.2.1.below D1.out, OA3.out.2.2.2.2.below D1.out⟩
    clear XA3 RA3 BA3 OA3 D1
    refine headT_read rfl (.agg #[.int .i64 0, .int .i64 4, .int .i64 4, .int .i64 2, .slice m31 8 n31, .slice m32 8 n32, .slice m33 2 n33, .slice m34 3 n34, .slice m35 0 n35]) (by go_simp) (fun V hV => by obtain ⟨x0, x1, x2, x3, x4, x5, x6, x7, x8⟩ := hV.cells; go_simp) ?_
    go_simp
    refine headT_read rfl (.nilIface) (by go_simp) (fun V hV => by go_simp) ?_
    go_simp
    refine headT_read rfl (.bool true) (by go_simp) (fun V hV => by go_simp) ?_
    go_simp
    refine headT_read rfl (.bool true) (by go_simp) (fun V hV => by go_simp) ?_
    go_simp
    refine headT_read rfl (.nilIface) (by go_simp) (fun V hV => by go_simp) ?_
    go_simp
    refine headT_read rfl (.bool true) (by go_simp) (fun V hV => by go_simp) ?_
    go_simp
    refine headT_read rfl (.bool true) (by go_simp) (fun V hV => by go_simp) ?_
    go_simp
    refine headT_read rfl (.bool true) (by go_simp) (fun V hV => by go_simp) ?_
    go_simp
    refine headT_read rfl (.nilIface) (by go_simp) (fun V hV => by go_simp) ?_
    go_simp
    refine headT_read rfl (.bool true) (by go_simp) (fun V hV => by go_simp) ?_
    go_simp
    refine headT_read rfl (.bool true) (by go_simp) (fun V hV => by go_simp) ?_
    go_simp
    refine headT_read rfl (.bool true) (by go_simp) (fun V hV => by go_simp) ?_
    go_simp
    refine headT_read rfl (.nilIface) (by go_simp) (fun V hV => by go_simp) ?_
    go_simp
    refine headT_read rfl (.bool true) (by go_simp) (fun V hV => by go_simp) ?_
    go_simp
    refine headT_read rfl (.bool true) (by go_simp) (fun V hV => by go_simp) ?_
    go_simp
    refine headT_read rfl (.bool true) (by go_simp) (fun V hV => by go_simp) ?_
    go_simp
    refine headT_read rfl (.nilIface) (by go_simp) (fun V hV => by go_simp) ?_
    go_simp
    refine headT_read rfl (.bool true) (by go_simp) (fun V hV => by go_simp) ?_
    go_simp
    refine headT_read rfl (.bool true) (by go_simp) (fun V hV => by go_simp) ?_
    go_simp
    refine headT_read rfl (.bool true) (by go_simp) (fun V hV => by go_simp) ?_
    go_simp
    refine headT_read rfl (.pointer (some ⟨z, 7, none⟩)) (by go_simp) (fun V hV => by go_simp) ?_
    go_simp
    refine headT_read rfl (.slice m34 3 n34) (by go_simp) (fun V hV => by obtain ⟨x0, x1, x2, x3, x4, x5, x6, x7, x8⟩ := hV.cells; go_simp) ?_
    go_simp
    refine headT_read rfl (.int .i64 3) (by go_simp) (fun V hV => by go_simp) ?_
    go_simp
    refine headT_read rfl (.bool true) (by go_simp) (fun V hV => by go_simp) ?_
    go_simp
    refine headT_read rfl (.bool true) (by go_simp) (fun V hV => by go_simp) ?_
    go_simp
    refine headT_read rfl (.bool true) (by go_simp) (fun V hV => by go_simp) ?_
    go_simp
    refine headT_read rfl (.pointer (some ⟨z, 6, none⟩)) (by go_simp) (fun V hV => by go_simp) ?_
    go_simp
    refine headT_read rfl (.slice m33 2 n33) (by go_simp) (fun V hV => by obtain ⟨x0, x1, x2, x3, x4, x5, x6, x7, x8⟩ := hV.cells; go_simp) ?_
    go_simp
    refine headT_read rfl (.int .i64 2) (by go_simp) (fun V hV => by go_simp) ?_
    go_simp
    refine headT_read rfl (.bool true) (by go_simp) (fun V hV => by go_simp) ?_
    go_simp
    refine headT_read rfl (.bool true) (by go_simp) (fun V hV => by go_simp) ?_
    go_simp
    have KW : Hid (Kp w.heap.size v3 (((((((((v3.setCell ⟨w.heap.size, 0, none⟩ (.int .i64 0)).setCell ⟨w.heap.size, 1, none⟩ (.int .i64 4)).setCell ⟨w.heap.size, 2, none⟩ (.int .i64 4)).setCell ⟨w.heap.size, 3, none⟩ (.int .i64 2)).setCell ⟨w.heap.size, 4, none⟩ (.slice m31 8 n31)).setCell ⟨w.heap.size, 5, none⟩ (.slice m32 8 n32)).setCell ⟨w.heap.size, 6, none⟩ (.slice m33 2 n33)).setCell ⟨w.heap.size, 7, none⟩ (.slice m34 3 n34)).setCell ⟨w.heap.size, 8, none⟩ (.slice m35 0 n35))) := put_kp _ _ _ _ _ _ _ _ _ _ _
    have XF : Hid (Wx (((((((((v3.setCell ⟨w.heap.size, 0, none⟩ (.int .i64 0)).setCell ⟨w.heap.size, 1, none⟩ (.int .i64 4)).setCell ⟨w.heap.size, 2, none⟩ (.int .i64 4)).setCell ⟨w.heap.size, 3, none⟩ (.int .i64 2)).setCell ⟨w.heap.size, 4, none⟩ (.slice m31 8 n31)).setCell ⟨w.heap.size, 5, none⟩ (.slice m32 8 n32)).setCell ⟨w.heap.size, 6, none⟩ (.slice m33 2 n33)).setCell ⟨w.heap.size, 7, none⟩ (.slice m34 3 n34)).setCell ⟨w.heap.size, 8, none⟩ (.slice m35 0 n35)) w.heap.size (.int .i64 0) (.int .i64 4) (.int .i64 4) (.int .i64 2) (.slice m31 8 n31) (.slice m32 8 n32) (.slice m33 2 n33) (.slice m34 3 n34) (.slice m35 0 n35)) := R1.out.put (.int .i64 0) (.int .i64 4) (.int .i64 4) (.int .i64 2) (.slice m31 8 n31) (.slice m32 8 n32) (.slice m33 2 n33) (.slice m34 3 n34) (.slice m35 0 n35)
    obtain ⟨x0, x1, x2, x3, x4, x5, x6, x7, x8⟩ := R1.out.cells
    obtain ⟨t0, t1, t2, t3, t4, t5, t6, t7, t8⟩ := R1.out.thaws
    refine headT_skip rfl (((((((((v3.setCell ⟨w.heap.size, 0, none⟩ (.int .i64 0)).setCell ⟨w.heap.size, 1, none⟩ (.int .i64 4)).setCell ⟨w.heap.size, 2, none⟩ (.int .i64 4)).setCell ⟨w.heap.size, 3, none⟩ (.int .i64 2)).setCell ⟨w.heap.size, 4, none⟩ (.slice m31 8 n31)).setCell ⟨w.heap.size, 5, none⟩ (.slice m32 8 n32)).setCell ⟨w.heap.size, 6, none⟩ (.slice m33 2 n33)).setCell ⟨w.heap.size, 7, none⟩ (.slice m34 3 n34)).setCell ⟨w.heap.size, 8, none⟩ (.slice m35 0 n35)) (by go_simp) (by go_simp) (X1.out.kp KW.out (Nat.ne_of_gt HZ.out)) ?_
    go_simp
    clear x0 x1 x2 x3 x4 x5 x6 x7 x8 t0 t1 t2 t3 t4 t5 t6 t7 t8
    generalize (((((((((v3.setCell ⟨w.heap.size, 0, none⟩ (.int .i64 0)).setCell ⟨w.heap.size, 1, none⟩ (.int .i64 4)).setCell ⟨w.heap.size, 2, none⟩ (.int .i64 4)).setCell ⟨w.heap.size, 3, none⟩ (.int .i64 2)).setCell ⟨w.heap.size, 4, none⟩ (.slice m31 8 n31)).setCell ⟨w.heap.size, 5, none⟩ (.slice m32 8 n32)).setCell ⟨w.heap.size, 6, none⟩ (.slice m33 2 n33)).setCell ⟨w.heap.size, 7, none⟩ (.slice m34 3 n34)).setCell ⟨w.heap.size, 8, none⟩ (.slice m35 0 n35)) = v4 at *
    unfold wpHeadT
    refine sched_value rfl (.bool true) v4 (by go_simp) (by go_simp) trivial ?_
    go_simp
    unfold wpSched
    obtain ⟨y0, y1, y2, y3, y4, y5, y6, y7, y8⟩ := XF.out.cells
    go_wp2
    refine bodyPost_ret (v := .tuple #[.agg #[.int .i64 0, .int .i64 4, .int .i64 4, .int .i64 2, .slice m31 8 n31, .slice m32 8 n32, .slice m33 2 n33, .slice m34 3 n34, .slice m35 0 n35], .bool true]) (by simp [results, Tryz.results24, go_sem, y0, y1, y2, y3, y4, y5, y6, y7, y8]) rfl ⟨_, rfl, ⟨_, _, _, _, _, rfl, Ow.mono (owns_kp O1.out.1 KW.out (by omega)) (by omega), Ow.mono (owns_kp O1.out.2.1 KW.out (by omega)) (by omega), Ow.mono (owns_kp O1.out.2.2.1 KW.out (by omega)) (by omega), Uno.mono (owns_kp O1.out.2.2.2.1 KW.out (by omega)) (by omega), Jbo.mono (owns_kp O1.out.2.2.2.2 KW.out (by omega)) (by omega)⟩, KW.out.below B1.out B1.out.size (Nat.le_refl _)⟩
end Go.Proofs.YthcndngdngjalaaGreatDoor

namespace Go.Proofs.YthcndngdngjalaaGreatDoor
open Go Go.RowKit
set_option linter.unusedVariables false

inductive TrT where
  | leaf : TrT
  | read : Nat → TrT → TrT
  | one : Nat → TrT → TrT
  | two : Nat → TrT → Nat → TrT → TrT
  | three : Nat → TrT → Nat → TrT → Nat → TrT → TrT
section
variable {P : Program} {ops : Array Oper} {md : Region.Mode} {C : World → Prop} {Q : Exit → Act → World → Prop}
def wpTr (P : Program) (ops : Array Oper) (C : World → Prop) (K : Act → World → Prop) : TrT → Act → World → Prop
  | .leaf, a, W => K a W
  | .read i t, a, W => ∃ o v, ops[i]? = some o ∧ YieldsS P ops C o v a ∧ wpTr P ops C K t (a.put o.dst v) W
  | .one i t, a, W => ∃ o, ops[i]? = some o ∧ StepS P ops C o (wpTr P ops C K t) a W
  | .two i t j u, a, W => (∃ o, ops[i]? = some o ∧ StepS P ops C o (wpTr P ops C K t) a W) ∧ (∃ o, ops[j]? = some o ∧ StepS P ops C o (wpTr P ops C K u) a W)
  | .three i t j u k v, a, W => (∃ o, ops[i]? = some o ∧ StepS P ops C o (wpTr P ops C K t) a W) ∧ (∃ o, ops[j]? = some o ∧ StepS P ops C o (wpTr P ops C K u) a W) ∧ (∃ o, ops[k]? = some o ∧ StepS P ops C o (wpTr P ops C K v) a W)
def trB (md : Region.Mode) (ops : Array Oper) (H0 : Array Bool) : Nat → TrT → Array Bool → Bool
  | 0, .leaf, listed => decide (listed = H0)
  | n + 1, .read i t, listed => (Region.ready md ops listed).contains i && (Region.free md ops listed i && ((waits md ops H0 i || decide (Region.ready md ops (H0.setIfInBounds i false) = [i])) && trB md ops H0 n t (listed.setIfInBounds i true)))
  | n + 1, .one i t, listed => (Region.ready md ops listed).contains i && ((Region.ready md ops listed).all (fun x => decide (x = i)) && trB md ops H0 n t (listed.setIfInBounds i true))
  | n + 1, .two i t j u, listed => (Region.ready md ops listed).contains i && ((Region.ready md ops listed).contains j && ((Region.ready md ops listed).all (fun x => decide (x = i) || decide (x = j)) && (trB md ops H0 n t (listed.setIfInBounds i true) && trB md ops H0 n u (listed.setIfInBounds j true))))
  | n + 1, .three i t j u k v, listed => (Region.ready md ops listed).contains i && ((Region.ready md ops listed).contains j && ((Region.ready md ops listed).contains k && ((Region.ready md ops listed).all (fun x => decide (x = i) || (decide (x = j) || decide (x = k))) && (trB md ops H0 n t (listed.setIfInBounds i true) && (trB md ops H0 n u (listed.setIfInBounds j true) && trB md ops H0 n v (listed.setIfInBounds k true))))))
  | _, _, _ => false
theorem wpAnyT_of_tr {K : Act → World → Prop} {H0 : Array Bool} (hsel : Region.noSelect ops = true) : ∀ (n : Nat) (t : TrT) (listed : Array Bool) (a : Act) (W : World), Clos md ops listed → trB md ops H0 n t listed = true → C W → wpTr P ops C K t a W → wpAnyT P md ops C (fun l a W => l = H0 ∧ K a W) n listed a W
  | 0, .leaf, listed, a, W, inv, hB, hC, h => by
    simp only [trB, decide_eq_true_eq] at hB
    exact ⟨hB, h⟩
  | n + 1, .read i t, listed, a, W, inv, hB, hC, h => by
    simp only [trB, Bool.and_eq_true, Bool.or_eq_true, decide_eq_true_eq] at hB
    obtain ⟨hr, hf, hH, hB⟩ := hB
    obtain ⟨o, v, ho, hy, hk⟩ := h
    have hr' : i ∈ Region.ready md ops listed := by simpa using hr
    exact wpAnyT_first ho (Region.noSelect_spec hsel) hH (fun _ _ _ h => h.1) n listed a W inv (Region.free_spec ho hf) hr' hy hC (wpAnyT_of_tr hsel n t _ _ _ (inv.set hr') hB hC hk)
  | n + 1, .one i t, listed, a, W, inv, hB, hC, h => by
    simp only [trB, Bool.and_eq_true] at hB
    obtain ⟨hr, hall, hB⟩ := hB
    have hr' : i ∈ Region.ready md ops listed := by simpa using hr
    obtain ⟨o, ho, hs⟩ := h
    refine ⟨fun h => (by rw [h] at hr'; cases hr'), fun x hx => ?_⟩
    have hx' := List.all_eq_true.1 hall x hx
    simp only [decide_eq_true_eq] at hx'
    subst hx'
    exact ⟨o, ho, hs.mono fun a' W' hC' hk => wpAnyT_of_tr hsel n t _ _ _ (inv.set hr') hB hC' hk⟩
  | n + 1, .two i t j u, listed, a, W, inv, hB, hC, h => by
    simp only [trB, Bool.and_eq_true] at hB
    obtain ⟨hi, hj, hall, hB1, hB2⟩ := hB
    have hi' : i ∈ Region.ready md ops listed := by simpa using hi
    have hj' : j ∈ Region.ready md ops listed := by simpa using hj
    obtain ⟨⟨o, ho, hs⟩, ⟨o2, ho2, hs2⟩⟩ := h
    refine ⟨fun h => (by rw [h] at hi'; cases hi'), fun x hx => ?_⟩
    have hx' := List.all_eq_true.1 hall x hx
    simp only [Bool.or_eq_true, decide_eq_true_eq] at hx'
    rcases hx' with e | e
    · subst e; exact ⟨o, ho, hs.mono fun a' W' hC' hk => wpAnyT_of_tr hsel n t _ _ _ (inv.set hi') hB1 hC' hk⟩
    · subst e; exact ⟨o2, ho2, hs2.mono fun a' W' hC' hk => wpAnyT_of_tr hsel n u _ _ _ (inv.set hj') hB2 hC' hk⟩
  | n + 1, .three i t j u k v, listed, a, W, inv, hB, hC, h => by
    simp only [trB, Bool.and_eq_true] at hB
    obtain ⟨hi, hj, hk, hall, hB1, hB2, hB3⟩ := hB
    have hi' : i ∈ Region.ready md ops listed := by simpa using hi
    have hj' : j ∈ Region.ready md ops listed := by simpa using hj
    have hk' : k ∈ Region.ready md ops listed := by simpa using hk
    obtain ⟨⟨o, ho, hs⟩, ⟨o2, ho2, hs2⟩, ⟨o3, ho3, hs3⟩⟩ := h
    refine ⟨fun h => (by rw [h] at hi'; cases hi'), fun x hx => ?_⟩
    have hx' := List.all_eq_true.1 hall x hx
    simp only [Bool.or_eq_true, decide_eq_true_eq] at hx'
    rcases hx' with e | e | e
    · subst e; exact ⟨o, ho, hs.mono fun a' W' hC' hk => wpAnyT_of_tr hsel n t _ _ _ (inv.set hi') hB1 hC' hk⟩
    · subst e; exact ⟨o2, ho2, hs2.mono fun a' W' hC' hk => wpAnyT_of_tr hsel n u _ _ _ (inv.set hj') hB2 hC' hk⟩
    · subst e; exact ⟨o3, ho3, hs3.mono fun a' W' hC' hk => wpAnyT_of_tr hsel n v _ _ _ (inv.set hk') hB3 hC' hk⟩
  | 0, .read _ _, _, _, _, _, hB, _, _ => by simp [trB] at hB
  | 0, .one _ _, _, _, _, _, hB, _, _ => by simp [trB] at hB
  | 0, .two _ _ _ _, _, _, _, _, hB, _, _ => by simp [trB] at hB
  | 0, .three _ _ _ _ _ _, _, _, _, _, hB, _, _ => by simp [trB] at hB
  | _ + 1, .leaf, _, _, _, _, hB, _, _ => by simp [trB] at hB
/-- the region: along the tree, in the worlds C; then its tail. s: what the tree holds, in any order. -/
theorem wp_region_tree {id : Nat} {a : Act} {w : World} (T : TrT) (s t : List (Bool × Nat)) (C : World → Prop) (hm : P.follows .mixedOrders = true) (hs : Region.noSelect ops = true) (hl : s.length + t.length = ops.size)
    (hB : trB .any ops (listedBy ops.size s) s.length T (Array.replicate ops.size false) = true)
    (hT : schedB .any ops t (listedBy ops.size s) = true)
    (hC : C { w with drawn := w.drawn + 1 }) (h : wpTr P ops C (wpSched P ops (fun _ => True) Q t) T a { w with drawn := w.drawn + 1 }) : (Code.region id ops true).wp P Q a w := by
  refine wp_region_any hm ?_
  rw [← hl]
  refine wpAny_of_T (g := t.length) (fun listed a W hh => ?_) _ _ _ _ (wpAnyT_of_tr (H0 := listedBy ops.size s) hs s.length T _ a _ (fun j oj _ hj => by rw [getD_replicate_false] at hj; cases hj) (by rw [hl]; exact hB) hC h)
  obtain ⟨rfl, hk⟩ := hh
  exact wpAny_of_S _ _ _ _ (wpAnyS_of_sched hs t _ a W hT trivial hk)
theorem tr_read {K : Act → World → Prop} {i : Nat} {t : TrT} {o : Oper} {a : Act} {W : World} (ho : ops[i]? = some o) (v : Value) (hw : Region.wanted o (yielded ops a.tmps) = true) (hr : ∀ W, C W → (execOp a.eval o).run P W = .ok (.value v) W) (h : wpTr P ops C K t (a.put o.dst v) W) : wpTr P ops C K (.read i t) a W :=
  ⟨o, v, ho, ⟨hw, hr⟩, h⟩
theorem tr_one {K : Act → World → Prop} {i : Nat} {t : TrT} {a : Act} {W : World} (h : ∃ o, ops[i]? = some o ∧ StepS P ops C o (wpTr P ops C K t) a W) : wpTr P ops C K (.one i t) a W := h
theorem tr_two {K : Act → World → Prop} {i j : Nat} {t u : TrT} {a : Act} {W : World} (h : ∃ o, ops[i]? = some o ∧ StepS P ops C o (wpTr P ops C K t) a W) (h2 : ∃ o, ops[j]? = some o ∧ StepS P ops C o (wpTr P ops C K u) a W) : wpTr P ops C K (.two i t j u) a W := ⟨h, h2⟩
theorem tr_three {K : Act → World → Prop} {i j k : Nat} {t u v : TrT} {a : Act} {W : World} (h : ∃ o, ops[i]? = some o ∧ StepS P ops C o (wpTr P ops C K t) a W) (h2 : ∃ o, ops[j]? = some o ∧ StepS P ops C o (wpTr P ops C K u) a W) (h3 : ∃ o, ops[k]? = some o ∧ StepS P ops C o (wpTr P ops C K v) a W) : wpTr P ops C K (.three i t j u k v) a W := ⟨h, h2, h3⟩
theorem st_call {K : Act → World → Prop} {i : Nat} {o : Oper} {a : Act} {W : World} (ho : ops[i]? = some o) (f : FuncId) (args : Array Value) (hw : Region.wanted o (yielded ops a.tmps) = true) (hr : (execOp a.eval o).run P W = .ok (.enter f args) W)
    (hc : Calls P f args W (fun e w' => ∃ v, e = .returned v ∧ C w' ∧ K (a.put o.dst v) w')) : ∃ o, ops[i]? = some o ∧ StepS P ops C o K a W :=
  ⟨o, ho, hw, .inr (.inr ⟨f, args, hr, hc⟩)⟩
theorem st_value {K : Act → World → Prop} {i : Nat} {o : Oper} {a : Act} {W : World} (ho : ops[i]? = some o) (v : Value) (W' : World) (hw : Region.wanted o (yielded ops a.tmps) = true) (hr : (execOp a.eval o).run P W = .ok (.value v) W') (hC : C W') (h : K (a.put o.dst v) W') : ∃ o, ops[i]? = some o ∧ StepS P ops C o K a W :=
  ⟨o, ho, hw, .inl ⟨v, W', hr, hC, h⟩⟩
theorem st_skip {K : Act → World → Prop} {i : Nat} {o : Oper} {a : Act} {W : World} (ho : ops[i]? = some o) (W' : World) (hw : Region.wanted o (yielded ops a.tmps) = true) (hr : (execOp a.eval o).run P W = .ok .skip W') (hC : C W') (h : K (a.put o.dst undef) W') : ∃ o, ops[i]? = some o ∧ StepS P ops C o K a W :=
  ⟨o, ho, hw, .inr (.inl ⟨W', hr, hC, h⟩)⟩
end
end Go.Proofs.YthcndngdngjalaaGreatDoor

namespace Go.Proofs.YthcndngdngjalaaGreatDoor
open Go.RowKit Go.Proofs.YthcndngdngjalaaGreatDoor.So
set_option linter.unusedVariables false

/-- in block z there is the world Q. -/
def Wb (V : World) (z : Nat) (Q : WV) : Prop := ∃ g1 l1 g2 l2 g3 l3 g4 l4 g5 l5, Bw V z Q (.slice g1 Q.gs.length l1) (.slice g2 Q.os.length l2) (.slice g3 Q.gold.length l3) (.slice g4 Q.us.length l4) (.slice g5 Q.qs.length l5) ∧ Wl V (.agg #[.int .i64 Q.turn, .int .i64 Q.next, .int .i64 Q.wide, .int .i64 Q.high, .slice g1 Q.gs.length l1, .slice g2 Q.os.length l2, .slice g3 Q.gold.length l3, .slice g4 Q.us.length l4, .slice g5 Q.qs.length l5]) Q
theorem Wb.below {W V : World} {z : Nat} {Q : WV} (h : Wb W z Q) (hb : Below W.heap.size W V) : Wb V z Q := by
  obtain ⟨g1, l1, g2, l2, g3, l3, g4, l4, g5, l5, h1, h2⟩ := h
  exact ⟨g1, l1, g2, l2, g3, l3, g4, l4, g5, l5, h1.below hb h1.lt, h2.below hb⟩
theorem Wb.lt {W : World} {z : Nat} {Q : WV} (h : Wb W z Q) : z < W.heap.size := by
  obtain ⟨g1, l1, g2, l2, g3, l3, g4, l4, g5, l5, h1, h2⟩ := h
  exact h1.lt
theorem er_nil0 {r : Value} (h : Er r 0) : r = .nilIface := by
  rcases h with ⟨-, h⟩ | ⟨h, -⟩
  · exact h
  · exact absurd rfl h
theorem tp_all {ks : List KV} {X : WV} {ls : List (List OrV)} {F : Int} {w w' : World} {v r : Value} (hs : PlaySays ks X ls F w w' v) (he : Er r F) (h0 : r = .nilIface) : Wd.wfault ks X = 0 ∧ ls.length ≤ 200 ∧ ∃ Y, PlayR ks X ls ls.length Y ∧ Wo w' w.heap.size v Y := by
  rcases hs with ⟨hn, -⟩ | ⟨-, h1, h2, h3⟩
  · rcases he with ⟨h, -⟩ | ⟨-, h⟩
    · exact absurd h hn
    · rw [h] at h0; cases h0
  · exact ⟨h1, h2, h3⟩
theorem tp_front {ks : List KV} {X : WV} {ls : List (List OrV)} {Y : WV} (hw : Wd.wfault ks X = 0) (hl : ls.length ≤ 200) (h : PlayR ks X ls ls.length Y) {c : Nat} (hc : c ≤ ls.length) {F : Int} {w w' : World} {v r : Value} (hs : PlaySays ks X (ls.take c) F w w' v) (he : Er r F) : r = .nilIface ∧ ∃ A, PlayR ks X ls c A ∧ Wo w' w.heap.size v A := by
  have hlen : (ls.take c).length = c := by rw [List.length_take]; omega
  rcases hs with ⟨hn, -, h1 | h1 | ⟨-, -, n, Z, l, p, hl', hf⟩⟩ | ⟨rfl, h1, h2, A, h3, h4⟩
  · exact absurd hw h1.1
  · have := h1.2.1; rw [hlen] at this; omega
  · exact absurd ((parts_front h hc p hl').symm.trans hf).symm hn
  · refine ⟨er_nil0 he, A, ?_, h4⟩
    rw [hlen] at h3
    exact play_like h3 (fun i hi => by rw [List.getElem?_take, if_pos hi])
theorem tp_back {ks : List KV} {X A : WV} {ls : List (List OrV)} {Y : WV} (hw : Wd.wfault ks X = 0) (hl : ls.length ≤ 200) (h : PlayR ks X ls ls.length Y) {c : Nat} (hc : c ≤ ls.length) (ha : PlayR ks X ls c A) {F : Int} {w w' : World} {v r : Value} (hs : PlaySays ks A (ls.drop c) F w w' v) (he : Er r F) : r = .nilIface ∧ Wo w' w.heap.size v Y := by
  have hlen : (ls.drop c).length = ls.length - c := by rw [List.length_drop]
  rcases hs with ⟨hn, -, h1 | h1 | ⟨-, -, n, Z, l, p, hl', hf⟩⟩ | ⟨rfl, h1, h2, B, h3, h4⟩
  · exact absurd (play_right hw ha).1 h1.1
  · have := h1.2.1; rw [hlen] at this; omega
  · exact absurd ((parts_back h hc ha p hl').symm.trans hf).symm hn
  · refine ⟨er_nil0 he, ?_⟩
    rw [hlen] at h3
    have := play_join ha h3
    rw [show c + (ls.length - c) = ls.length by omega] at this
    rw [play_uniq h this]
    exact h4
theorem tp_step {ks : List KV} {X : WV} {ls : List (List OrV)} {Y : WV} (h : PlayR ks X ls ls.length Y) {l : List OrV} (hl : ls[0]? = some l) {w w' : World} {v ev r : Value} (hs : StepSays ks X l w w' v ev) (he : Er r (stepFault ks X l)) : r = .nilIface ∧ ∃ A, PlayR ks X ls 1 A ∧ Wo w' w.heap.size v A := by
  have h0 : 0 < ls.length := (List.getElem?_eq_some_iff.1 hl).1
  obtain ⟨Z, z1, z2⟩ := play_back h 0 (by omega)
  cases z1
  obtain ⟨l', e, f⟩ := z2 h0
  rw [hl] at e
  injection e with e
  subst e
  rcases hs with ⟨hn, -⟩ | ⟨-, A, es, h1, h2, -⟩
  · exact absurd f hn
  · rw [f] at he
    exact ⟨er_nil0 he, A, .turn .zero hl f h1, h2⟩
theorem s3_ok : Wd.wfault SK S3 = 0 := by decide +kernel
theorem tp_fact {F : Int} {w w' : World} {v r : Value} (hs : PlaySays SK S3 [[], []] F w w' v) (he : Er r F) : r = .nilIface ∧ ∃ A, A.turn = 2 ∧ Wo w' w.heap.size v A := by
  rcases hs with ⟨hn, -, h1 | h1 | ⟨-, -, n, Z, l, p, hl', hf⟩⟩ | ⟨rfl, h1, h2, B, h3, h4⟩
  · exact absurd s3_ok h1.1
  · have := h1.2.1; simp at this
  · obtain ⟨q1, q2⟩ := play_right s3_ok p
    have hn2 : n < 2 := (List.getElem?_eq_some_iff.1 hl').1
    have hl0 : l = [] := by
      match n, hn2, hl' with
      | 0, _, h => simp at h; exact h
      | 1, _, h => simp at h; exact h
    subst hl0
    have ht : S3.turn = 0 := rfl
    rw [ht] at q2
    exact absurd ((rest_fault q1 (by omega)).symm.trans hf).symm hn
  · refine ⟨er_nil0 he, B, ?_, h4⟩
    obtain ⟨-, q2⟩ := play_right s3_ok h3
    have ht : S3.turn = 0 := rfl
    rw [ht] at q2
    rw [q2]
    rfl
theorem oll_lit (w : World) : Oll (w.alloc (Obj.cells #[.slice none 0 0, .slice none 0 0] 48)) (.slice (some ⟨w.heap.size, 0, none⟩) 2 2) [[], []] := by
  have hn := heap_alloc_new w (Obj.cells #[.slice none 0 0, .slice none 0 0] 48)
  have ol : ∀ W, Orl W (.slice none 0 0) [] := fun W => ⟨none, 0, rfl, Nat.le_refl _, by omega, fun h => absurd rfl h⟩
  refine ⟨_, _, rfl, by decide, by decide, fun _ => ⟨⟨w.heap.size, 0, none⟩, rfl, by simp, fun i l hl => ?_⟩⟩
  match i, hl with
  | 0, hl => simp at hl; subst hl; exact ⟨_, by simp only [World.cell?, Addr.add_lit, hn]; rfl, ol _⟩
  | 1, hl => simp at hl; subst hl; exact ⟨_, by simp only [World.cell?, Addr.add_lit, hn]; rfl, ol _⟩
  | i + 2, hl => simp at hl
end Go.Proofs.YthcndngdngjalaaGreatDoor

namespace Go.Proofs.YthcndngdngjalaaGreatDoor
open Go.RowKit

set_option maxHeartbeats 400000 in
theorem ints_any (u v : Value) (xs ys : List Int) (w : World) (hu : Ro w u xs) (hv : Ro w v ys) :
    Calls Tryz.prog 31 #[u, v] w fun e w' => e = .returned (.bool (decide (xs = ys))) ∧ ∃ n, w' = w.drewN n := by
  obtain ⟨a, c, rfl, hc1, hc2, ha⟩ := hu
  obtain ⟨b, d, rfl, hd1, hd2, hb⟩ := hv
  have Ha : Hid (Cells w a xs) := ha
  have Hb : Hid (Cells w b ys) := hb
  clear ha hb
  by_cases hl : xs.length = ys.length
  · have Hl : Hid (xs.length = ys.length) := hl
    rw [← hl] at hd1 ⊢
    clear hl
    go_enter Tryz.func31, Tryz.ntmps31
    go_wp2_with fail
    go_loopw [5] (fun i W => ∃ (k q : Nat), k ≤ xs.length ∧ i = .int .i64 (k : Nat) ∧ xs.take k = ys.take k ∧ W = w.drewN q) (fun i _ => xs.length - (intOf i).toNat)
    case atStart => exact ⟨0, 0, Nat.zero_le _, rfl, by simp, rfl⟩
    case round =>
      obtain ⟨k, q, hk, rfl, ht, rfl⟩ := hrel
      have Ht : Hid (xs.take k = ys.take k) := ht
      clear ht
      by_cases h0 : k = xs.length
      · subst h0
        go_wp2
        go_ret
        refine ⟨?_, q, rfl⟩
        have e := Ht.out
        rw [List.take_of_length_le (Nat.le_refl _), Hl.out, List.take_of_length_le (Nat.le_refl _)] at e
        simp [e]
      · have hkx : k < xs.length := by omega
        have hky : k < ys.length := by rw [← Hl.out]; exact hkx
        obtain ⟨x, rfl, -, hx⟩ := Ha.out (by intro h; rw [h] at hkx; simp at hkx)
        obtain ⟨y, rfl, -, hy⟩ := Hb.out (by intro h; rw [h] at hky; simp at hky)
        have cx := hx k xs[k] (List.getElem?_eq_getElem hkx)
        have cy := hy k ys[k] (List.getElem?_eq_getElem hky)
        have Te : Hid (xs.take (k + 1) = ys.take (k + 1) ↔ xs[k] = ys[k]) := by
          unfold Hid
          rw [List.take_succ_eq_append_getElem hkx, List.take_succ_eq_append_getElem hky, Ht.out]
          exact ⟨fun h => (List.cons.inj (List.append_cancel_left h)).1, fun h => by rw [h]⟩
        generalize xs[k] = p at *
        generalize ys[k] = r at *
        clear hx hy
        by_cases hpr : p = r
        · subst hpr
          go_wp2
          go_quiet (fail)
          go_wp2
          go_round
          case rel => exact ⟨k + 1, q + nq, by omega, by go_num, by first | exact Te.out.2 rfl | exact Te.out.2 trivial, rfl⟩
          case measure => simp [intOf]; omega
        · go_wp2
          go_quiet (fail)
          go_wp2
          go_ret
          refine ⟨?_, q + nq, by rw [World.drewN_drewN]⟩
          have : xs ≠ ys := fun h => hpr (Te.out.1 (by rw [h]))
          simp [this]
  · go_enter Tryz.func31, Tryz.ntmps31
    go_wp2
    go_ret
    refine ⟨?_, 0, rfl⟩
    have : xs ≠ ys := fun h => hl (by rw [h])
    simp [this]
end Go.Proofs.YthcndngdngjalaaGreatDoor

namespace Go.Proofs.YthcndngdngjalaaGreatDoor
open Go.RowKit
set_option linter.unusedVariables false

set_option maxHeartbeats 1000000 in
theorem same_field (u v : Value) (W H : Int) (gs os : List Int) (w : World) (hu : Fl w u W H gs os) (hv : Fl w v W H gs os) :
    Calls Tryz.prog 44 #[u, v] w fun e w' => e = .returned (.bool true) ∧ Below w.heap.size w w' := by
  obtain ⟨a1, a2, rfl, ha1, ha2⟩ := hu
  obtain ⟨b1, b2, rfl, hb1, hb2⟩ := hv
  have A1 : Hid (Ro w a1 gs) := ha1
  have A2 : Hid (Ro w a2 os) := ha2
  have B1 : Hid (Ro w b1 gs) := hb1
  have B2 : Hid (Ro w b2 os) := hb2
  clear ha1 ha2 hb1 hb2
  go_enter Tryz.func44, Tryz.ntmps44
  go_wp2_with fail
  have K0 : Below w.heap.size w ((w.alloc (Obj.cells #[.int .i64 W, .int .i64 H, a1, a2] 25)).alloc (Obj.cells #[.int .i64 W, .int .i64 H, b1, b2] 25)) := ((Below.refl _ _).alloc (Nat.le_refl _) _).alloc (by simp) _
  have X0 := (Bf.mk' (w := w) W H a1 a2 rfl).below ((Below.refl _ _).alloc (Nat.le_refl _) (Obj.cells #[.int .i64 W, .int .i64 H, b1, b2] 25)) (by simp)
  have Y0 := Bf.mk' (w := w.alloc (Obj.cells #[.int .i64 W, .int .i64 H, a1, a2] 25)) (z := w.heap.size + 1) W H b1 b2 (by simp)
  generalize (w.alloc (Obj.cells #[.int .i64 W, .int .i64 H, a1, a2] 25)).alloc (Obj.cells #[.int .i64 W, .int .i64 H, b1, b2] 25) = w0 at *
  refine (ints_any _ _ gs gs _ (A1.out.below K0) (B1.out.below K0)).mono ?_
  rintro e w1 ⟨rfl, q1, hq1⟩
  rw [decide_eq_true rfl]
  have k1 : Below w0.heap.size w0 w1 := by rw [hq1]; exact _root_.Go.below_drewN (Below.refl _ _) _
  have K1 : Below w.heap.size w w1 := K0.trans (k1.mono K0.size)
  have X1 : Hid (Bf w1 w.heap.size W H a1 a2) := X0.below k1 X0.lt
  have Y1 : Hid (Bf w1 (w.heap.size + 1) W H b1 b2) := Y0.below k1 Y0.lt
  clear hq1 k1 X0 Y0 K0
  obtain ⟨x0, x1, x2, x3⟩ := X1.out
  obtain ⟨y0, y1, y2, y3⟩ := Y1.out
  have K1' : Hid (Below w.heap.size w w1) := K1
  clear K1
  go_wp2_with fail
  refine (ints_any _ _ os os _ (A2.out.below K1'.out) (B2.out.below K1'.out)).mono ?_
  rintro e w2 ⟨rfl, q2, hq2⟩
  rw [decide_eq_true rfl]
  have k2 : Below w1.heap.size w1 w2 := by rw [hq2]; exact _root_.Go.below_drewN (Below.refl _ _) _
  have K2 : Hid (Below w.heap.size w w2) := K1'.out.trans (k2.mono K1'.out.size)
  have X2 : Hid (Bf w2 w.heap.size W H a1 a2) := X1.out.below k2 X1.out.lt
  have Y2 : Hid (Bf w2 (w.heap.size + 1) W H b1 b2) := Y1.out.below k2 Y1.out.lt
  clear hq2 k2 x0 x1 x2 x3 y0 y1 y2 y3 X1 Y1 K1'
  obtain ⟨x0, x1, x2, x3⟩ := X2.out
  obtain ⟨y0, y1, y2, y3⟩ := Y2.out
  go_wp2
  go_ret
  exact ⟨rfl, K2⟩
end Go.Proofs.YthcndngdngjalaaGreatDoor

namespace Go.Proofs.YthcndngdngjalaaGreatDoor
open Go.RowKit
set_option linter.unusedVariables false

theorem ints_like (u v : Value) (xs : List Int) (w : World) (hu : Ro w u xs) (hv : Ro w v xs) :
    Calls Tryz.prog 31 #[u, v] w fun e w' => e = .returned (.bool true) ∧ Below w.heap.size w w' :=
  (ints_any u v xs xs w hu hv).mono fun e w' ⟨h1, q, h2⟩ => ⟨by rw [h1, decide_eq_true rfl], by rw [h2]; exact _root_.Go.below_drewN (Below.refl _ _) _⟩
set_option maxRecDepth 100000 in
set_option maxHeartbeats 4000000 in
theorem worlds_like (u v : Value) (W : WV) (w : World) (hu : Wl w u W) (hv : Wl w v W) :
    Calls Tryz.prog 14 #[u, v] w fun e w' => e = .returned (.bool true) ∧ Below w.heap.size w w' := by
  obtain ⟨u1, u2, u3, u4, u5, rfl, g1, g2, g3, g4, g5⟩ := hu
  obtain ⟨v1, v2, v3, v4, v5, rfl, k1, k2, k3, k4, k5⟩ := hv
  obtain ⟨a4, c4, rfl, gl4, gc4, ga4⟩ := g4
  obtain ⟨b4, d4, rfl, kl4, kc4, ka4⟩ := k4
  obtain ⟨a5, c5, rfl, gl5, gc5, ga5⟩ := g5
  obtain ⟨b5, d5, rfl, kl5, kc5, ka5⟩ := k5
  have R : Hid (Ro w u1 W.gs ∧ Ro w u2 W.os ∧ Ro w u3 W.gold ∧ Ro w v1 W.gs ∧ Ro w v2 W.os ∧ Ro w v3 W.gold) := ⟨g1, g2, g3, k1, k2, k3⟩
  have GU : Hid (W.us ≠ [] → ∃ x, a4 = some x ∧ x.block < w.heap.size ∧ ∀ (i : Nat) k, W.us[i]? = some k → Unc w (x.add (i * 8)) k) := ga4
  have KU : Hid (W.us ≠ [] → ∃ x, b4 = some x ∧ x.block < w.heap.size ∧ ∀ (i : Nat) k, W.us[i]? = some k → Unc w (x.add (i * 8)) k) := ka4
  have GJ : Hid (W.qs ≠ [] → ∃ x, a5 = some x ∧ x.block < w.heap.size ∧ ∀ (i : Nat) k, W.qs[i]? = some k → Jbc w (x.add (i * 4)) k) := ga5
  have KJ : Hid (W.qs ≠ [] → ∃ x, b5 = some x ∧ x.block < w.heap.size ∧ ∀ (i : Nat) k, W.qs[i]? = some k → Jbc w (x.add (i * 4)) k) := ka5
  have hul : W.us.length ≤ 9223372036854775807 := by omega
  have hql : W.qs.length ≤ 9223372036854775807 := by omega
  clear g1 g2 g3 k1 k2 k3 ga4 ka4 ga5 ka5 gl4 gc4 kl4 kc4 gl5 gc5 kl5 kc5
  go_enter Tryz.func14, Tryz.ntmps14
  go_wp2_with fail
  have K0 : Below w.heap.size w ((w.alloc (Obj.cells #[.int .i64 W.turn, .int .i64 W.next, .int .i64 W.wide, .int .i64 W.high, u1, u2, u3, .slice a4 W.us.length c4, .slice a5 W.qs.length c5] 29)).alloc (Obj.cells #[.int .i64 W.turn, .int .i64 W.next, .int .i64 W.wide, .int .i64 W.high, v1, v2, v3, .slice b4 W.us.length d4, .slice b5 W.qs.length d5] 29)) := ((Below.refl _ _).alloc (Nat.le_refl _) _).alloc (by simp) _
  have X0 := (Bw.mk' (w := w) W u1 u2 u3 (.slice a4 W.us.length c4) (.slice a5 W.qs.length c5) rfl).below ((Below.refl _ _).alloc (Nat.le_refl _) (Obj.cells #[.int .i64 W.turn, .int .i64 W.next, .int .i64 W.wide, .int .i64 W.high, v1, v2, v3, .slice b4 W.us.length d4, .slice b5 W.qs.length d5] 29)) (by simp)
  have Y0 := Bw.mk' (w := w.alloc (Obj.cells #[.int .i64 W.turn, .int .i64 W.next, .int .i64 W.wide, .int .i64 W.high, u1, u2, u3, .slice a4 W.us.length c4, .slice a5 W.qs.length c5] 29)) (z := w.heap.size + 1) W v1 v2 v3 (.slice b4 W.us.length d4) (.slice b5 W.qs.length d5) (by simp)
  generalize ((w.alloc (Obj.cells #[.int .i64 W.turn, .int .i64 W.next, .int .i64 W.wide, .int .i64 W.high, u1, u2, u3, .slice a4 W.us.length c4, .slice a5 W.qs.length c5] 29)).alloc (Obj.cells #[.int .i64 W.turn, .int .i64 W.next, .int .i64 W.wide, .int .i64 W.high, v1, v2, v3, .slice b4 W.us.length d4, .slice b5 W.qs.length d5] 29)) = w0 at *
  refine (same_field _ _ W.wide W.high W.gs W.os w0 ⟨_, _, rfl, R.out.1.below K0, R.out.2.1.below K0⟩ ⟨_, _, rfl, R.out.2.2.2.1.below K0, R.out.2.2.2.2.1.below K0⟩).mono ?_
  rintro e w1 ⟨rfl, hb1⟩
  have K1 : Hid (Below w.heap.size w w1) := K0.trans (hb1.mono K0.size)
  have X1 : Hid (Bw w1 w.heap.size W u1 u2 u3 (.slice a4 W.us.length c4) (.slice a5 W.qs.length c5)) := X0.below hb1 X0.lt
  have Y1 : Hid (Bw w1 (w.heap.size + 1) W v1 v2 v3 (.slice b4 W.us.length d4) (.slice b5 W.qs.length d5)) := Y0.below hb1 Y0.lt
  clear K0 X0 Y0 hb1
  obtain ⟨x0, x1, x2, x3, x4, x5, x6, x7, x8⟩ := X1.out
  obtain ⟨y0, y1, y2, y3, y4, y5, y6, y7, y8⟩ := Y1.out
  go_wp2_with fail
  refine (ints_like _ _ W.gold w1 (R.out.2.2.1.below K1.out) (R.out.2.2.2.2.2.below K1.out)).mono ?_
  rintro e w2 ⟨rfl, hb2⟩
  have K2' : Hid (Below w.heap.size w w2) := K1.out.trans (hb2.mono K1.out.size)
  have X2 : Hid (Bw w2 w.heap.size W u1 u2 u3 (.slice a4 W.us.length c4) (.slice a5 W.qs.length c5)) := X1.out.below hb2 X1.out.lt
  have Y2 : Hid (Bw w2 (w.heap.size + 1) W v1 v2 v3 (.slice b4 W.us.length d4) (.slice b5 W.qs.length d5)) := Y1.out.below hb2 Y1.out.lt
  clear hb2 x0 x1 x2 x3 x4 x5 x6 x7 x8 y0 y1 y2 y3 y4 y5 y6 y7 y8 X1 Y1 K1
  obtain ⟨x0, x1, x2, x3, x4, x5, x6, x7, x8⟩ := X2.out
  obtain ⟨y0, y1, y2, y3, y4, y5, y6, y7, y8⟩ := Y2.out
  go_wp2
  clear x0 x1 x2 x3 x4 x5 x6 x7 x8 y0 y1 y2 y3 y4 y5 y6 y7 y8
  go_loopw [7] (fun i W' => ∃ k : Nat, k ≤ W.us.length ∧ i = .int .i64 (k : Nat) ∧ Bw W' w.heap.size W u1 u2 u3 (.slice a4 W.us.length c4) (.slice a5 W.qs.length c5) ∧ Bw W' (w.heap.size + 1) W v1 v2 v3 (.slice b4 W.us.length d4) (.slice b5 W.qs.length d5) ∧ Below w.heap.size w W') (fun i _ => W.us.length - (intOf i).toNat)
  case atStart => exact ⟨0, Nat.zero_le _, rfl, X2.out, Y2.out, K2'.out⟩
  case round =>
    obtain ⟨k, hk, rfl, hX, hY, hB⟩ := hrel
    have XB : Hid (Bw wr w.heap.size W u1 u2 u3 (.slice a4 W.us.length c4) (.slice a5 W.qs.length c5)) := hX
    have YB : Hid (Bw wr (w.heap.size + 1) W v1 v2 v3 (.slice b4 W.us.length d4) (.slice b5 W.qs.length d5)) := hY
    have B : Hid (Below w.heap.size w wr) := hB
    clear hX hY hB X2 Y2 K2'
    by_cases h0 : k = W.us.length
    · subst h0
      have x7 := XB.out.c7
      clear hk
      go_wp2
      clear x7
      go_loopw [8] (fun i W' => ∃ k : Nat, k ≤ W.qs.length ∧ i = .int .i64 (k : Nat) ∧ Bw W' w.heap.size W u1 u2 u3 (.slice a4 W.us.length c4) (.slice a5 W.qs.length c5) ∧ Bw W' (w.heap.size + 1) W v1 v2 v3 (.slice b4 W.us.length d4) (.slice b5 W.qs.length d5) ∧ Below w.heap.size w W') (fun i _ => W.qs.length - (intOf i).toNat)
      case atStart => exact ⟨0, Nat.zero_le _, rfl, XB.out, YB.out, B.out⟩
      case round =>
        obtain ⟨k, hk, rfl, hX, hY, hB⟩ := hrel
        have XB : Hid (Bw wr w.heap.size W u1 u2 u3 (.slice a4 W.us.length c4) (.slice a5 W.qs.length c5)) := hX
        have YB : Hid (Bw wr (w.heap.size + 1) W v1 v2 v3 (.slice b4 W.us.length d4) (.slice b5 W.qs.length d5)) := hY
        have B : Hid (Below w.heap.size w wr) := hB
        clear hX hY hB
        by_cases h0 : k = W.qs.length
        · subst h0
          have x8 := XB.out.c8
          clear hk
          go_wp2
          go_ret
          exact ⟨rfl, B.out⟩
        · have hlt : k < W.qs.length := by omega
          have hlti : ((k : Nat) : Int) < (W.qs.length : Nat) := by omega
          obtain ⟨o, ho⟩ : ∃ o, W.qs[k]? = some o := ⟨_, List.getElem?_eq_getElem hlt⟩
          have hne : W.qs ≠ [] := by intro e; rw [e] at hlt; simp at hlt
          obtain ⟨x, rfl, hx, hxc⟩ := GJ.out hne
          obtain ⟨y, rfl, hy, hyc⟩ := KJ.out hne
          obtain ⟨q0, q1, q2, q3⟩ := (hxc k o ho).below B.out (by rw [add_block]; exact hx)
          obtain ⟨r0, r1, r2, r3⟩ := (hyc k o ho).below B.out (by rw [add_block]; exact hy)
          have x8 := XB.out.c8
          have y8 := YB.out.c8
          clear hxc hyc hne ho hx hy
          go_wp2
          go_quiet (fail)
          go_wp2
          go_round
          case rel => exact ⟨k + 1, by omega, by go_num, XB.out.below (_root_.Go.below_drewN (Below.refl _ _) _) XB.out.lt, YB.out.below (_root_.Go.below_drewN (Below.refl _ _) _) YB.out.lt, _root_.Go.below_drewN B.out _⟩
          case measure => simp [intOf]; omega
    · have hlt : k < W.us.length := by omega
      have hlti : ((k : Nat) : Int) < (W.us.length : Nat) := by omega
      obtain ⟨o, ho⟩ : ∃ o, W.us[k]? = some o := ⟨_, List.getElem?_eq_getElem hlt⟩
      have hne : W.us ≠ [] := by intro e; rw [e] at hlt; simp at hlt
      obtain ⟨x, rfl, hx, hxc⟩ := GU.out hne
      obtain ⟨y, rfl, hy, hyc⟩ := KU.out hne
      obtain ⟨q0, q1, q2, q3, q4, q5, q6, q7⟩ := (hxc k o ho).below B.out (by rw [add_block]; exact hx)
      obtain ⟨r0, r1, r2, r3, r4, r5, r6, r7⟩ := (hyc k o ho).below B.out (by rw [add_block]; exact hy)
      have x7 := XB.out.c7
      have y7 := YB.out.c7
      clear hxc hyc hne ho hx hy
      go_wp2
      go_quiet (fail)
      go_wp2
      go_round
      case rel => exact ⟨k + 1, by omega, by go_num, XB.out.below (_root_.Go.below_drewN (Below.refl _ _) _) XB.out.lt, YB.out.below (_root_.Go.below_drewN (Below.refl _ _) _) YB.out.lt, _root_.Go.below_drewN B.out _⟩
      case measure => simp [intOf]; omega
end Go.Proofs.YthcndngdngjalaaGreatDoor

namespace Go.Proofs.YthcndngdngjalaaGreatDoor
open Go.ChangeShapes Go.WideShapes Go.ChangeAt Go.RowKit
set_option linter.unusedVariables false

theorem byte_of_wf {n : Int} (h : (Lit.int .u8 n).wf = true) : 0 ≤ n ∧ n < 256 := by
  simp only [Lit.wf, Bool.and_eq_true, decide_eq_true_eq] at h
  have h1 : IntKind.u8.min = 0 := by decide
  have h2 : IntKind.u8.max = 255 := by decide
  omega
theorem bulk_pos {H : Type} : ∀ d : DataW H, 1 ≤ Rows.uptoBulk d
  | .lit (.string bytes) => by simp [Rows.uptoBulk]
  | .lit (.int _ _) => by simp [Rows.uptoBulk]
  | .lit (.bool _) => by simp [Rows.uptoBulk]
  | .lit (.float .f32 _) => by simp [Rows.uptoBulk]
  | .lit (.float .f64 _) => by simp [Rows.uptoBulk]
  | .lit .nil => by simp [Rows.uptoBulk]
  | .nil => by simp [Rows.uptoBulk]
  | .ptr d => by simp [Rows.uptoBulk]
  | .slice _ _ => by simp [Rows.uptoBulk]
  | .agg _ => by simp [Rows.uptoBulk]
  | .iface _ _ => by simp [Rows.uptoBulk]
  | .map _ => by simp [Rows.uptoBulk]
  | .held _ => by simp [Rows.uptoBulk]
theorem bulk_len {H : Type} : ∀ ds : List (DataW H), ds.length ≤ Rows.uptoBulkAll ds
  | [] => by simp
  | d :: ds => by
    have h1 := bulk_pos d
    have h2 := bulk_len ds
    simp only [Rows.uptoBulkAll, List.length_cons]
    omega
theorem bulk_slice {H : Type} (es sp : List (DataW H)) : es.length ≤ Rows.uptoBulk (.slice es sp) := by
  have := bulk_len es
  simp only [Rows.uptoBulk]
  omega
end Go.Proofs.YthcndngdngjalaaGreatDoor

namespace Go.Proofs.YthcndngdngjalaaGreatDoor
open Go.ChangeShapes Go.WideShapes Go.ChangeAt Go.RowKit
set_option linter.unusedVariables false

theorem in64_of_wf {n : Int} (h : (Lit.int .i64 n).wf = true) : Wd.In64 n := by
  unfold Wd.In64
  simp only [Lit.wf, Bool.and_eq_true, decide_eq_true_eq] at h
  have h1 : IntKind.i64.min = -9223372036854775808 := by decide
  have h2 : IntKind.i64.max = 9223372036854775807 := by decide
  omega
set_option maxRecDepth 100000 in
theorem open_row64 {H : Type} {enc : TypeId × Value → H} {W : World} {base : Nat} {held : Bool} {fuel : Nat} {v : Value} {y : DataW H × List MemPlace} (h : DataW.trod enc Tryz.prog W base (fun _ => true) held fuel 23 [v] = some y) :
    ∃ zs, Ro W v zs ∧ (∀ n ∈ zs, Wd.In64 n) ∧ zs.length ≤ Rows.uptoBulk y.1 := by
  rcases open_ints Tryz.underlying23 Tryz.underlying3 (by kernel_rfl) h with ⟨hcs, rfl⟩ | ⟨x, l, c, zs, hcs, _, hl, hm, hz, rfl, hcell, hwz⟩
  · simp at hcs
    subst hcs
    exact ⟨_, IsRow.ro (.inl ⟨rfl, rfl, rfl, rfl⟩), by simp, by simp⟩
  · simp at hcs
    subst hcs
    refine ⟨_, IsRow.ro (zs := zs) (.inr ⟨_, rfl, hl, hm, by simpa using hz, hcell, hwz⟩), fun n hn => in64_of_wf (hwz n (List.mem_of_mem_take hn)), ?_⟩
    have := bulk_slice (H := H) (lits .i64 (zs.take l)) (lits .i64 (zs.drop l))
    simpa [lits] using this
theorem un_flds : ∃ f0 f1 f2 f3 f4 f5 f6 f7 : Field, Tryz.prog.underlying 44 = some (.struct #[f0, f1, f2, f3, f4, f5, f6, f7]) ∧ f0.offset = 0 ∧ f0.type = 3 ∧ f1.offset = 1 ∧ f1.type = 3 ∧ f2.offset = 2 ∧ f2.type = 3 ∧ f3.offset = 3 ∧ f3.type = 3 ∧ f4.offset = 4 ∧ f4.type = 3 ∧ f5.offset = 5 ∧ f5.type = 3 ∧ f6.offset = 6 ∧ f6.type = 3 ∧ f7.offset = 7 ∧ f7.type = 3 := ⟨_, _, _, _, _, _, _, _, Tryz.underlying44, rfl, rfl, rfl, rfl, rfl, rfl, rfl, rfl, rfl, rfl, rfl, rfl, rfl, rfl, rfl, rfl⟩
set_option maxRecDepth 100000 in
theorem open_un64 {H : Type} {enc : TypeId × Value → H} {W : World} {base : Nat} {held : Bool} {fuel : Nat} {cs : List Value} {y : DataW H × List MemPlace} (h : DataW.trod enc Tryz.prog W base (fun _ => true) held fuel 44 cs = some y) :
    ∃ k : UnV, cs = [.int .i64 k.id, .int .i64 k.player, .int .i64 k.kind, .int .i64 k.at_, .int .i64 k.life, .int .i64 k.load, .int .i64 k.task, .int .i64 k.goal] ∧ ∀ n ∈ Wd.unums k, Wd.In64 n := by
  obtain ⟨f0, f1, f2, f3, f4, f5, f6, f7, he, o0, t0, o1, t1, o2, t2, o3, t3, o4, t4, o5, t5, o6, t6, o7, t7⟩ := un_flds
  obtain ⟨xs, m, -, -, hlen, hxl, hf⟩ := DataW.trod_struct he h
  have csi : Tryz.prog.cellsOf 3 = 1 := by kernel_rfl
  have csk : Tryz.prog.cellsOf 44 = 8 := by kernel_rfl
  rw [csk] at hlen
  match cs, hlen with
  | [v0, v1, v2, v3, v4, v5, v6, v7], _ =>
    have hx : xs.length = 8 := hxl
    match xs, hx with
    | [x0, x1, x2, x3, x4, x5, x6, x7], _ =>
      have g0 := hf 0 f0 rfl
      rw [o0, t0, csi] at g0
      have g1 := hf 1 f1 rfl
      rw [o1, t1, csi] at g1
      have g2 := hf 2 f2 rfl
      rw [o2, t2, csi] at g2
      have g3 := hf 3 f3 rfl
      rw [o3, t3, csi] at g3
      have g4 := hf 4 f4 rfl
      rw [o4, t4, csi] at g4
      have g5 := hf 5 f5 rfl
      rw [o5, t5, csi] at g5
      have g6 := hf 6 f6 rfl
      rw [o6, t6, csi] at g6
      have g7 := hf 7 f7 rfl
      rw [o7, t7, csi] at g7
      obtain ⟨m0, e0, -, w0⟩ := DataW.trod_int Tryz.underlying3 g0
      obtain ⟨m1, e1, -, w1⟩ := DataW.trod_int Tryz.underlying3 g1
      obtain ⟨m2, e2, -, w2⟩ := DataW.trod_int Tryz.underlying3 g2
      obtain ⟨m3, e3, -, w3⟩ := DataW.trod_int Tryz.underlying3 g3
      obtain ⟨m4, e4, -, w4⟩ := DataW.trod_int Tryz.underlying3 g4
      obtain ⟨m5, e5, -, w5⟩ := DataW.trod_int Tryz.underlying3 g5
      obtain ⟨m6, e6, -, w6⟩ := DataW.trod_int Tryz.underlying3 g6
      obtain ⟨m7, e7, -, w7⟩ := DataW.trod_int Tryz.underlying3 g7
      simp at e0 e1 e2 e3 e4 e5 e6 e7
      subst e0 e1 e2 e3 e4 e5 e6 e7
      refine ⟨⟨m0, m1, m2, m3, m4, m5, m6, m7⟩, rfl, ?_⟩
      intro n hn
      simp only [Wd.unums, List.mem_cons, List.not_mem_nil, or_false] at hn
      rcases hn with rfl | rfl | rfl | rfl | rfl | rfl | rfl | rfl
      · exact in64_of_wf w0
      · exact in64_of_wf w1
      · exact in64_of_wf w2
      · exact in64_of_wf w3
      · exact in64_of_wf w4
      · exact in64_of_wf w5
      · exact in64_of_wf w6
      · exact in64_of_wf w7
theorem open_uns64 {H : Type} {enc : TypeId × Value → H} {W : World} {base : Nat} {held : Bool} {fuel : Nat} {v : Value} {y : DataW H × List MemPlace} (h : DataW.trod enc Tryz.prog W base (fun _ => true) held fuel 26 [v] = some y) :
    ∃ ks : List UnV, Unl W v ks ∧ (∀ k ∈ ks, ∀ n ∈ Wd.unums k, Wd.In64 n) ∧ ks.length ≤ Rows.uptoBulk y.1 := by
  have csk : Tryz.prog.cellsOf 44 = 8 := by kernel_rfl
  rcases Go.Deep.open_slice Tryz.underlying26 h with ⟨hcs, -⟩ | ⟨a, len, cap, m, q, D, Pl, hcs, hb, hl, hm, hmm, rfl, hx⟩
  · simp at hcs
    subst hcs
    exact ⟨[], ⟨none, 0, rfl, Nat.le_refl _, by omega, fun h => absurd rfl h⟩, by simp, by simp⟩
  · simp at hcs
    subst hcs
    have hlm : len ≤ m := by rw [hmm]; simp; exact hl
    have each : ∀ i, i < len → ∃ k : UnV, Unc W (a.add (i * 8)) k ∧ (∀ n ∈ Wd.unums k, Wd.In64 n) := by
      intro i hi
      obtain ⟨cs', h1, h2⟩ := hx i (by omega)
      obtain ⟨k, rfl, hk⟩ := open_un64 h2
      rw [csk] at h1
      obtain ⟨-, -, hcell⟩ := World.cells?_some h1
      refine ⟨k, ?_, hk⟩
      generalize a.add (i * 8) = y at *
      exact ⟨hcell 0 (by decide), hcell 1 (by decide), hcell 2 (by decide), hcell 3 (by decide), hcell 4 (by decide), hcell 5 (by decide), hcell 6 (by decide), hcell 7 (by decide)⟩
    have inh : Inhabited UnV := ⟨⟨0, 0, 0, 0, 0, 0, 0, 0⟩⟩
    obtain ⟨q, hq⟩ := Go.Deep.choose_lt each
    refine ⟨(List.range len).map q, ⟨some a, cap, by simp, by simpa using hl, by unfold maxLen at hm; omega, fun hn => ⟨a, rfl, ?_, fun i k hk => ?_⟩⟩, ?_, ?_⟩
    · have h0 : 0 < len := by
        rcases Nat.eq_zero_or_pos len with h | h
        · subst h; simp at hn
        · exact h
      have := (hq 0 h0).1.lt
      rwa [add_block] at this
    · have hi : i < len := by
        have := (List.getElem?_eq_some_iff.1 hk).1
        simpa using this
      rw [List.getElem?_map, List.getElem?_range hi] at hk
      injection hk with hk
      subst hk
      exact (hq i hi).1
    · intro k hk
      obtain ⟨i, hi, rfl⟩ := List.mem_map.1 hk
      exact (hq i (List.mem_range.1 hi)).2
    · have := bulk_slice ((List.range len).map D) ((List.range (m - len)).map fun j => D (len + j))
      simpa using this
theorem jb_flds : ∃ f0 f1 f2 f3 : Field, Tryz.prog.underlying 77 = some (.struct #[f0, f1, f2, f3]) ∧ f0.offset = 0 ∧ f0.type = 3 ∧ f1.offset = 1 ∧ f1.type = 3 ∧ f2.offset = 2 ∧ f2.type = 3 ∧ f3.offset = 3 ∧ f3.type = 3 := ⟨_, _, _, _, Tryz.underlying77, rfl, rfl, rfl, rfl, rfl, rfl, rfl, rfl⟩
set_option maxRecDepth 100000 in
theorem open_jb64 {H : Type} {enc : TypeId × Value → H} {W : World} {base : Nat} {held : Bool} {fuel : Nat} {cs : List Value} {y : DataW H × List MemPlace} (h : DataW.trod enc Tryz.prog W base (fun _ => true) held fuel 77 cs = some y) :
    ∃ k : JbV, cs = [.int .i64 k.player, .int .i64 k.unit, .int .i64 k.kind, .int .i64 k.left] ∧ ∀ n ∈ Wd.jnums k, Wd.In64 n := by
  obtain ⟨f0, f1, f2, f3, he, o0, t0, o1, t1, o2, t2, o3, t3⟩ := jb_flds
  obtain ⟨xs, m, -, -, hlen, hxl, hf⟩ := DataW.trod_struct he h
  have csi : Tryz.prog.cellsOf 3 = 1 := by kernel_rfl
  have csk : Tryz.prog.cellsOf 77 = 4 := by kernel_rfl
  rw [csk] at hlen
  match cs, hlen with
  | [v0, v1, v2, v3], _ =>
    have hx : xs.length = 4 := hxl
    match xs, hx with
    | [x0, x1, x2, x3], _ =>
      have g0 := hf 0 f0 rfl
      rw [o0, t0, csi] at g0
      have g1 := hf 1 f1 rfl
      rw [o1, t1, csi] at g1
      have g2 := hf 2 f2 rfl
      rw [o2, t2, csi] at g2
      have g3 := hf 3 f3 rfl
      rw [o3, t3, csi] at g3
      obtain ⟨m0, e0, -, w0⟩ := DataW.trod_int Tryz.underlying3 g0
      obtain ⟨m1, e1, -, w1⟩ := DataW.trod_int Tryz.underlying3 g1
      obtain ⟨m2, e2, -, w2⟩ := DataW.trod_int Tryz.underlying3 g2
      obtain ⟨m3, e3, -, w3⟩ := DataW.trod_int Tryz.underlying3 g3
      simp at e0 e1 e2 e3
      subst e0 e1 e2 e3
      refine ⟨⟨m0, m1, m2, m3⟩, rfl, ?_⟩
      intro n hn
      simp only [Wd.jnums, List.mem_cons, List.not_mem_nil, or_false] at hn
      rcases hn with rfl | rfl | rfl | rfl
      · exact in64_of_wf w0
      · exact in64_of_wf w1
      · exact in64_of_wf w2
      · exact in64_of_wf w3
theorem open_jbs64 {H : Type} {enc : TypeId × Value → H} {W : World} {base : Nat} {held : Bool} {fuel : Nat} {v : Value} {y : DataW H × List MemPlace} (h : DataW.trod enc Tryz.prog W base (fun _ => true) held fuel 27 [v] = some y) :
    ∃ ks : List JbV, Jbl W v ks ∧ (∀ k ∈ ks, ∀ n ∈ Wd.jnums k, Wd.In64 n) ∧ ks.length ≤ Rows.uptoBulk y.1 := by
  have csk : Tryz.prog.cellsOf 77 = 4 := by kernel_rfl
  rcases Go.Deep.open_slice Tryz.underlying27 h with ⟨hcs, -⟩ | ⟨a, len, cap, m, q, D, Pl, hcs, hb, hl, hm, hmm, rfl, hx⟩
  · simp at hcs
    subst hcs
    exact ⟨[], ⟨none, 0, rfl, Nat.le_refl _, by omega, fun h => absurd rfl h⟩, by simp, by simp⟩
  · simp at hcs
    subst hcs
    have hlm : len ≤ m := by rw [hmm]; simp; exact hl
    have each : ∀ i, i < len → ∃ k : JbV, Jbc W (a.add (i * 4)) k ∧ (∀ n ∈ Wd.jnums k, Wd.In64 n) := by
      intro i hi
      obtain ⟨cs', h1, h2⟩ := hx i (by omega)
      obtain ⟨k, rfl, hk⟩ := open_jb64 h2
      rw [csk] at h1
      obtain ⟨-, -, hcell⟩ := World.cells?_some h1
      refine ⟨k, ?_, hk⟩
      generalize a.add (i * 4) = y at *
      exact ⟨hcell 0 (by decide), hcell 1 (by decide), hcell 2 (by decide), hcell 3 (by decide)⟩
    have inh : Inhabited JbV := ⟨⟨0, 0, 0, 0⟩⟩
    obtain ⟨q, hq⟩ := Go.Deep.choose_lt each
    refine ⟨(List.range len).map q, ⟨some a, cap, by simp, by simpa using hl, by unfold maxLen at hm; omega, fun hn => ⟨a, rfl, ?_, fun i k hk => ?_⟩⟩, ?_, ?_⟩
    · have h0 : 0 < len := by
        rcases Nat.eq_zero_or_pos len with h | h
        · subst h; simp at hn
        · exact h
      have := (hq 0 h0).1.lt
      rwa [add_block] at this
    · have hi : i < len := by
        have := (List.getElem?_eq_some_iff.1 hk).1
        simpa using this
      rw [List.getElem?_map, List.getElem?_range hi] at hk
      injection hk with hk
      subst hk
      exact (hq i hi).1
    · intro k hk
      obtain ⟨i, hi, rfl⟩ := List.mem_map.1 hk
      exact (hq i (List.mem_range.1 hi)).2
    · have := bulk_slice ((List.range len).map D) ((List.range (m - len)).map fun j => D (len + j))
      simpa using this
theorem world_flds : ∃ f0 f1 f2 f3 f4 f5 : Field, Tryz.prog.underlying 29 = some (.struct #[f0, f1, f2, f3, f4, f5]) ∧ f0.offset = 0 ∧ f0.type = 3 ∧ f1.offset = 1 ∧ f1.type = 3 ∧ f2.offset = 2 ∧ f2.type = 25 ∧ f3.offset = 6 ∧ f3.type = 23 ∧ f4.offset = 7 ∧ f4.type = 26 ∧ f5.offset = 8 ∧ f5.type = 27 := ⟨_, _, _, _, _, _, Tryz.underlying29, rfl, rfl, rfl, rfl, rfl, rfl, rfl, rfl, rfl, rfl, rfl, rfl⟩
theorem field_flds : ∃ f0 f1 f2 f3 : Field, Tryz.prog.underlying 25 = some (.struct #[f0, f1, f2, f3]) ∧ f0.offset = 0 ∧ f0.type = 3 ∧ f1.offset = 1 ∧ f1.type = 3 ∧ f2.offset = 2 ∧ f2.type = 23 ∧ f3.offset = 3 ∧ f3.type = 23 := ⟨_, _, _, _, Tryz.underlying25, rfl, rfl, rfl, rfl, rfl, rfl, rfl, rfl⟩
theorem ro_len {w : World} {v : Value} {xs : List Int} (h : Ro w v xs) : Wd.In64 (xs.length : Int) := by
  obtain ⟨a, c, -, h1, h2, -⟩ := h
  unfold Wd.In64; omega
set_option maxRecDepth 100000 in
theorem open_world64 {H : Type} {enc : TypeId × Value → H} {W : World} {base : Nat} {held : Bool} {fuel : Nat} {cs : List Value} {y : DataW H × List MemPlace} (h : DataW.trod enc Tryz.prog W base (fun _ => true) held fuel 29 cs = some y) :
    ∃ X : WV, Wl W (.agg cs.toArray) X ∧ (∀ n ∈ Wd.nums X, Wd.In64 n) ∧ (Rows.uptoBulk y.1 ≤ 1048576 → WSmall X) := by
  obtain ⟨f0, f1, f2, f3, f4, f5, he, o0, t0, o1, t1, o2, t2, o3, t3, o4, t4, o5, t5⟩ := world_flds
  obtain ⟨xs, m, -, rfl, hlen, hxl, hf⟩ := DataW.trod_struct he h
  have csi : Tryz.prog.cellsOf 3 = 1 := by kernel_rfl
  have csf : Tryz.prog.cellsOf 25 = 4 := by kernel_rfl
  have csl : Tryz.prog.cellsOf 23 = 1 := by kernel_rfl
  have csu : Tryz.prog.cellsOf 26 = 1 := by kernel_rfl
  have csj : Tryz.prog.cellsOf 27 = 1 := by kernel_rfl
  have csk : Tryz.prog.cellsOf 29 = 9 := by kernel_rfl
  rw [csk] at hlen
  match cs, hlen with
  | [v0, v1, v2, v3, v4, v5, v6, v7, v8], _ =>
    have hx : xs.length = 6 := hxl
    match xs, hx with
    | [x0, x1, x2, x3, x4, x5], _ =>
      have g0 := hf 0 f0 rfl
      rw [o0, t0, csi] at g0
      have g1 := hf 1 f1 rfl
      rw [o1, t1, csi] at g1
      have g2 := hf 2 f2 rfl
      rw [o2, t2, csf] at g2
      have g3 := hf 3 f3 rfl
      rw [o3, t3, csl] at g3
      have g4 := hf 4 f4 rfl
      rw [o4, t4, csu] at g4
      have g5 := hf 5 f5 rfl
      rw [o5, t5, csj] at g5
      obtain ⟨m0, e0, -, w0⟩ := DataW.trod_int Tryz.underlying3 g0
      obtain ⟨m1, e1, -, w1⟩ := DataW.trod_int Tryz.underlying3 g1
      obtain ⟨r0, r1, r2, r3, he', p0, s0, p1, s1, p2, s2, p3, s3⟩ := field_flds
      obtain ⟨ys, m', -, rfl, hlen', hyl, hg⟩ := DataW.trod_struct he' g2
      have hy : ys.length = 4 := hyl
      match ys, hy with
      | [y0, y1, y2, y3], _ =>
        have k0 := hg 0 r0 rfl
        rw [p0, s0, csi] at k0
        have k1 := hg 1 r1 rfl
        rw [p1, s1, csi] at k1
        have k2 := hg 2 r2 rfl
        rw [p2, s2, csl] at k2
        have k3 := hg 3 r3 rfl
        rw [p3, s3, csl] at k3
        obtain ⟨m2, e2, -, w2⟩ := DataW.trod_int Tryz.underlying3 k0
        obtain ⟨m3, e3, -, w3⟩ := DataW.trod_int Tryz.underlying3 k1
        simp at e0 e1 e2 e3
        subst e0 e1 e2 e3
        obtain ⟨gs, hgs, igs, bgs⟩ := open_row64 k2
        obtain ⟨os, hos, ios, bos⟩ := open_row64 k3
        obtain ⟨gold, hgold, igold, bgold⟩ := open_row64 g3
        obtain ⟨us, hus, ius, bus⟩ := open_uns64 g4
        obtain ⟨qs, hqs, iqs, bqs⟩ := open_jbs64 g5
        have lu : Wd.In64 (us.length : Int) := by
          obtain ⟨a, c, -, h1, h2, -⟩ := hus
          unfold Wd.In64; omega
        have lq : Wd.In64 (qs.length : Int) := by
          obtain ⟨a, c, -, h1, h2, -⟩ := hqs
          unfold Wd.In64; omega
        refine ⟨⟨m0, m1, m2, m3, gs, os, gold, us, qs⟩, ⟨_, _, _, _, _, rfl, hgs, hos, hgold, hus, hqs⟩, ?_, ?_⟩
        · intro n hn
          simp only [Wd.nums, List.mem_append, List.mem_cons, List.not_mem_nil, or_false, List.mem_flatMap] at hn
          rcases hn with (((((rfl | rfl | rfl | rfl) | (rfl | hn)) | (rfl | hn)) | (rfl | hn)) | (rfl | ⟨u, hu, hn⟩)) | (rfl | ⟨u, hu, hn⟩)
          · exact in64_of_wf w0
          · exact in64_of_wf w1
          · exact in64_of_wf w2
          · exact in64_of_wf w3
          · exact ro_len hgs
          · exact igs _ hn
          · exact ro_len hos
          · exact ios _ hn
          · exact ro_len hgold
          · exact igold _ hn
          · exact lu
          · exact ius u hu n hn
          · exact lq
          · exact iqs u hu n hn
        · intro hb
          simp only [Rows.uptoBulk, Rows.uptoBulkAll, List.map_cons, List.map_nil] at hb
          exact ⟨by simp only; omega, by simp only; omega, by simp only; omega, by simp only; omega, by simp only; omega⟩
set_option maxRecDepth 100000 in
theorem world_in {H : Type} {enc : TypeId × Value → H} {W : World} {base b0 : Nat} {held : Bool} {v : Value} {d : DataW H} {p : List MemPlace} (hv : Value.okWide Tryz.prog W .any b0 29 v) (h : DataW.Trod enc Tryz.prog W base (fun _ => true) held 29 v d p) :
    ∃ X : WV, Wl W v X ∧ (∀ n ∈ Wd.nums X, Wd.In64 n) ∧ (Rows.uptoBulk d ≤ 1048576 → WSmall X) := by
  obtain ⟨cs, rfl, hsz⟩ := okWide_struct Tryz.underlying29 hv
  obtain ⟨fuel, hf⟩ := h
  have := open_world64 hf
  simpa [Value.cells] using this
end Go.Proofs.YthcndngdngjalaaGreatDoor

namespace Go.Proofs.YthcndngdngjalaaGreatDoor
open Go.ChangeShapes Go.WideShapes Go.ChangeAt Go.RowKit
set_option linter.unusedVariables false

theorem kind_fields : ∃ f0 f1 f2 f3 f4 f5 f6 f7 f8 f9 f10 : Field, Tryz.prog.underlying 65 = some (.struct #[f0, f1, f2, f3, f4, f5, f6, f7, f8, f9, f10]) ∧
    f0.offset = 0 ∧ f0.type = 9 ∧ f1.offset = 1 ∧ f1.type = 3 ∧ f2.offset = 2 ∧ f2.type = 3 ∧ f3.offset = 3 ∧ f3.type = 3 ∧ f4.offset = 4 ∧ f4.type = 3 ∧ f5.offset = 5 ∧ f5.type = 3 ∧ f6.offset = 6 ∧ f6.type = 3 ∧ f7.offset = 7 ∧ f7.type = 3 ∧ f8.offset = 8 ∧ f8.type = 3 ∧ f9.offset = 9 ∧ f9.type = 4 ∧ f10.offset = 10 ∧ f10.type = 4 := ⟨_, _, _, _, _, _, _, _, _, _, _, Tryz.underlying65, rfl, rfl, rfl, rfl, rfl, rfl, rfl, rfl, rfl, rfl, rfl, rfl, rfl, rfl, rfl, rfl, rfl, rfl, rfl, rfl, rfl, rfl⟩


set_option maxRecDepth 100000 in
theorem open_kind {H : Type} {enc : TypeId × Value → H} {W : World} {base : Nat} {held : Bool} {fuel : Nat} {cs : List Value} {y : DataW H × List MemPlace} (h : DataW.trod enc Tryz.prog W base (fun _ => true) held fuel 65 cs = some y) :
    ∃ k : KV, cs = [.string k.b, .int .i64 k.n0, .int .i64 k.n1, .int .i64 k.n2, .int .i64 k.n3, .int .i64 k.n4, .int .i64 k.n5, .int .i64 k.n6, .int .i64 k.n7, .bool k.f, .bool k.t] ∧ k.b.size ≤ maxLen := by
  obtain ⟨f0, f1, f2, f3, f4, f5, f6, f7, f8, f9, f10, he, o0, t0, o1, t1, o2, t2, o3, t3, o4, t4, o5, t5, o6, t6, o7, t7, o8, t8, o9, t9, o10, t10⟩ := kind_fields
  obtain ⟨xs, n, -, -, hlen, hxl, hf⟩ := DataW.trod_struct he h
  have cs9 : Tryz.prog.cellsOf 9 = 1 := by kernel_rfl
  have cs3 : Tryz.prog.cellsOf 3 = 1 := by kernel_rfl
  have cs4 : Tryz.prog.cellsOf 4 = 1 := by kernel_rfl
  have csk : Tryz.prog.cellsOf 65 = 11 := by kernel_rfl
  rw [csk] at hlen
  match cs, hlen with
  | [v0, v1, v2, v3, v4, v5, v6, v7, v8, v9, v10], _ =>
    have hx11 : xs.length = 11 := hxl
    match xs, hx11 with
    | [x0, x1, x2, x3, x4, x5, x6, x7, x8, x9, x10], _ =>
      have g0 := hf 0 f0 rfl
      rw [o0, t0, cs9] at g0
      have g1 := hf 1 f1 rfl
      rw [o1, t1, cs3] at g1
      have g2 := hf 2 f2 rfl
      rw [o2, t2, cs3] at g2
      have g3 := hf 3 f3 rfl
      rw [o3, t3, cs3] at g3
      have g4 := hf 4 f4 rfl
      rw [o4, t4, cs3] at g4
      have g5 := hf 5 f5 rfl
      rw [o5, t5, cs3] at g5
      have g6 := hf 6 f6 rfl
      rw [o6, t6, cs3] at g6
      have g7 := hf 7 f7 rfl
      rw [o7, t7, cs3] at g7
      have g8 := hf 8 f8 rfl
      rw [o8, t8, cs3] at g8
      have g9 := hf 9 f9 rfl
      rw [o9, t9, cs4] at g9
      have g10 := hf 10 f10 rfl
      rw [o10, t10, cs4] at g10
      obtain ⟨b, e0, -, hb⟩ := DataW.trod_string Tryz.underlying9 g0
      obtain ⟨m1, e1, -, -⟩ := DataW.trod_int Tryz.underlying3 g1
      obtain ⟨m2, e2, -, -⟩ := DataW.trod_int Tryz.underlying3 g2
      obtain ⟨m3, e3, -, -⟩ := DataW.trod_int Tryz.underlying3 g3
      obtain ⟨m4, e4, -, -⟩ := DataW.trod_int Tryz.underlying3 g4
      obtain ⟨m5, e5, -, -⟩ := DataW.trod_int Tryz.underlying3 g5
      obtain ⟨m6, e6, -, -⟩ := DataW.trod_int Tryz.underlying3 g6
      obtain ⟨m7, e7, -, -⟩ := DataW.trod_int Tryz.underlying3 g7
      obtain ⟨m8, e8, -, -⟩ := DataW.trod_int Tryz.underlying3 g8
      obtain ⟨bf, e9, -⟩ := DataW.trod_bool Tryz.underlying4 g9
      obtain ⟨bt, e10, -⟩ := DataW.trod_bool Tryz.underlying4 g10
      simp at e0 e1 e2 e3 e4 e5 e6 e7 e8 e9 e10
      subst e0 e1 e2 e3 e4 e5 e6 e7 e8 e9 e10
      exact ⟨⟨b, m1, m2, m3, m4, m5, m6, m7, m8, bf, bt⟩, rfl, hb⟩

/-- kinds that came in. -/
theorem open_kinds {H : Type} {enc : TypeId × Value → H} {W : World} {base : Nat} {held : Bool} {fuel : Nat} {v : Value} {y : DataW H × List MemPlace} (h : DataW.trod enc Tryz.prog W base (fun _ => true) held fuel 22 [v] = some y) :
    ∃ ks : List KV, Kl W v ks ∧ ∀ k ∈ ks, k.b.size ≤ maxLen := by
  have csk : Tryz.prog.cellsOf 65 = 11 := by kernel_rfl
  rcases Go.Deep.open_slice Tryz.underlying22 h with ⟨hcs, -⟩ | ⟨a, len, cap, m, n, D, Pl, hcs, hb, hl, hm, hmm, -, hx⟩
  · simp at hcs
    subst hcs
    exact ⟨[], ⟨none, 0, rfl, Nat.le_refl _, by omega, fun h => absurd rfl h⟩, by simp⟩
  · simp at hcs
    subst hcs
    have hlm : len ≤ m := by rw [hmm]; simp; exact hl
    have each : ∀ i, i < len → ∃ k : KV, Kc W (a.add (i * 11)) k ∧ k.b.size ≤ maxLen := by
      intro i hi
      obtain ⟨cs', h1, h2⟩ := hx i (by omega)
      obtain ⟨k, rfl, hk⟩ := open_kind h2
      rw [csk] at h1
      obtain ⟨-, -, hcell⟩ := World.cells?_some h1
      refine ⟨k, ?_, hk⟩
      generalize a.add (i * 11) = y at *
      exact ⟨hcell 0 (by decide), hcell 1 (by decide), hcell 2 (by decide), hcell 3 (by decide), hcell 4 (by decide), hcell 5 (by decide), hcell 6 (by decide), hcell 7 (by decide), hcell 8 (by decide), hcell 9 (by decide), hcell 10 (by decide)⟩
    have inh : Inhabited KV := ⟨⟨ByteArray.empty, 0, 0, 0, 0, 0, 0, 0, 0, false, false⟩⟩
    obtain ⟨q, hq⟩ := Go.Deep.choose_lt each
    refine ⟨(List.range len).map q, ⟨some a, cap, by simp, by simpa using hl, by unfold maxLen at hm; omega, fun hn => ⟨a, rfl, ?_, fun i k hk => ?_⟩⟩, ?_⟩
    · have h0 : 0 < len := by
        rcases Nat.eq_zero_or_pos len with h | h
        · subst h; simp at hn
        · exact h
      have := (hq 0 h0).1.lt
      rwa [add_block] at this
    · have hi : i < len := by
        have := (List.getElem?_eq_some_iff.1 hk).1
        simpa using this
      rw [List.getElem?_map, List.getElem?_range hi] at hk
      injection hk with hk
      subst hk
      exact (hq i hi).1
    · intro k hk
      obtain ⟨i, hi, rfl⟩ := List.mem_map.1 hk
      exact (hq i (List.mem_range.1 hi)).2
set_option maxRecDepth 100000 in
theorem kinds_in {H : Type} {enc : TypeId × Value → H} {W : World} {base b0 : Nat} {held : Bool} {v : Value} {d : DataW H} {p : List MemPlace} (hv : Value.okWide Tryz.prog W .any b0 22 v) (h : DataW.Trod enc Tryz.prog W base (fun _ => true) held 22 v d p) :
    ∃ ks : List KV, Kl W v ks ∧ ∀ k ∈ ks, k.b.size ≤ maxLen := by
  obtain ⟨a, len, cap, rfl⟩ := okWide_slice Tryz.underlying22 hv
  obtain ⟨fuel, hf⟩ := h
  exact open_kinds hf
end Go.Proofs.YthcndngdngjalaaGreatDoor

