/- Fields: Near and Step. · field.Near. · works.isHome. · works.bring as mathematics, and what stays while units bring. · make([]int, N) for few. · One more event. · works.bring. · Slices of api.Event: a whole list behind another one: the run itself. · Slices of api.Job: a whole list behind another one. · world.fresh, world.Copy. · What stays where one block turns: events. · works.Dig. · Behind digging a world is right; what is dug is not lost. Plain mathematics. · Who trains beside a cell, cell by cell. Plain mathematics. · The reference's Dig, its second loop: what stays while units bring. -/
import Derived.Test.YteieikgkmfglaaaGreatDoorZWorksDo4
import Derived.Test.YteieikgkmfglaaaGreatDoorZWorksDo2
import Derived.Test.YteieikgkmfglaaaGreatDoorZWorksDo1
import Derived.Laws.MakeOwn
import Derived.Test.YteieikgkmfglaaaGreatDoorZWorksDo3
import Derived.Deep.DeepCutAuto
namespace Go.Proofs.YteieikgkmfglaaaGreatDoor
open Go.RowKit
set_option linter.unusedVariables false
/-- the package variable of the four sides. -/
structure Sd (w : World) : Prop where
 c0 : w.cell? ⟨1, 0, none⟩ = some (.int .i64 0)
 c1 : w.cell? ⟨1, 1, none⟩ = some (.int .i64 (-1))
 c2 : w.cell? ⟨1, 2, none⟩ = some (.int .i64 (-1))
 c3 : w.cell? ⟨1, 3, none⟩ = some (.int .i64 0)
 c4 : w.cell? ⟨1, 4, none⟩ = some (.int .i64 1)
 c5 : w.cell? ⟨1, 5, none⟩ = some (.int .i64 0)
 c6 : w.cell? ⟨1, 6, none⟩ = some (.int .i64 0)
 c7 : w.cell? ⟨1, 7, none⟩ = some (.int .i64 1)
theorem Sd.lt {w : World} (h : Sd w) : 1 < w.heap.size := cell_lt h.c0
theorem Sd.below {w w' : World} (h : Sd w) (hb : Below w.heap.size w w') : Sd w' := by
 have l := h.lt
 refine ⟨?_, ?_, ?_, ?_, ?_, ?_, ?_, ?_⟩
 ·rw [hb.cell (p := ⟨1, 0, none⟩) l]; exact h.c0
 ·rw [hb.cell (p := ⟨1, 1, none⟩) l]; exact h.c1
 ·rw [hb.cell (p := ⟨1, 2, none⟩) l]; exact h.c2
 ·rw [hb.cell (p := ⟨1, 3, none⟩) l]; exact h.c3
 ·rw [hb.cell (p := ⟨1, 4, none⟩) l]; exact h.c4
 ·rw [hb.cell (p := ⟨1, 5, none⟩) l]; exact h.c5
 ·rw [hb.cell (p := ⟨1, 6, none⟩) l]; exact h.c6
 ·rw [hb.cell (p := ⟨1, 7, none⟩) l]; exact h.c7
namespace Fd
/-- how many columns, and rows, further the k-th cell beside one is. -/
def sc (k : Nat) : Int := if k = 1 then -1 else if k = 2 then 1 else 0
def sr (k : Nat) : Int := if k = 0 then -1 else if k = 3 then 1 else 0
/-- the first k cells beside one, as far as they are. -/
def nb (W H p r : Nat) : Nat → List Int
 | 0 => []
 | k + 1 => nb W H p r k ++ (if (0 ≤ (p : Int) + sc k ∧ (p : Int) + sc k ≤ (W : Int) - 1) ∧ (0 ≤ (r : Int) + sr k ∧ (r : Int) + sr k ≤ (H : Int) - 1) then [((r : Int) + sr k) * W + (p + sc k)] else [])
theorem nb_len (W H p r k : Nat) : (nb W H p r k).length ≤ k := by
 induction k with
 | zero => exact Nat.le_refl _
 | succ k ih =>
  simp only [nb, List.length_append]
  split
  ·simp; omega
  ·simp; omega
theorem nb_near {W H a p r : Nat} (hp : p < W) (hr : r < H) (e : W * r + p = a) : nb W H p r 4 = (if 0 < r then [(a : Int) - W] else []) ++ ((if 0 < p then [(a : Int) - 1] else []) ++ ((if p + 1 < W then [(a : Int) + 1] else []) ++ (if r + 1 < H then [(a : Int) + W] else []))) := by
 have e1 : (a : Int) = W * r + p := by rw [← e]; simp
 have e2 : ((r : Int) + -1) * W = W * r - W := by rw [Int.add_mul, Int.mul_comm (r : Int) W]; omega
 have e3 : ((r : Int) + 1) * W = W * r + W := by rw [Int.add_mul, Int.mul_comm (r : Int) W]; omega
 have e4 : ((r : Int) + 0) * W = W * r := by rw [Int.add_zero, Int.mul_comm (r : Int) W]
 simp only [nb, List.nil_append, List.append_assoc]
 rw [show sc 0 = 0 from rfl, show sc 1 = -1 from rfl, show sc 2 = 1 from rfl, show sc 3 = 0 from rfl, show sr 0 = -1 from rfl, show sr 1 = 0 from rfl, show sr 2 = 0 from rfl, show sr 3 = 1 from rfl, e2, e3, e4]
 congr 1
 ·by_cases h : 0 < r
  ·rw [if_pos (by omega), if_pos h]; congr 1; omega
  ·rw [if_neg (by omega), if_neg h]
 ·congr 1
  ·by_cases h : 0 < p
   ·rw [if_pos (by omega), if_pos h]; congr 1; omega
   ·rw [if_neg (by omega), if_neg h]
  ·congr 1
   ·by_cases h : p + 1 < W
    ·rw [if_pos (by omega), if_pos h]; congr 1; omega
    ·rw [if_neg (by omega), if_neg h]
   ·by_cases h : r + 1 < H
    ·rw [if_pos (by omega), if_pos h]; congr 1; omega
    ·rw [if_neg (by omega), if_neg h]
end Fd
theorem side0 (w : World) : (Instr.index 203 (.agg #[.int .i64 0, .int .i64 (-1), .int .i64 (-1), .int .i64 0, .int .i64 1, .int .i64 0, .int .i64 0, .int .i64 1]) (.int .i64 0)).run Tryz.prog w = .ok (.agg #[.int .i64 0, .int .i64 (-1)]) w := by kernel_rfl
theorem side1 (w : World) : (Instr.index 203 (.agg #[.int .i64 0, .int .i64 (-1), .int .i64 (-1), .int .i64 0, .int .i64 1, .int .i64 0, .int .i64 0, .int .i64 1]) (.int .i64 1)).run Tryz.prog w = .ok (.agg #[.int .i64 (-1), .int .i64 0]) w := by kernel_rfl
theorem side2 (w : World) : (Instr.index 203 (.agg #[.int .i64 0, .int .i64 (-1), .int .i64 (-1), .int .i64 0, .int .i64 1, .int .i64 0, .int .i64 0, .int .i64 1]) (.int .i64 2)).run Tryz.prog w = .ok (.agg #[.int .i64 1, .int .i64 0]) w := by kernel_rfl
theorem side3 (w : World) : (Instr.index 203 (.agg #[.int .i64 0, .int .i64 (-1), .int .i64 (-1), .int .i64 0, .int .i64 1, .int .i64 0, .int .i64 0, .int .i64 1]) (.int .i64 3)).run Tryz.prog w = .ok (.agg #[.int .i64 0, .int .i64 1]) w := by kernel_rfl
theorem side_at (k : Nat) (hk : k < 4) (w : World) : (Instr.index 203 (.agg #[.int .i64 0, .int .i64 (-1), .int .i64 (-1), .int .i64 0, .int .i64 1, .int .i64 0, .int .i64 0, .int .i64 1]) (.int .i64 (k : Nat))).run Tryz.prog w = .ok (.agg #[.int .i64 (Fd.sc k), .int .i64 (Fd.sr k)]) w := by
 have h : k = 0 ∨ k = 1 ∨ k = 2 ∨ k = 3 := by omega
 rcases h with rfl | rfl | rfl | rfl
 ·exact side0 w
 ·exact side1 w
 ·exact side2 w
 ·exact side3 w
set_option maxHeartbeats 2000000 in
theorem near_own (v : Value) (W H : Nat) (gs os : List Int) (a : Nat) (w : World) (h : Fl w v W H gs os) (G : Fd.Good W H gs os) (ha : a < W * H) (hs : Sd w) :
  Calls Tryz.prog 120 #[v, .int .i64 (a : Nat)] w fun e w' => ∃ u, e = .returned u ∧ Ow w' w.heap.size u (Fd.near W H a) ∧ Below w.heap.size w w' := by
 have F0 : Hid (Fl w v W H gs os) := h
 have S0 : Hid (Sd w) := hs
 obtain ⟨u1, u2, rfl, ⟨a1, c, rfl, c1, c2, ca⟩, ⟨b1, d, rfl, d1, d2, cb⟩⟩ := h
 have gp := G.pos.2
 have W1 : 0 < W := G.w1
 have W2 : W ≤ 12 := G.w2
 have H1 : 0 < H := G.h1
 have H2 : H ≤ 12 := G.h2
 have A1 : a ≤ 144 := by omega
 have r1 : a / W < H := Nat.div_lt_of_lt_mul ha
 have p1 := Nat.mod_lt a W1
 have Ea : Hid (W * (a / W) + a % W = a) := Nat.div_add_mod a W
 have En : Hid (Fd.near W H a = (if 0 < a / W then [(a : Int) - W] else []) ++ ((if 0 < a % W then [(a : Int) - 1] else []) ++ ((if a % W + 1 < W then [(a : Int) + 1] else []) ++ (if a / W + 1 < H then [(a : Int) + W] else [])))) := rfl
 obtain ⟨p, hp⟩ : ∃ c, a % W = c := ⟨_, rfl⟩
 obtain ⟨r, hr⟩ : ∃ c, a / W = c := ⟨_, rfl⟩
 rw [hp, hr] at En Ea
 rw [hp] at p1
 rw [hr] at r1
 have Pa : Hid (a % W = p ∧ a / W = r) := ⟨hp, hr⟩
 clear hp hr hs ca cb G ha gp
 go_enter Tryz.func120, Tryz.ntmps120
 go_wp2_with fail
 refine (fplace_any W a p r _ W1 W2 A1 Pa.out.1 Pa.out.2).mono ?_
 rintro e w3 ⟨rfl, q3, hq3⟩
 have B3 : Hid (Below w.heap.size w w3) := by rw [hq3]; exact _root_.Go.below_drewN ((Below.refl _ _).alloc (Nat.le_refl _) _) _
 have X3 : Hid (Bf w3 w.heap.size W H (Value.slice a1 gs.length c) (Value.slice b1 os.length d)) := by
  rw [hq3]
  have h0 := Bf.mk' (w := w) W H (Value.slice a1 gs.length c) (Value.slice b1 os.length d) rfl
  exact h0.below (_root_.Go.below_drewN (Below.refl _ _) _) h0.lt
 have S3 : Hid (Sd w3) := S0.out.below B3.out
 clear hq3
 obtain ⟨x0, x1, x2, x3⟩ := X3.out
 obtain ⟨s0, s1, s2, s3, s4, s5, s6, s7⟩ := S3.out
 go_wp2_with fail
 have Z3 : Hid (w.heap.size < w3.heap.size) := X3.out.lt
 clear s0 s1 s2 s3 s4 s5 s6 s7 S3 S0 x0 x1 x2 x3
 go_loopw [5, 20] (fun v i W' => ∃ k : Nat, k ≤ 4 ∧ i = .int .i64 (k : Nat) ∧ Ow W' (w.heap.size + 1) v (Fd.nb W H p r k) ∧ Bf W' w.heap.size W H (Value.slice a1 gs.length c) (Value.slice b1 os.length d) ∧ Below w.heap.size w W') (fun _ i _ => 4 - (intOf i).toNat)
 case atStart => exact ⟨0, Nat.zero_le _, rfl, Ow.nil _ _, X3, B3⟩
 case round =>
  obtain ⟨k, hk, rfl, ho, hx, hb⟩ := hrel
  clear X3 B3 Z3
  have O : Hid (Ow wr (w.heap.size + 1) u5 (Fd.nb W H p r k)) := ho
  have X : Hid (Bf wr w.heap.size W H (Value.slice a1 gs.length c) (Value.slice b1 os.length d)) := hx
  have B : Hid (Below w.heap.size w wr) := hb
  clear ho hx hb
  by_cases h0 : k = 4
  ·subst h0
   have En' : Hid (Fd.near W H a = Fd.nb W H p r 4) := by unfold Hid; rw [En.out, Fd.nb_near p1 r1 Ea.out]
   go_wp2
   go_ret
   exact ⟨_, rfl, by rw [En'.out]; exact O.out.mono (Nat.le_succ _), B⟩
  ·have hk4 : k < 4 := by omega
   have hi := side_at k hk4
   have l1 : -1 ≤ Fd.sc k ∧ Fd.sc k ≤ 1 := by unfold Fd.sc; split <;> (try split) <;> omega
   have l2 : -1 ≤ Fd.sr k ∧ Fd.sr k ≤ 1 := by unfold Fd.sr; split <;> (try split) <;> omega
   have Ek : Hid (Fd.nb W H p r (k + 1) = Fd.nb W H p r k ++ (if (0 ≤ (p : Int) + Fd.sc k ∧ (p : Int) + Fd.sc k ≤ (W : Int) - 1) ∧ (0 ≤ (r : Int) + Fd.sr k ∧ (r : Int) + Fd.sr k ≤ (H : Int) - 1) then [((r : Int) + Fd.sr k) * W + (p + Fd.sc k)] else [])) := rfl
   have Ll : Hid ((Fd.nb W H p r k).length ≤ k) := Fd.nb_len W H p r k
   generalize Fd.sc k = sc at *
   generalize Fd.sr k = sr at *
   generalize Fd.nb W H p r k = xs at *
   obtain ⟨l11, l12⟩ := l1
   obtain ⟨l21, l22⟩ := l2
   go_wp2
   go_quiet (fail)
   clear hi
   have k5 : Below wr.heap.size wr ((wr.alloc (Obj.cells #[.int .i64 sc, .int .i64 sr] 202)).drewN nq) := _root_.Go.below_drewN ((Below.refl _ _).alloc (Nat.le_refl _) _) _
   generalize (wr.alloc (Obj.cells #[.int .i64 sc, .int .i64 sr] 202)).drewN nq = w5 at *
   have O5 : Hid (Ow w5 (w.heap.size + 1) u5 xs) := O.out.below k5
   have X5 : Hid (Bf w5 w.heap.size W H (Value.slice a1 gs.length c) (Value.slice b1 os.length d)) := X.out.below k5 X.out.lt
   have B5 : Hid (Below w.heap.size w w5) := B.out.trans (k5.mono B.out.size)
   clear k5 O X B
   obtain ⟨x0, x1, x2, x3⟩ := X5.out
   by_cases hc : 0 ≤ (p : Int) + sc ∧ (p : Int) + sc ≤ (W : Int) - 1
   ·by_cases hd : 0 ≤ (r : Int) + sr ∧ (r : Int) + sr ≤ (H : Int) - 1
    ·have Ek' : Hid (Fd.nb W H p r (k + 1) = xs ++ [((r : Int) + sr) * W + (p + sc)]) := by
      have := Ek.out
      rw [if_pos ⟨hc, hd⟩] at this
      exact this
     clear Ek
     obtain ⟨C, hC⟩ : ∃ C : Int, (p : Int) + sc = C := ⟨_, rfl⟩
     obtain ⟨R, hR⟩ : ∃ R : Int, (r : Int) + sr = R := ⟨_, rfl⟩
     rw [hC] at hc Ek' ⊢
     rw [hR] at hd Ek' ⊢
     obtain ⟨hc1, hc2⟩ := hc
     obtain ⟨hd1, hd2⟩ := hd
     have R2 : R ≤ 11 := by omega
     have C2 : C ≤ 11 := by omega
     clear hC hR l11 l12 l21 l22
     have m1 : 0 ≤ R * (W : Int) := Int.mul_nonneg hd1 (by omega)
     have m2 : R * (W : Int) ≤ 11 * 12 := Int.mul_le_mul R2 (by omega) (by omega) (by omega)
     go_wp2_with fail
     refine (fin_yes _ _ _ _ hc1 hc2).mono ?_
     rintro e w' ⟨rfl, rfl⟩
     go_wp2_with fail
     refine (fin_yes _ _ _ _ hd1 hd2).mono ?_
     rintro e w' ⟨rfl, rfl⟩
     go_wp2_with (at_builtin; refine app_int _ rfl _ _ rfl (w.heap.size + 1) _ xs rfl (O5.out.alloc _) ⟨w'.heap.size, 0, none⟩ (R * W + C) rfl (by simp) (by have := Ll.out; omega) (by have := X5.out.lt; simp; omega) ?_)
     intro g cap w6 o6 g6 a6 l6
     have O6 : Hid (Ow w6 (w.heap.size + 1) (.slice (some ⟨g, 0, none⟩) (xs.length + 1) cap) (xs ++ [R * W + C])) := o6
     have hob : ∀ k, u5.ownBlock = some k → w.heap.size + 1 ≤ k := fun k hk => (O5.out.block k hk).1
     have b6 : Below (w.heap.size + 1) w' w6 := ((Below.refl _ _).alloc (by have := X5.out.lt; omega) _).grown g6 (by have := X5.out.lt; simp; omega) hob
     have X6 : Hid (Bf w6 w.heap.size W H (Value.slice a1 gs.length c) (Value.slice b1 os.length d)) := X5.out.below b6 (Nat.lt_succ_self _)
     have B6 : Hid (Below w.heap.size w w6) := B5.out.trans (b6.mono (Nat.le_succ _))
     clear o6 g6 a6 l6 hob b6 x0 x1 x2 x3 m1 m2
     go_wp2
     go_round
     case rel => exact ⟨k + 1, by omega, by go_num, by rw [Ek'.out]; exact O6, X6, B6⟩
     case measure => simp [intOf]; omega
    ·have Ek' : Hid (Fd.nb W H p r (k + 1) = xs) := by
      have := Ek.out
      rw [if_neg (fun h => hd h.2), List.append_nil] at this
      exact this
     clear Ek
     obtain ⟨hc1, hc2⟩ := hc
     have hd' : (r : Int) + sr < 0 ∨ (H : Int) - 1 < (r : Int) + sr := by omega
     clear hd
     go_wp2_with fail
     refine (fin_yes _ _ _ _ hc1 hc2).mono ?_
     rintro e w' ⟨rfl, rfl⟩
     go_wp2_with fail
     refine (fin_no _ _ _ _ hd').mono ?_
     rintro e w' ⟨rfl, rfl⟩
     go_wp2
     go_round
     case rel => exact ⟨k + 1, by omega, by go_num, by rw [Ek'.out]; exact O5, X5, B5⟩
     case measure => simp [intOf]; omega
   ·have Ek' : Hid (Fd.nb W H p r (k + 1) = xs) := by
     have := Ek.out
     rw [if_neg (fun h => hc h.1), List.append_nil] at this
     exact this
    clear Ek
    have hc' : (p : Int) + sc < 0 ∨ (W : Int) - 1 < (p : Int) + sc := by omega
    clear hc
    go_wp2_with fail
    refine (fin_no _ _ _ _ hc').mono ?_
    rintro e w' ⟨rfl, rfl⟩
    go_wp2
    go_round
    case rel => exact ⟨k + 1, by omega, by go_num, by rw [Ek'.out]; exact O5, X5, B5⟩
    case measure => simp [intOf]; omega
end Go.Proofs.YteieikgkmfglaaaGreatDoor
namespace Go.Proofs.YteieikgkmfglaaaGreatDoor
open Go.RowKit
set_option linter.unusedVariables false
set_option maxHeartbeats 1000000 in
theorem Near_bad (v : Value) (W H : Int) (gs os : List Int) (a F : Int) (w : World) (h : Fl w v W H gs os) (hF : Fd.askFault (Fd.fault W H gs os) gs.length [a] = F) (h0 : F ≠ 0) :
  Calls Tryz.prog 91 #[v, .int .i64 a] w fun e w' => e = .returned (.tuple #[.slice none 0 0, .iface 77 (.int .i64 F)]) ∧ Below w.heap.size w w' := by
 have F0 : Hid (Fl w v W H gs os) := h
 have HF : Hid (Fd.askFault (Fd.fault W H gs os) gs.length [a] = F) := hF
 have H0 : Hid (F ≠ 0) := h0
 obtain ⟨u1, u2, rfl, ⟨a1, c, rfl, c1, c2, ca⟩, ⟨b1, d, rfl, d1, d2, cb⟩⟩ := h
 clear hF h0 ca cb
 go_enter Tryz.func91, Tryz.ntmps91
 go_wp2_with fail
 refine (ask_any _ _ W H gs os [a] _ (F0.out.below (((Below.refl _ _).alloc (Nat.le_refl _) _).alloc (by simp) _)) (Ro.lit1 (w := w.alloc _) a (by simp))).mono ?_
 rintro e w1 ⟨v1, rfl, hv, hb⟩
 have B1 : Hid (Below w.heap.size w w1) := (((Below.refl _ _).alloc (Nat.le_refl _) _).alloc (by simp) _).trans (hb.mono (by simp; omega))
 rw [HF.out] at hv
 clear hb
 rcases hv with ⟨hz, rfl⟩ | ⟨hz, rfl⟩
 ·exact absurd hz H0.out
 ·clear hz
  go_wp2
  go_ret2
  exact ⟨rfl, B1⟩
set_option maxHeartbeats 1000000 in
theorem Near_ok (v : Value) (W H : Nat) (gs os : List Int) (a : Nat) (w : World) (h : Fl w v W H gs os) (G : Fd.Good W H gs os) (ha : a < W * H) (hs : Sd w) :
  Calls Tryz.prog 91 #[v, .int .i64 (a : Nat)] w fun e w' => ∃ u, e = .returned (.tuple #[u, .nilIface]) ∧ Ro w' u (Fd.near W H a) ∧ Below w.heap.size w w' := by
 have F0 : Hid (Fl w v W H gs os) := h
 have S0 : Hid (Sd w) := hs
 have G0 : Hid (Fd.Good W H gs os) := G
 have HF : Hid (Fd.askFault (Fd.fault W H gs os) gs.length [(a : Int)] = 0) := ask1_good G ha
 obtain ⟨u1, u2, rfl, ⟨a1, c, rfl, c1, c2, ca⟩, ⟨b1, d, rfl, d1, d2, cb⟩⟩ := h
 have Ha : Hid (a < W * H) := ha
 clear hs ca cb G ha
 go_enter Tryz.func91, Tryz.ntmps91
 go_wp2_with fail
 refine (ask_any _ _ W H gs os [(a : Int)] _ (F0.out.below (((Below.refl _ _).alloc (Nat.le_refl _) _).alloc (by simp) _)) (Ro.lit1 (w := w.alloc _) a (by simp))).mono ?_
 rintro e w1 ⟨v1, rfl, hv, hb⟩
 have B1 : Hid (Below w.heap.size w w1) := (((Below.refl _ _).alloc (Nat.le_refl _) _).alloc (by simp) _).trans (hb.mono (by simp; omega))
 have X1 : Hid (Bf w1 w.heap.size W H (Value.slice a1 gs.length c) (Value.slice b1 os.length d)) := ((Bf.mk' (w := w) W H (Value.slice a1 gs.length c) (Value.slice b1 os.length d) rfl).below ((Below.refl _ _).alloc (Nat.le_refl _) (Obj.cells #[Value.int IntKind.i64 a] 3)) (by simp)).below hb (by simp; omega)
 rw [HF.out] at hv
 clear hb
 rcases hv with ⟨hz, rfl⟩ | ⟨hz, rfl⟩
 ·clear hz
  obtain ⟨x0, x1, x2, x3⟩ := X1.out
  go_wp2_with fail
  refine (near_own _ W H gs os a _ (F0.out.below B1.out) G0.out Ha.out (S0.out.below B1.out)).mono ?_
  rintro e w2 ⟨u, rfl, hu, hb2⟩
  have U2 : Hid (Ro w2 u (Fd.near W H a)) := hu.ro
  have B2 : Hid (Below w.heap.size w w2) := B1.out.trans (hb2.mono B1.out.size)
  clear hu hb2 x0 x1 x2 x3
  go_wp2
  go_ret2
  exact ⟨_, rfl, U2.out, B2⟩
 ·exact absurd rfl hz
end Go.Proofs.YteieikgkmfglaaaGreatDoor
namespace Go.Proofs.YteieikgkmfglaaaGreatDoor
open Go.RowKit
set_option linter.unusedVariables false
/-- is one that trains beside u? -/
def homeB (ks : List KV) (Wn Hn an : Nat) (Y : WV) (u : UnV) : Bool := Y.us.any (takesIn ks (Fd.near Wn Hn an) u)
set_option maxRecDepth 100000 in
set_option maxHeartbeats 8000000 in
theorem ishome_any (vk vw : Value) (ks : List KV) (Y : WV) (u : UnV) (Wn Hn an : Nat) (w : World) (hk : Kl w vk ks) (hw : Wl w vw Y) (hf : DFit ks Y) (e1 : Y.wide = (Wn : Nat)) (e2 : Y.high = (Hn : Nat)) (G : Fd.Good Wn Hn Y.gs Y.os) (ha : u.at_ = (an : Nat)) (hal : an < Wn * Hn) (hs : Sd w) :
  Calls Tryz.prog 61 #[vk, vw, u.val] w fun e w' => e = .returned (.bool (homeB ks Wn Hn an Y u)) ∧ Below w.heap.size w w' := by
 have K : Hid (Kl w vk ks) := hk
 have H : Hid (Wl w vw Y) := hw
 have NN : Hid (Y.wide = (Wn : Nat) ∧ Y.high = (Hn : Nat) ∧ Fd.Good Wn Hn Y.gs Y.os ∧ u.at_ = (an : Nat) ∧ an < Wn * Hn ∧ Sd w ∧ DFit ks Y) := ⟨e1, e2, G, ha, hal, hs, hf⟩
 obtain ⟨p1, q1, p2, q2, p3, q3, p4, q4, p5, q5, rfl⟩ := wl_shape9 hw
 obtain ⟨pk, qk, rfl, ck1, ck2, kc⟩ := hk
 clear hw kc hf e1 e2 G ha hal hs
 unfold UnV.val
 go_enter Tryz.func61, Tryz.ntmps61
 go_upto_region 1 with fail
 obtain ⟨z, hz⟩ : ∃ z, w.heap.size = z := ⟨_, rfl⟩
 have BA : Hid (Below w.heap.size w (w.alloc (Obj.cells #[.slice pk ks.length qk] 22))) := (Below.refl _ _).alloc (Nat.le_refl _) _
 have BB : Hid (Below (w.alloc (Obj.cells #[.slice pk ks.length qk] 22)).heap.size (w.alloc (Obj.cells #[.slice pk ks.length qk] 22)) ((w.alloc (Obj.cells #[.slice pk ks.length qk] 22)).alloc (Obj.cells #[.int .i64 Y.turn, .int .i64 Y.next, .int .i64 Y.wide, .int .i64 Y.high, .slice p1 Y.gs.length q1, .slice p2 Y.os.length q2, .slice p3 Y.gold.length q3, .slice p4 Y.us.length q4, .slice p5 Y.qs.length q5] 29))) := (Below.refl _ _).alloc (Nat.le_refl _) _
 have BC : Hid (Below ((w.alloc (Obj.cells #[.slice pk ks.length qk] 22)).alloc (Obj.cells #[.int .i64 Y.turn, .int .i64 Y.next, .int .i64 Y.wide, .int .i64 Y.high, .slice p1 Y.gs.length q1, .slice p2 Y.os.length q2, .slice p3 Y.gold.length q3, .slice p4 Y.us.length q4, .slice p5 Y.qs.length q5] 29)).heap.size ((w.alloc (Obj.cells #[.slice pk ks.length qk] 22)).alloc (Obj.cells #[.int .i64 Y.turn, .int .i64 Y.next, .int .i64 Y.wide, .int .i64 Y.high, .slice p1 Y.gs.length q1, .slice p2 Y.os.length q2, .slice p3 Y.gold.length q3, .slice p4 Y.us.length q4, .slice p5 Y.qs.length q5] 29)) (((w.alloc (Obj.cells #[.slice pk ks.length qk] 22)).alloc (Obj.cells #[.int .i64 Y.turn, .int .i64 Y.next, .int .i64 Y.wide, .int .i64 Y.high, .slice p1 Y.gs.length q1, .slice p2 Y.os.length q2, .slice p3 Y.gold.length q3, .slice p4 Y.us.length q4, .slice p5 Y.qs.length q5] 29)).alloc (Obj.cells #[.int .i64 u.id, .int .i64 u.player, .int .i64 u.kind, .int .i64 u.at_, .int .i64 u.life, .int .i64 u.load, .int .i64 u.task, .int .i64 u.goal] 44))) := (Below.refl _ _).alloc (Nat.le_refl _) _
 have B1 : Hid (Below w.heap.size w (((w.alloc (Obj.cells #[.slice pk ks.length qk] 22)).alloc (Obj.cells #[.int .i64 Y.turn, .int .i64 Y.next, .int .i64 Y.wide, .int .i64 Y.high, .slice p1 Y.gs.length q1, .slice p2 Y.os.length q2, .slice p3 Y.gold.length q3, .slice p4 Y.us.length q4, .slice p5 Y.qs.length q5] 29)).alloc (Obj.cells #[.int .i64 u.id, .int .i64 u.player, .int .i64 u.kind, .int .i64 u.at_, .int .i64 u.life, .int .i64 u.load, .int .i64 u.task, .int .i64 u.goal] 44))) := (BA.out.trans (BB.out.mono BA.out.size)).trans (BC.out.mono (Nat.le_trans BA.out.size BB.out.size))
 have CK : Hid ((((w.alloc (Obj.cells #[.slice pk ks.length qk] 22)).alloc (Obj.cells #[.int .i64 Y.turn, .int .i64 Y.next, .int .i64 Y.wide, .int .i64 Y.high, .slice p1 Y.gs.length q1, .slice p2 Y.os.length q2, .slice p3 Y.gold.length q3, .slice p4 Y.us.length q4, .slice p5 Y.qs.length q5] 29)).alloc (Obj.cells #[.int .i64 u.id, .int .i64 u.player, .int .i64 u.kind, .int .i64 u.at_, .int .i64 u.life, .int .i64 u.load, .int .i64 u.task, .int .i64 u.goal] 44)).cell? ⟨z, 0, none⟩ = some (.slice pk ks.length qk)) := by
  rw [← hz]
  have c0 : (w.alloc (Obj.cells #[.slice pk ks.length qk] 22)).cell? ⟨w.heap.size, 0, none⟩ = some (.slice pk ks.length qk) := by simp
  have l0 := cell_lt c0
  have c1 : ((w.alloc (Obj.cells #[.slice pk ks.length qk] 22)).alloc (Obj.cells #[.int .i64 Y.turn, .int .i64 Y.next, .int .i64 Y.wide, .int .i64 Y.high, .slice p1 Y.gs.length q1, .slice p2 Y.os.length q2, .slice p3 Y.gold.length q3, .slice p4 Y.us.length q4, .slice p5 Y.qs.length q5] 29)).cell? ⟨w.heap.size, 0, none⟩ = some (.slice pk ks.length qk) := by rw [BB.out.cell (p := ⟨w.heap.size, 0, none⟩) l0]; exact c0
  unfold Hid
  rw [BC.out.cell (p := ⟨w.heap.size, 0, none⟩) (cell_lt c1)]
  exact c1
 have X1 : Hid (Bw (((w.alloc (Obj.cells #[.slice pk ks.length qk] 22)).alloc (Obj.cells #[.int .i64 Y.turn, .int .i64 Y.next, .int .i64 Y.wide, .int .i64 Y.high, .slice p1 Y.gs.length q1, .slice p2 Y.os.length q2, .slice p3 Y.gold.length q3, .slice p4 Y.us.length q4, .slice p5 Y.qs.length q5] 29)).alloc (Obj.cells #[.int .i64 u.id, .int .i64 u.player, .int .i64 u.kind, .int .i64 u.at_, .int .i64 u.life, .int .i64 u.load, .int .i64 u.task, .int .i64 u.goal] 44)) (z + 1) Y (.slice p1 Y.gs.length q1) (.slice p2 Y.os.length q2) (.slice p3 Y.gold.length q3) (.slice p4 Y.us.length q4) (.slice p5 Y.qs.length q5)) := (Bw.mk' (w := (w.alloc (Obj.cells #[.slice pk ks.length qk] 22))) Y _ _ _ _ _ (by rw [← hz]; simp)).below BC.out (by rw [← hz]; simp)
 have U1 : Hid (Ub (((w.alloc (Obj.cells #[.slice pk ks.length qk] 22)).alloc (Obj.cells #[.int .i64 Y.turn, .int .i64 Y.next, .int .i64 Y.wide, .int .i64 Y.high, .slice p1 Y.gs.length q1, .slice p2 Y.os.length q2, .slice p3 Y.gold.length q3, .slice p4 Y.us.length q4, .slice p5 Y.qs.length q5] 29)).alloc (Obj.cells #[.int .i64 u.id, .int .i64 u.player, .int .i64 u.kind, .int .i64 u.at_, .int .i64 u.life, .int .i64 u.load, .int .i64 u.task, .int .i64 u.goal] 44)) (z + 2) [u] []) := unit_one u (by rw [← hz]; simp)
 rw [hz]
 clear BA BB BC hz
 generalize (((w.alloc (Obj.cells #[.slice pk ks.length qk] 22)).alloc (Obj.cells #[.int .i64 Y.turn, .int .i64 Y.next, .int .i64 Y.wide, .int .i64 Y.high, .slice p1 Y.gs.length q1, .slice p2 Y.os.length q2, .slice p3 Y.gold.length q3, .slice p4 Y.us.length q4, .slice p5 Y.qs.length q5] 29)).alloc (Obj.cells #[.int .i64 u.id, .int .i64 u.player, .int .i64 u.kind, .int .i64 u.at_, .int .i64 u.life, .int .i64 u.load, .int .i64 u.task, .int .i64 u.goal] 44)) = w1 at *
 obtain ⟨x0, x1, x2, x3, x4, x5, x6, x7, x8⟩ := X1.out
 obtain ⟨y0, y1, y2, y3, y4, y5, y6, y7⟩ := U1.out.unc (i := 0) (o := u) rfl
 simp only [Nat.zero_mul, Nat.zero_add] at y0 y1 y2 y3 y4 y5 y6 y7
 rw [NN.out.2.2.2.1] at y3
 go_wp2_with fail
 refine (Near_ok _ Wn Hn Y.gs Y.os an w1 ?_ NN.out.2.2.1 NN.out.2.2.2.2.1 (NN.out.2.2.2.2.2.1.below B1.out)).mono ?_
 ·have h := fl_of (H.out.below B1.out)
  rw [← NN.out.1, ← NN.out.2.1]
  exact h
 rintro e w2 ⟨vn, rfl, hn, hb⟩
 have B2 : Hid (Below w.heap.size w w2) := B1.out.trans (hb.mono B1.out.size)
 have CK2 : Hid (w2.cell? ⟨z, 0, none⟩ = some (.slice pk ks.length qk)) := by unfold Hid; rw [hb.cell (p := ⟨z, 0, none⟩) (cell_lt CK.out)]; exact CK.out
 have X2 : Hid (Bw w2 (z + 1) Y (.slice p1 Y.gs.length q1) (.slice p2 Y.os.length q2) (.slice p3 Y.gold.length q3) (.slice p4 Y.us.length q4) (.slice p5 Y.qs.length q5)) := X1.out.below hb X1.out.lt
 have U2 : Hid (Ub w2 (z + 2) [u] []) := U1.out.below hb U1.out.lt
 have RN0 : Hid (Ro w2 vn (Fd.near Wn Hn an)) := hn
 obtain ⟨na, nc, rfl, -⟩ := hn
 clear hb x0 x1 x2 x3 x4 x5 x6 x7 x8 y0 y1 y2 y3 y4 y5 y6 y7 B1 CK X1 U1
 go_upto_region 3 with fail
 have BD : Hid (Below w2.heap.size w2 (w2.alloc (Obj.cells #[.slice na (Fd.near Wn Hn an).length nc] 23))) := (Below.refl _ _).alloc (Nat.le_refl _) _
 obtain ⟨bn, hbn⟩ : ∃ z, w2.heap.size = z := ⟨_, rfl⟩
 have CN : Hid ((w2.alloc (Obj.cells #[.slice na (Fd.near Wn Hn an).length nc] 23)).cell? ⟨bn, 0, none⟩ = some (.slice na (Fd.near Wn Hn an).length nc)) := by unfold Hid; rw [← hbn]; simp
 rw [hbn]
 clear hbn
 generalize (w2.alloc (Obj.cells #[.slice na (Fd.near Wn Hn an).length nc] 23)) = w3 at *
 have B3 : Hid (Below w.heap.size w w3) := B2.out.trans (BD.out.mono B2.out.size)
 have CK3 : Hid (w3.cell? ⟨z, 0, none⟩ = some (.slice pk ks.length qk)) := by unfold Hid; rw [BD.out.cell (p := ⟨z, 0, none⟩) (cell_lt CK2.out)]; exact CK2.out
 have X3 : Hid (Bw w3 (z + 1) Y (.slice p1 Y.gs.length q1) (.slice p2 Y.os.length q2) (.slice p3 Y.gold.length q3) (.slice p4 Y.us.length q4) (.slice p5 Y.qs.length q5)) := X2.out.below BD.out X2.out.lt
 have U3 : Hid (Ub w3 (z + 2) [u] []) := U2.out.below BD.out U2.out.lt
 have RN3 : Hid (Ro w3 (.slice na (Fd.near Wn Hn an).length nc) (Fd.near Wn Hn an)) := RN0.out.below BD.out
 have x7 := X3.out.c7
 clear BD B2 CK2 X2 U2 RN0
 go_wp2_with fail
 refine (hasq_any 92 (by intro args w; go_simp) _ #[.pointer (some ⟨z + 2, 0, none⟩), .pointer (some ⟨z, 0, none⟩), .pointer (some ⟨bn, 0, none⟩)] Y.us (takesIn ks (Fd.near Wn Hn an) u) w3 (H.out.below B3.out).slices.2.2.2.1 (fun W hW h hh => ?_)).mono ?_
 ·obtain ⟨⟨kn, k, f1, f2, -⟩, -⟩ := NN.out.2.2.2.2.2.2.units h hh
  obtain ⟨xk, hxk, hl, hc⟩ : ∃ x, pk = some x ∧ x.block < w.heap.size ∧ ∀ (i : Nat) k, ks[i]? = some k → Kc w (x.add (i * 11)) k := by
   obtain ⟨a', c', e', -, -, hx⟩ := K.out
   injection e' with e1' e2' e3'
   subst e1'
   exact hx (by rintro hn; rw [hn] at f2; simp at f2)
  subst hxk
  have bW : Below w.heap.size w W := B3.out.trans (hW.mono B3.out.size)
  obtain ⟨-, y1, -⟩ := (U3.out.below hW U3.out.lt).unc (i := 0) (o := u) rfl
  simp only [Nat.zero_mul, Nat.zero_add] at y1
  exact takesin_fn ks _ u h kn k (z + 2) z bn xk qk _ W f1 f2 y1 (by rw [hW.cell (p := ⟨z, 0, none⟩) (cell_lt CK3.out)]; exact CK3.out) (by rw [hW.cell (p := ⟨bn, 0, none⟩) (cell_lt CN.out)]; exact CN.out) ((hc kn k f2).below bW (by rw [add_block]; exact hl)) (RN3.out.below hW)
 rintro e w4 ⟨rfl, hb⟩
 have B4 : Hid (Below w.heap.size w w4) := B3.out.trans (hb.mono B3.out.size)
 clear hb x7
 go_wp2
 go_ret
 exact ⟨rfl, ⟨B4.out.os, B4.out.tape, B4.out.output, B4.out.size, B4.out.block⟩⟩
end Go.Proofs.YteieikgkmfglaaaGreatDoor
namespace Go.Proofs.YteieikgkmfglaaaGreatDoor
open Go.RowKit
set_option linter.unusedVariables false
def bringW (Y : WV) (i : Nat) (u : UnV) : WV := { Y with us := Y.us.set i (loadU u 0), gold := Y.gold.set u.player.toNat (min (Y.gold.getD u.player.toNat 0 + u.load) 1000000) }
def brings (ks : List KV) (Wn Hn : Nat) (Y : WV) (u : UnV) : Bool := decide (0 < u.load) && homeB ks Wn Hn u.at_.toNat Y u
/-- the first q units have brought; what happened. -/
def br (ks : List KV) (Wn Hn : Nat) (Y : WV) : Nat → WV × List EvV
 | 0 => (Y, [])
 | q + 1 => match (br ks Wn Hn Y q).1.us[q]? with
  | none => br ks Wn Hn Y q
  | some u => if brings ks Wn Hn (br ks Wn Hn Y q).1 u = true then (bringW (br ks Wn Hn Y q).1 q u, (br ks Wn Hn Y q).2 ++ [⟨5, u.id, u.load⟩]) else br ks Wn Hn Y q
theorem br_yes {ks : List KV} {Wn Hn : Nat} {Y : WV} {q : Nat} {u : UnV} (hu : (br ks Wn Hn Y q).1.us[q]? = some u) (h : brings ks Wn Hn (br ks Wn Hn Y q).1 u = true) : br ks Wn Hn Y (q + 1) = (bringW (br ks Wn Hn Y q).1 q u, (br ks Wn Hn Y q).2 ++ [⟨5, u.id, u.load⟩]) := by
 rw [br]; simp only [hu]; rw [if_pos h]
theorem br_no {ks : List KV} {Wn Hn : Nat} {Y : WV} {q : Nat} {u : UnV} (hu : (br ks Wn Hn Y q).1.us[q]? = some u) (h : brings ks Wn Hn (br ks Wn Hn Y q).1 u = false) : br ks Wn Hn Y (q + 1) = br ks Wn Hn Y q := by
 rw [br]; simp only [hu]; rw [if_neg (by rw [h]; simp)]
theorem DFit.bring {ks : List KV} {Y : WV} (h : DFit ks Y) {i : Nat} {u : UnV} (hu : Y.us[i]? = some u) : DFit ks (bringW Y i u) := by
 obtain ⟨⟨kn, k, e1, e2, l1, l2, l3⟩, ⟨an, e3, hal⟩, pn, e4, hpl⟩ := h.units u (List.mem_of_getElem? hu)
 have hlen : (bringW Y i u).gold.length = Y.gold.length := by simp [bringW]
 refine ⟨h.wide, fun v hv => ?_, fun g hg => ?_, by simpa [bringW] using h.ul⟩
 ·rw [hlen]
  rcases List.mem_or_eq_of_mem_set hv with hv | rfl
  ·exact h.units v hv
  ·exact ⟨⟨kn, k, e1, e2, by show (0 : Int) ≤ 0; omega, by show (0 : Int) ≤ k.n7; omega, l3⟩, ⟨an, e3, hal⟩, pn, e4, hpl⟩
 ·rcases List.mem_or_eq_of_mem_set hg with hg | rfl
  ·exact h.gold g hg
  ·have : Y.gold.getD u.player.toNat 0 ∈ Y.gold := by
    rw [e4, Int.toNat_natCast, List.getD_eq_getElem?_getD, List.getElem?_eq_getElem hpl]
    exact List.getElem_mem hpl
   have := h.gold _ this
   omega
/-- what bringing leaves as it was. -/
def BrK (Y Z : WV) : Prop := Z.turn = Y.turn ∧ Z.next = Y.next ∧ Z.wide = Y.wide ∧ Z.high = Y.high ∧ Z.gs = Y.gs ∧ Z.os = Y.os ∧ Z.qs = Y.qs ∧ Z.us.length = Y.us.length ∧ Z.gold.length = Y.gold.length
theorem br_evs {ks : List KV} {Wn Hn : Nat} {Y : WV} : ∀ q, (br ks Wn Hn Y q).2.length ≤ q
 | 0 => by simp [br]
 | q + 1 => by
  have ih := br_evs (ks := ks) (Wn := Wn) (Hn := Hn) (Y := Y) q
  cases hu : (br ks Wn Hn Y q).1.us[q]? with
  | none => rw [br]; simp only [hu]; omega
  | some u =>
   cases h : brings ks Wn Hn (br ks Wn Hn Y q).1 u with
   | true => rw [br_yes hu h]; simp; omega
   | false => rw [br_no hu h]; omega
structure BrS (ks : List KV) (Y Z : WV) (es : List EvV) (b1 b : Nat) (w : World) (u1 u2 u3 u4 u5 ev : Value) (V : World) : Prop where
 o1 : Ow V b1 u1 Z.gs
 o2 : Ow V b1 u2 Z.os
 o3 : Ow V b1 u3 Z.gold
 o4 : Uno V b1 u4 Z.us
 o5 : Jbo V b1 u5 Z.qs
 e : Evo V b ev es
 d : [u1, u2, u3, u4, u5].Pairwise Dif
 fr : Fr (fun q => u3.ownBlock = some q ∨ u4.ownBlock = some q) w V
 k : BrK Y Z
 f : DFit ks Z
section
variable {ks : List KV} {Y Z : WV} {es : List EvV} {b1 b : Nat} {w : World} {u1 u2 u3 u4 u5 ev : Value} {V V' : World}
theorem BrS.below (h : BrS ks Y Z es b1 b w u1 u2 u3 u4 u5 ev V) (hb : Below V.heap.size V V') : BrS ks Y Z es b1 b w u1 u2 u3 u4 u5 ev V' :=
 ⟨h.o1.below hb, h.o2.below hb, h.o3.below hb, h.o4.below hb, h.o5.below hb, h.e.below hb, h.d, h.fr.trans (Fr.below hb), h.k, h.f⟩
theorem BrS.wl (h : BrS ks Y Z es b1 b w u1 u2 u3 u4 u5 ev V) : Wl V (.agg #[.int .i64 Y.turn, .int .i64 Y.next, .int .i64 Y.wide, .int .i64 Y.high, u1, u2, u3, u4, u5]) Z := by
 obtain ⟨a1, a2, a3, a4, -⟩ := h.k
 exact ⟨u1, u2, u3, u4, u5, by rw [a1, a2, a3, a4], h.o1.ro, h.o2.ro, h.o3.ro, h.o4.l, h.o5.l⟩
theorem BrS.difs (h : BrS ks Y Z es b1 b w u1 u2 u3 u4 u5 ev V) : (Dif u1 u2 ∧ Dif u1 u3 ∧ Dif u1 u4 ∧ Dif u1 u5) ∧ (Dif u2 u3 ∧ Dif u2 u4 ∧ Dif u2 u5) ∧ (Dif u3 u4 ∧ Dif u3 u5) ∧ Dif u4 u5 := by
 have := h.d
 simp only [List.pairwise_cons, List.mem_cons, List.not_mem_nil, or_false, forall_eq_or_imp, forall_eq] at this
 obtain ⟨⟨a1, a2, a3, a4⟩, ⟨b1, b2, b3⟩, ⟨c1, c2⟩, d1, -⟩ := this
 exact ⟨⟨a1, a2, a3, a4⟩, ⟨b1, b2, b3⟩, ⟨c1, c2⟩, d1⟩
theorem BrS.bring {gu gg cu cg i : Nat} {ur : List Value} {gr : Array Value} {u : UnV} {ev' : Value} (h : BrS ks Y Z es b1 b w u1 u2 (.slice (some ⟨gg, 0, none⟩) Y.gold.length cg) (.slice (some ⟨gu, 0, none⟩) Y.us.length cu) u5 ev V) (hwb : w.heap.size = b)
  (hl : ∀ x ∈ [u1, u2, u5], ∀ k, x.ownBlock = some k → k < b) (hgu : b1 ≤ gu) (c1 : Y.us.length ≤ cu) (c2 : cu ≤ maxLen) (c3 : Y.us.length * 8 + ur.length = cu * 8) (hgg : b1 ≤ gg) (d1 : Y.gold.length ≤ cg) (d2 : cg ≤ maxLen) (d3 : Y.gold.length + gr.size = cg)
  (hu : Z.us[i]? = some u) (hub : Ub V' gu (bringW Z i u).us ur) (hbk : Bk V' gg (bringW Z i u).gold gr) (he : Evo V' b ev' (es ++ [⟨5, u.id, u.load⟩])) (hf : Fr (fun q => q = gu ∨ q = gg ∨ ev.ownBlock = some q) V V') :
  BrS ks Y (bringW Z i u) (es ++ [⟨5, u.id, u.load⟩]) b1 b w u1 u2 (.slice (some ⟨gg, 0, none⟩) Y.gold.length cg) (.slice (some ⟨gu, 0, none⟩) Y.us.length cu) u5 ev' V' := by
 obtain ⟨⟨d12, d13, d14, d15⟩, ⟨d23, d24, d25⟩, ⟨d34, d35⟩, d45⟩ := h.difs
 have owu : (Value.slice (some ⟨gu, 0, none⟩) Y.us.length cu).ownBlock = some gu := rfl
 have owg : (Value.slice (some ⟨gg, 0, none⟩) Y.gold.length cg).ownBlock = some gg := rfl
 have no : ∀ x ∈ [u1, u2, u5], Dif x (.slice (some ⟨gg, 0, none⟩) Y.gold.length cg) → Dif x (.slice (some ⟨gu, 0, none⟩) Y.us.length cu) → ∀ q, x.ownBlock = some q → ¬ (q = gu ∨ q = gg ∨ ev.ownBlock = some q) := fun x hx e2 e4 q hq hs => by
  rcases hs with e | e | e
  ·exact e4 q hq (by rw [owu, e])
  ·exact e2 q hq (by rw [owg, e])
  ·have h8 := (h.e.block q e).1; have h9 := hl x hx q hq; omega
 have k' : BrK Y (bringW Z i u) := by
  obtain ⟨a1, a2, a3, a4, a5, a6, a7, a8, a9⟩ := h.k
  exact ⟨a1, a2, a3, a4, a5, a6, a7, by simpa [bringW] using a8, by simpa [bringW] using a9⟩
 refine ⟨hf.own h.o1 (no u1 (by simp) d13 d14), hf.own h.o2 (no u2 (by simp) d23 d24), ?_, ?_, hf.own h.o5 (no u5 (by simp) d35.symm d45.symm), he, h.d, ?_, k', h.f.bring hu⟩
 ·have := hbk.ow (base := b1) (cap := cg) hgg (by rw [k'.2.2.2.2.2.2.2.2]; exact d1) d2 (by rw [k'.2.2.2.2.2.2.2.2]; exact d3)
  rw [k'.2.2.2.2.2.2.2.2] at this
  exact this
 ·have := hub.uno (base := b1) (cap := cu) hgu (by rw [k'.2.2.2.2.2.2.2.1]; exact c1) c2 (by rw [k'.2.2.2.2.2.2.2.1]; exact c3)
  rw [k'.2.2.2.2.2.2.2.1] at this
  exact this
 ·refine ⟨hf.os.trans h.fr.os, hf.tape.trans h.fr.tape, hf.output.trans h.fr.output, Nat.le_trans h.fr.size hf.size, fun q hq hn => (hf.block q (Nat.lt_of_lt_of_le hq h.fr.size) (fun e => ?_)).trans (h.fr.block q hq hn)⟩
  rcases e with e | e | e
  ·exact hn (.inr (by rw [owu, e]))
  ·exact hn (.inl (by rw [owg, e]))
  ·have := (h.e.block q e).1; omega
end
end Go.Proofs.YteieikgkmfglaaaGreatDoor
namespace Go.Proofs.YteieikgkmfglaaaGreatDoor
open Go.RowKit
set_option linter.unusedVariables false
end Go.Proofs.YteieikgkmfglaaaGreatDoor
namespace Go.Proofs.YteieikgkmfglaaaGreatDoor
open Go.RowKit
set_option linter.unusedVariables false
/-- one more event: the run itself. -/
theorem run_ev (w : World) (ty : TypeId) (base : Nat) (v : Value) (ks : List EvV) (hown : Evo w base v ks) (b : Nat) (d : EvV) (hd : Evc w ⟨b, 0, none⟩ d) (hl : ks.length ≤ 1000000) (hbase : base ≤ w.heap.size) :
  ∃ g cap w', (Builtin.append_ #[31, 31] ty #[v, .slice (some ⟨b, 0, none⟩) 1 1]).run Tryz.prog w = .ok (.slice (some ⟨g, 0, none⟩) (ks.length + 1) cap) w' ∧ Evo w' base (.slice (some ⟨g, 0, none⟩) (ks.length + 1) cap) (ks ++ [d]) ∧ w.grownBy w' v.ownBlock ∧ (v.ownBlock = some g ∨ g = w.heap.size) ∧ g < w'.heap.size := by
 obtain ⟨i0, hi, hz0, hz1, hz2⟩ := info_parts info_ev
 obtain ⟨g, cap, w6, hr, ho6, hg6, ha6, hl6⟩ := run_append_lies (P := Tryz.prog) w 31 31 base 73 i0 _ 3 24 Tryz.underlying31 hi hz0 hz1 hz2 rfl (by decide) v ks.length _ hown ⟨b, 0, none⟩ 1 1 (EvV.cs d) rfl (fun j u hj => by
  have hjn : j < 3 := (List.getElem?_eq_some_iff.1 hj).1
  rw [Addr.add_lit, Nat.zero_add]
  match j, hjn, hj with
  | 0, _, hj => simp [EvV.cs] at hj; subst hj; exact hd.c0
  | 1, _, hj => simp [EvV.cs] at hj; subst hj; exact hd.c1
  | 2, _, hj => simp [EvV.cs] at hj; subst hj; exact hd.c2) (fun u hu => by
  simp [EvV.cs] at hu
  rcases hu with rfl | rfl | rfl <;> rfl) (by decide) (by unfold maxLen; omega) (by omega) hbase _ rfl
 refine ⟨g, cap, w6, hr, ?_, hg6, ha6, hl6⟩
 unfold Evo
 rw [List.length_append, List.flatMap_append]
 simpa using ho6
end Go.Proofs.YteieikgkmfglaaaGreatDoor
namespace Go.Proofs.YteieikgkmfglaaaGreatDoor
open Go.RowKit
set_option linter.unusedVariables false
def BrI (ks : List KV) (Wn Hn : Nat) (Y : WV) (z b1 : Nat) (w1 : World) (u1 u2 u3 u4 u5 ev j : Value) (V : World) : Prop := ∃ q : Nat, q ≤ Y.us.length ∧ j = .int .i64 (q : Nat) ∧ Wx V z (.int .i64 Y.turn) (.int .i64 Y.next) (.int .i64 Y.wide) (.int .i64 Y.high) u1 u2 u3 u4 u5 ∧ BrS ks Y (br ks Wn Hn Y q).1 (br ks Wn Hn Y q).2 b1 (z + 1) w1 u1 u2 u3 u4 u5 ev V
set_option maxRecDepth 100000 in
set_option maxHeartbeats 16000000 in
theorem bring_any (vk : Value) (ks : List KV) (Y : WV) (u1 u2 u3 u4 u5 : Value) (b1 : Nat) (w0 w : World) (hk : Kl w0 vk ks) (hb0 : Below w0.heap.size w0 w) (h0b : w0.heap.size ≤ b1) (o1 : Ow w b1 u1 Y.gs) (o2 : Ow w b1 u2 Y.os) (o3 : Ow w b1 u3 Y.gold) (o4 : Uno w b1 u4 Y.us) (o5 : Jbo w b1 u5 Y.qs) (hd : [u1, u2, u3, u4, u5].Pairwise Dif) (hf : DFit ks Y) (Wn Hn : Nat) (e1 : Y.wide = (Wn : Nat)) (e2 : Y.high = (Hn : Nat)) (G : Fd.Good Wn Hn Y.gs Y.os) (hs : Sd w0) :
  Calls Tryz.prog 34 #[vk, .agg #[.int .i64 Y.turn, .int .i64 Y.next, .int .i64 Y.wide, .int .i64 Y.high, u1, u2, u3, u4, u5]] w fun e w' => ∃ ev, e = .returned ev ∧ BrS ks Y (br ks Wn Hn Y Y.us.length).1 (br ks Wn Hn Y Y.us.length).2 b1 w.heap.size w u1 u2 u3 u4 u5 ev w' := by
 have WH : Hid (Y.wide = (Wn : Nat) ∧ Y.high = (Hn : Nat) ∧ Fd.Good Wn Hn Y.gs Y.os ∧ Sd w0) := ⟨e1, e2, G, hs⟩
 clear e1 e2 G hs
 have KB : Hid (Kl w0 vk ks ∧ Below w0.heap.size w0 w ∧ w0.heap.size ≤ b1) := ⟨hk, hb0, h0b⟩
 obtain ⟨pk, qk, rfl, ck1, ck2, kc⟩ := hk
 have T0 : Hid (BrS ks Y Y [] b1 w.heap.size w u1 u2 u3 u4 u5 (.slice none 0 0) w) := ⟨o1, o2, o3, o4, o5, Evo.nil _ _, hd, Fr.below (Below.refl _ _), ⟨rfl, rfl, rfl, rfl, rfl, rfl, rfl, rfl, rfl⟩, hf⟩
 have LW : Hid (∀ x ∈ [u1, u2, u5], ∀ k, x.ownBlock = some k → k < w.heap.size) := by
  intro x hx k hk
  simp only [List.mem_cons, List.not_mem_nil, or_false] at hx
  rcases hx with rfl | rfl | rfl
  ·exact (o1.block k hk).2
  ·exact (o2.block k hk).2
  ·exact (o5.block k hk).2
 have L24 : Hid ((∀ k, u3.ownBlock = some k → b1 ≤ k ∧ k < w.heap.size) ∧ ∀ k, u4.ownBlock = some k → b1 ≤ k ∧ k < w.heap.size) := ⟨o3.block, o4.block⟩
 have ul : Y.us.length ≤ 40 := hf.ul
 obtain ⟨a1, h1, rfl⟩ := o1.len
 obtain ⟨a2, h2, rfl⟩ := o2.len
 obtain ⟨a3, h3, rfl⟩ := o3.len
 obtain ⟨a4, h4, rfl⟩ := o4.len
 obtain ⟨a5, h5, rfl⟩ := o5.len
 clear hb0 h0b kc o1 o2 o3 o4 o5 hd hf
 go_enter Tryz.func34, Tryz.ntmps34
 go_upto_region 2 with fail
 have BA : Hid (Below w.heap.size w (w.alloc (Obj.cells #[.int .i64 Y.turn, .int .i64 Y.next, .int .i64 Y.wide, .int .i64 Y.high, .slice a1 Y.gs.length h1, .slice a2 Y.os.length h2, .slice a3 Y.gold.length h3, .slice a4 Y.us.length h4, .slice a5 Y.qs.length h5] 29))) := (Below.refl _ _).alloc (Nat.le_refl _) _
 obtain ⟨z, hz⟩ : ∃ z, w.heap.size = z := ⟨_, rfl⟩
 have HZ : Hid (w.heap.size = z) := hz
 have X1 : Hid (Wx (w.alloc (Obj.cells #[.int .i64 Y.turn, .int .i64 Y.next, .int .i64 Y.wide, .int .i64 Y.high, .slice a1 Y.gs.length h1, .slice a2 Y.os.length h2, .slice a3 Y.gold.length h3, .slice a4 Y.us.length h4, .slice a5 Y.qs.length h5] 29)) z (.int .i64 Y.turn) (.int .i64 Y.next) (.int .i64 Y.wide) (.int .i64 Y.high) (.slice a1 Y.gs.length h1) (.slice a2 Y.os.length h2) (.slice a3 Y.gold.length h3) (.slice a4 Y.us.length h4) (.slice a5 Y.qs.length h5)) := Wx.new (w := w) _ _ _ _ _ _ _ _ _ hz
 have S1 : Hid ((w.alloc (Obj.cells #[.int .i64 Y.turn, .int .i64 Y.next, .int .i64 Y.wide, .int .i64 Y.high, .slice a1 Y.gs.length h1, .slice a2 Y.os.length h2, .slice a3 Y.gold.length h3, .slice a4 Y.us.length h4, .slice a5 Y.qs.length h5] 29)).heap.size = z + 1) := by unfold Hid; rw [← hz]; simp
 rw [hz]
 clear hz
 generalize w.alloc (Obj.cells #[.int .i64 Y.turn, .int .i64 Y.next, .int .i64 Y.wide, .int .i64 Y.high, .slice a1 Y.gs.length h1, .slice a2 Y.os.length h2, .slice a3 Y.gold.length h3, .slice a4 Y.us.length h4, .slice a5 Y.qs.length h5] 29) = w1 at *
 have T1 : Hid (BrS ks Y Y [] b1 (z + 1) w1 (.slice a1 Y.gs.length h1) (.slice a2 Y.os.length h2) (.slice a3 Y.gold.length h3) (.slice a4 Y.us.length h4) (.slice a5 Y.qs.length h5) (.slice none 0 0) w1) := by
  have h := T0.out.below BA.out
  exact ⟨h.o1, h.o2, h.o3, h.o4, h.o5, Evo.nil _ _, h.d, Fr.below (Below.refl _ _), h.k, h.f⟩
 clear T0
 obtain ⟨x0, x1, x2, x3, x4, x5, x6, x7, x8⟩ := X1.out.cells
 go_wp2_with fail
 clear x0 x1 x2 x3 x4 x5 x6 x7 x8
 go_loopw [5, 11] (fun ev j V => BrI ks Wn Hn Y z b1 w1 (.slice a1 Y.gs.length h1) (.slice a2 Y.os.length h2) (.slice a3 Y.gold.length h3) (.slice a4 Y.us.length h4) (.slice a5 Y.qs.length h5) ev j V) (fun _ j _ => Y.us.length - (intOf j).toNat)
 case atStart => exact ⟨0, Nat.zero_le _, rfl, X1.out, T1.out⟩
 case round =>
  obtain ⟨q, hq, rfl, hx, ht⟩ := hrel
  obtain ⟨Z, hZ⟩ : ∃ Z, (br ks Wn Hn Y q).1 = Z := ⟨_, rfl⟩
  obtain ⟨es, hE⟩ : ∃ es, (br ks Wn Hn Y q).2 = es := ⟨_, rfl⟩
  have HQ : Hid ((br ks Wn Hn Y q).1 = Z ∧ (br ks Wn Hn Y q).2 = es) := ⟨hZ, hE⟩
  have EL : Hid (es.length ≤ 40) := by have h9 := br_evs (ks := ks) (Wn := Wn) (Hn := Hn) (Y := Y) q; rw [hE] at h9; unfold Hid; omega
  rw [hZ, hE] at ht
  clear hZ hE
  obtain ⟨ea, ec, rfl⟩ := ht.e.len
  have TQ : Hid (BrS ks Y Z es b1 (z + 1) w1 (.slice a1 Y.gs.length h1) (.slice a2 Y.os.length h2) (.slice a3 Y.gold.length h3) (.slice a4 Y.us.length h4) (.slice a5 Y.qs.length h5) (.slice ea es.length ec) wr) := ht
  have XQ : Hid (Wx wr z (.int .i64 Y.turn) (.int .i64 Y.next) (.int .i64 Y.wide) (.int .i64 Y.high) (.slice a1 Y.gs.length h1) (.slice a2 Y.os.length h2) (.slice a3 Y.gold.length h3) (.slice a4 Y.us.length h4) (.slice a5 Y.qs.length h5)) := hx
  clear hx ht
  by_cases hqn : q = Y.us.length
  ·have FIN : Hid ((br ks Wn Hn Y Y.us.length).1 = Z ∧ (br ks Wn Hn Y Y.us.length).2 = es) := by rw [← hqn]; exact HQ.out
   subst hqn
   go_wp2
   go_ret
   refine ⟨_, rfl, ?_⟩
   rw [FIN.out.1, FIN.out.2]
   have h := TQ.out
   exact ⟨h.o1, h.o2, h.o3, h.o4, h.o5, h.e.mono (by have := HZ.out; omega), h.d, (Fr.below BA.out).trans h.fr, h.k, h.f⟩
  ·have hql : q < Y.us.length := by omega
   have hqi : ((q : Nat) : Int) < (Y.us.length : Nat) := by omega
   have hzl : q < Z.us.length := by rw [TQ.out.k.2.2.2.2.2.2.2.1]; exact hql
   obtain ⟨u, hu⟩ : ∃ u, Z.us[q]? = some u := ⟨_, List.getElem?_eq_getElem hzl⟩
   obtain ⟨⟨kn, k, hkn, hkk, l1, l2, l3⟩, ⟨an, han, hal⟩, pn, hpn, hpl⟩ := TQ.out.f.units u (List.mem_of_getElem? hu)
   obtain ⟨x, hx⟩ : ∃ x, Z.gold[pn]? = some x := ⟨_, List.getElem?_eq_getElem hpl⟩
   have UU : Hid (Z.us[q]? = some u ∧ u.player = (pn : Nat) ∧ Z.gold[pn]? = some x ∧ u.at_ = (an : Nat) ∧ an < Wn * Hn) := ⟨hu, hpn, hx, han, by rw [TQ.out.k.2.2.2.2.2.1, WH.out.2.2.1.ol] at hal; exact hal⟩
   have OX := TQ.out.f.gold x (List.mem_of_getElem? hx)
   have hali : ((pn : Nat) : Int) < (Y.gold.length : Nat) := by rw [← TQ.out.k.2.2.2.2.2.2.2.2]; omega
   obtain ⟨gu, cu, ur, e4, hgu, c1, c2, c3, hub⟩ : ∃ g cap rest, Value.slice a4 Y.us.length h4 = .slice (some ⟨g, 0, none⟩) Y.us.length cap ∧ b1 ≤ g ∧ Y.us.length ≤ cap ∧ cap ≤ maxLen ∧ Y.us.length * 8 + rest.length = cap * 8 ∧ Ub wr g Z.us rest := by
    rcases TQ.out.o4.ub with ⟨-, h⟩ | ⟨g, cap, rest, h⟩
    ·rw [h] at hzl; simp at hzl
    ·rw [TQ.out.k.2.2.2.2.2.2.2.1] at h; exact ⟨g, cap, rest, h⟩
   injection e4 with e41 e42 e43
   subst e41 e43
   obtain ⟨gs, co, sr, e2, hgs, d1, d2, d3, hbk⟩ : ∃ g cap rest, Value.slice a3 Y.gold.length h3 = .slice (some ⟨g, 0, none⟩) Y.gold.length cap ∧ b1 ≤ g ∧ Y.gold.length ≤ cap ∧ cap ≤ maxLen ∧ Y.gold.length + rest.size = cap ∧ Bk wr g Z.gold rest := by
    rcases TQ.out.o3.bk with ⟨-, h⟩ | ⟨g, cap, rest, h⟩
    ·rw [h] at hpl; simp at hpl
    ·rw [TQ.out.k.2.2.2.2.2.2.2.2] at h; exact ⟨g, cap, rest, h⟩
   injection e2 with e21 e22 e23
   subst e21 e23
   have GB : Hid (b1 ≤ gu ∧ Y.us.length ≤ h4 ∧ h4 ≤ maxLen ∧ Y.us.length * 8 + ur.length = h4 * 8 ∧ b1 ≤ gs ∧ Y.gold.length ≤ h3 ∧ h3 ≤ maxLen ∧ Y.gold.length + sr.size = h3) := ⟨hgu, c1, c2, c3, hgs, d1, d2, d3⟩
   have UB : Hid (∀ V, Below wr.heap.size wr V → Ub V gu Z.us ur) := fun V hV => hub.below hV hub.lt
   have BB : Hid (∀ V, Below wr.heap.size wr V → Bk V gs Z.gold sr) := fun V hV => hbk.below hV
   have GL : Hid (gu < z ∧ gs < z ∧ gu ≠ gs) := by
    rw [← HZ.out]
    refine ⟨(L24.out.2 gu rfl).2, (L24.out.1 gs rfl).2, fun e => TQ.out.difs.2.2.1.1 gs rfl (by rw [← e]; rfl)⟩
   have KV' : Hid (∀ V, Below wr.heap.size wr V → Kl V (.slice pk ks.length qk) ks) := fun V hV => by
    have b01 : Below w0.heap.size w0 w1 := KB.out.2.1.trans (BA.out.mono KB.out.2.1.size)
    have b1r : Below w0.heap.size w1 wr := TQ.out.fr.low b01.size (fun k hk => by
     rcases hk with hk | hk
     ·have := (L24.out.1 k hk).1; have := KB.out.2.2; omega
     ·have := (L24.out.2 k hk).1; have := KB.out.2.2; omega)
    exact KB.out.1.below ((b01.trans b1r).trans (hV.mono (b01.trans b1r).size))
   have SV : Hid (∀ V, Below wr.heap.size wr V → Sd V) := fun V hV => by
    have b01 : Below w0.heap.size w0 w1 := KB.out.2.1.trans (BA.out.mono KB.out.2.1.size)
    have b1r : Below w0.heap.size w1 wr := TQ.out.fr.low b01.size (fun k hk => by
     rcases hk with hk | hk
     ·have := (L24.out.1 k hk).1; have := KB.out.2.2; omega
     ·have := (L24.out.2 k hk).1; have := KB.out.2.2; omega)
    exact WH.out.2.2.2.below ((b01.trans b1r).trans (hV.mono (b01.trans b1r).size))
   have CV : Hid (∀ V, Below wr.heap.size wr V → Wx V z (.int .i64 Y.turn) (.int .i64 Y.next) (.int .i64 Y.wide) (.int .i64 Y.high) (.slice a1 Y.gs.length h1) (.slice a2 Y.os.length h2) (.slice (some ⟨gs, 0, none⟩) Y.gold.length h3) (.slice (some ⟨gu, 0, none⟩) Y.us.length h4) (.slice a5 Y.qs.length h5) ∧ Unc V ⟨gu, q * 8, none⟩ u) := fun V hV => ⟨XQ.out.below hV XQ.out.lt, (UB.out V hV).unc UU.out.1⟩
   have D5 : Hid (Below wr.heap.size wr { wr with drawn := wr.drawn + 1 }) := (Below.refl _ _).drew
   have xq := XQ.out
   obtain ⟨x0, x1, x2, x3, x4, x5, x6, x7, x8⟩ := xq.cells
   obtain ⟨y0, y1, y2, y3, y4, y5, y6, y7⟩ := (CV.out _ (Below.refl _ _)).2
   clear xq hu hpn hkn hkk han hx hal hzl hgu c1 c2 c3 hgs d1 d2 d3 hub hbk e42 e22 hpl
   go_upto_region 6 with fail
   by_cases hld : 0 < u.load
   case neg =>
    have NX : Hid (br ks Wn Hn Y (q + 1) = (Z, es)) := by
     have h9 := br_no (ks := ks) (Wn := Wn) (Hn := Hn) (Y := Y) (q := q) (u := u) (by rw [HQ.out.1]; exact UU.out.1) (by unfold brings; rw [decide_eq_false hld]; rfl)
     unfold Hid
     rw [h9, ← HQ.out.1, ← HQ.out.2]
    go_quiet (fail)
    have D6 : Hid (Below wr.heap.size wr (wr.drewN nq)) := ⟨rfl, rfl, rfl, Nat.le_refl _, fun _ _ => rfl⟩
    generalize wr.drewN nq = w6 at *
    go_wp2
    go_round
    case rel => exact ⟨q + 1, by omega, by go_num, XQ.out.below D6.out XQ.out.lt, by rw [NX.out]; exact TQ.out.below D6.out⟩
    case measure => simp [intOf]; omega
   clear x0 x1 x2 x3 x4 x5 x6 x7 x8 y0 y1 y2 y3 y4 y5 y6 y7
   refine wp_region_two [(true, 0), (true, 1), (true, 2), (true, 3), (true, 4), (true, 5), (true, 6), (true, 7), (true, 8), (true, 9), (true, 10), (false, 11)] [(false, 12)] (fun V => Wx V z (.int .i64 Y.turn) (.int .i64 Y.next) (.int .i64 Y.wide) (.int .i64 Y.high) (.slice a1 Y.gs.length h1) (.slice a2 Y.os.length h2) (.slice (some ⟨gs, 0, none⟩) Y.gold.length h3) (.slice (some ⟨gu, 0, none⟩) Y.us.length h4) (.slice a5 Y.qs.length h5) ∧ Unc V ⟨gu, q * 8, none⟩ u) (by kernel_rfl) (by kernel_rfl) (by kernel_rfl) (by decide +kernel) (by decide +kernel) (CV.out _ D5.out) ?_
   generalize ({ wr with drawn := wr.drawn + 1 } : World) = w6 at *
   refine headT_read rfl (.pointer (some ⟨gu, q * 8, none⟩)) (by go_simp) (fun V hV => by go_simp) ?_
   go_simp
   refine headT_read rfl (.pointer (some ⟨gu, q * 8, none⟩)) (by go_simp) (fun V hV => by obtain ⟨hX, hU⟩ := hV; obtain ⟨x0, x1, x2, x3, x4, x5, x6, x7, x8⟩ := hX.cells; obtain ⟨y0, y1, y2, y3, y4, y5, y6, y7⟩ := hU; go_simp) ?_
   go_simp
   refine headT_read rfl (.pointer (some ⟨gu, q * 8 + 5, none⟩)) (by go_simp) (fun V hV => by go_simp) ?_
   go_simp
   refine headT_read rfl (.int .i64 u.load) (by go_simp) (fun V hV => by obtain ⟨hX, hU⟩ := hV; obtain ⟨x0, x1, x2, x3, x4, x5, x6, x7, x8⟩ := hX.cells; obtain ⟨y0, y1, y2, y3, y4, y5, y6, y7⟩ := hU; go_simp) ?_
   go_simp
   refine headT_read rfl (.bool true) (by go_simp) (fun V hV => by go_simp) ?_
   go_simp
   refine headT_read rfl (.bool true) (by go_simp) (fun V hV => by go_simp) ?_
   go_simp
   refine headT_read rfl (.slice pk ks.length qk) (by go_simp) (fun V hV => by go_simp) ?_
   go_simp
   refine headT_read rfl (.agg #[.int .i64 Y.turn, .int .i64 Y.next, .int .i64 Y.wide, .int .i64 Y.high, .slice a1 Y.gs.length h1, .slice a2 Y.os.length h2, .slice (some ⟨gs, 0, none⟩) Y.gold.length h3, .slice (some ⟨gu, 0, none⟩) Y.us.length h4, .slice a5 Y.qs.length h5]) (by go_simp) (fun V hV => by obtain ⟨hX, hU⟩ := hV; obtain ⟨x0, x1, x2, x3, x4, x5, x6, x7, x8⟩ := hX.cells; obtain ⟨y0, y1, y2, y3, y4, y5, y6, y7⟩ := hU; go_simp) ?_
   go_simp
   refine headT_read rfl (.pointer (some ⟨gu, q * 8, none⟩)) (by go_simp) (fun V hV => by go_simp) ?_
   go_simp
   refine headT_read rfl (.pointer (some ⟨gu, q * 8, none⟩)) (by go_simp) (fun V hV => by obtain ⟨hX, hU⟩ := hV; obtain ⟨x0, x1, x2, x3, x4, x5, x6, x7, x8⟩ := hX.cells; obtain ⟨y0, y1, y2, y3, y4, y5, y6, y7⟩ := hU; go_simp) ?_
   go_simp
   refine headT_read rfl (.agg #[.int .i64 u.id, .int .i64 u.player, .int .i64 u.kind, .int .i64 u.at_, .int .i64 u.life, .int .i64 u.load, .int .i64 u.task, .int .i64 u.goal]) (by go_simp) (fun V hV => by obtain ⟨hX, hU⟩ := hV; obtain ⟨x0, x1, x2, x3, x4, x5, x6, x7, x8⟩ := hX.cells; obtain ⟨y0, y1, y2, y3, y4, y5, y6, y7⟩ := hU; go_simp) ?_
   go_simp
   refine headT_call rfl 61 #[.slice pk ks.length qk, .agg #[.int .i64 Y.turn, .int .i64 Y.next, .int .i64 Y.wide, .int .i64 Y.high, .slice a1 Y.gs.length h1, .slice a2 Y.os.length h2, .slice (some ⟨gs, 0, none⟩) Y.gold.length h3, .slice (some ⟨gu, 0, none⟩) Y.us.length h4, .slice a5 Y.qs.length h5], .agg #[.int .i64 u.id, .int .i64 u.player, .int .i64 u.kind, .int .i64 u.at_, .int .i64 u.life, .int .i64 u.load, .int .i64 u.task, .int .i64 u.goal]] (by go_simp) (by go_simp) ?_
   have T6 : Hid (BrS ks Y Z es b1 (z + 1) w1 (.slice a1 Y.gs.length h1) (.slice a2 Y.os.length h2) (.slice (some ⟨gs, 0, none⟩) Y.gold.length h3) (.slice (some ⟨gu, 0, none⟩) Y.us.length h4) (.slice a5 Y.qs.length h5) (.slice ea es.length ec) w6) := TQ.out.below D5.out
   refine Calls.mono (ishome_any _ _ ks Z u Wn Hn an w6 (KV'.out _ D5.out) T6.out.wl T6.out.f (by rw [TQ.out.k.2.2.1]; exact WH.out.1) (by rw [TQ.out.k.2.2.2.1]; exact WH.out.2.1) (by rw [TQ.out.k.2.2.2.2.1, TQ.out.k.2.2.2.2.2.1]; exact WH.out.2.2.1) UU.out.2.2.2.1 UU.out.2.2.2.2 (SV.out _ D5.out)) ?_
   rintro e w7 ⟨rfl, b7⟩
   have D7 : Hid (Below wr.heap.size wr w7) := D5.out.trans (b7.mono D5.out.size)
   refine ⟨_, rfl, CV.out _ D7.out, ?_⟩
   have BR : Hid (brings ks Wn Hn Z u = homeB ks Wn Hn an Z u) := by unfold Hid brings; rw [decide_eq_true hld, UU.out.2.2.2.1, Int.toNat_natCast]; rfl
   obtain ⟨hh, hhh⟩ : ∃ b, homeB ks Wn Hn an Z u = b := ⟨_, rfl⟩
   rw [hhh] at BR ⊢
   clear b7 hhh T6
   go_simp
   refine sched_value rfl (.bool hh) w7 (by go_simp) (by go_simp) trivial ?_
   go_simp
   unfold wpSched
   have T7 : Hid (BrS ks Y Z es b1 (z + 1) w1 (.slice a1 Y.gs.length h1) (.slice a2 Y.os.length h2) (.slice (some ⟨gs, 0, none⟩) Y.gold.length h3) (.slice (some ⟨gu, 0, none⟩) Y.us.length h4) (.slice a5 Y.qs.length h5) (.slice ea es.length ec) w7) := TQ.out.below D7.out
   have X7 : Hid (Wx w7 z (.int .i64 Y.turn) (.int .i64 Y.next) (.int .i64 Y.wide) (.int .i64 Y.high) (.slice a1 Y.gs.length h1) (.slice a2 Y.os.length h2) (.slice (some ⟨gs, 0, none⟩) Y.gold.length h3) (.slice (some ⟨gu, 0, none⟩) Y.us.length h4) (.slice a5 Y.qs.length h5)) := XQ.out.below D7.out XQ.out.lt
   cases hh with
   | false =>
    have NX : Hid (br ks Wn Hn Y (q + 1) = (Z, es)) := by
     have h9 := br_no (ks := ks) (Wn := Wn) (Hn := Hn) (Y := Y) (q := q) (u := u) (by rw [HQ.out.1]; exact UU.out.1) (by rw [HQ.out.1]; exact BR.out)
     unfold Hid
     rw [h9, ← HQ.out.1, ← HQ.out.2]
    go_wp2
    go_round
    case rel => exact ⟨q + 1, by omega, by go_num, X7.out, by rw [NX.out]; exact T7.out⟩
    case measure => simp [intOf]; omega
   | true =>
    have NX : Hid (br ks Wn Hn Y (q + 1) = (bringW Z q u, es ++ [⟨5, u.id, u.load⟩])) := by
     have h9 := br_yes (ks := ks) (Wn := Wn) (Hn := Hn) (Y := Y) (q := q) (u := u) (by rw [HQ.out.1]; exact UU.out.1) (by rw [HQ.out.1]; exact BR.out)
     unfold Hid
     rw [h9, HQ.out.1, HQ.out.2]
    obtain ⟨mg, hmg⟩ : ∃ m, min (x + u.load) 1000000 = m := ⟨_, rfl⟩
    have HM : Hid (min (x + u.load) 1000000 = mg) := hmg
    have wr1 : IntKind.i64.wrap (x + u.load) = x + u.load := by rw [IntKind.wrap_i64]; omega
    have C7 : Hid (∀ V, Below w7.heap.size w7 V → Wx V z (.int .i64 Y.turn) (.int .i64 Y.next) (.int .i64 Y.wide) (.int .i64 Y.high) (.slice a1 Y.gs.length h1) (.slice a2 Y.os.length h2) (.slice (some ⟨gs, 0, none⟩) Y.gold.length h3) (.slice (some ⟨gu, 0, none⟩) Y.us.length h4) (.slice a5 Y.qs.length h5) ∧ Unc V ⟨gu, q * 8, none⟩ u ∧ V.cell? ⟨gs, pn, none⟩ = some (.int .i64 x)) := fun V hV => ⟨X7.out.below hV X7.out.lt, (UB.out V (D7.out.trans (hV.mono D7.out.size))).unc UU.out.1, (BB.out V (D7.out.trans (hV.mono D7.out.size))).cell UU.out.2.2.1⟩
    have D8 : Hid (Below w7.heap.size w7 { w7 with drawn := w7.drawn + 1 }) := (Below.refl _ _).drew
    clear hmg
    go_upto_region 7 with fail
    refine wp_region_two [(true, 0), (true, 1), (true, 2), (true, 3), (true, 4), (true, 5), (true, 6), (true, 7), (true, 8), (true, 9), (true, 10), (true, 11), (true, 12), (true, 13), (true, 14), (true, 15), (true, 16), (true, 17), (true, 18), (true, 19), (true, 20)] [(false, 21)] (fun V => Wx V z (.int .i64 Y.turn) (.int .i64 Y.next) (.int .i64 Y.wide) (.int .i64 Y.high) (.slice a1 Y.gs.length h1) (.slice a2 Y.os.length h2) (.slice (some ⟨gs, 0, none⟩) Y.gold.length h3) (.slice (some ⟨gu, 0, none⟩) Y.us.length h4) (.slice a5 Y.qs.length h5) ∧ Unc V ⟨gu, q * 8, none⟩ u ∧ V.cell? ⟨gs, pn, none⟩ = some (.int .i64 x)) (by kernel_rfl) (by kernel_rfl) (by kernel_rfl) (by decide +kernel) (by decide +kernel) (C7.out _ D8.out) ?_
    generalize ({ w7 with drawn := w7.drawn + 1 } : World) = w8 at *
    refine headT_read rfl (.pointer (some ⟨z, 6, none⟩)) (by go_simp) (fun V hV => by go_simp) ?_
    go_simp
    refine headT_read rfl (.slice (some ⟨gs, 0, none⟩) Y.gold.length h3) (by go_simp) (fun V hV => by obtain ⟨hX, hU, hG⟩ := hV; obtain ⟨x0, x1, x2, x3, x4, x5, x6, x7, x8⟩ := hX.cells; obtain ⟨y0, y1, y2, y3, y4, y5, y6, y7⟩ := hU; rw [UU.out.2.1] at y1; go_simp) ?_
    go_simp
    refine headT_read rfl (.pointer (some ⟨gu, q * 8, none⟩)) (by go_simp) (fun V hV => by go_simp) ?_
    go_simp
    refine headT_read rfl (.pointer (some ⟨gu, q * 8, none⟩)) (by go_simp) (fun V hV => by obtain ⟨hX, hU, hG⟩ := hV; obtain ⟨x0, x1, x2, x3, x4, x5, x6, x7, x8⟩ := hX.cells; obtain ⟨y0, y1, y2, y3, y4, y5, y6, y7⟩ := hU; rw [UU.out.2.1] at y1; go_simp) ?_
    go_simp
    refine headT_read rfl (.pointer (some ⟨gu, q * 8 + 1, none⟩)) (by go_simp) (fun V hV => by go_simp) ?_
    go_simp
    refine headT_read rfl (.int .i64 (pn : Nat)) (by go_simp) (fun V hV => by obtain ⟨hX, hU, hG⟩ := hV; obtain ⟨x0, x1, x2, x3, x4, x5, x6, x7, x8⟩ := hX.cells; obtain ⟨y0, y1, y2, y3, y4, y5, y6, y7⟩ := hU; rw [UU.out.2.1] at y1; go_simp) ?_
    go_simp
    refine headT_read rfl (.pointer (some ⟨z, 6, none⟩)) (by go_simp) (fun V hV => by go_simp) ?_
    go_simp
    refine headT_read rfl (.slice (some ⟨gs, 0, none⟩) Y.gold.length h3) (by go_simp) (fun V hV => by obtain ⟨hX, hU, hG⟩ := hV; obtain ⟨x0, x1, x2, x3, x4, x5, x6, x7, x8⟩ := hX.cells; obtain ⟨y0, y1, y2, y3, y4, y5, y6, y7⟩ := hU; rw [UU.out.2.1] at y1; go_simp) ?_
    go_simp
    refine headT_read rfl (.pointer (some ⟨gu, q * 8, none⟩)) (by go_simp) (fun V hV => by go_simp) ?_
    go_simp
    refine headT_read rfl (.pointer (some ⟨gu, q * 8, none⟩)) (by go_simp) (fun V hV => by obtain ⟨hX, hU, hG⟩ := hV; obtain ⟨x0, x1, x2, x3, x4, x5, x6, x7, x8⟩ := hX.cells; obtain ⟨y0, y1, y2, y3, y4, y5, y6, y7⟩ := hU; rw [UU.out.2.1] at y1; go_simp) ?_
    go_simp
    refine headT_read rfl (.pointer (some ⟨gu, q * 8 + 1, none⟩)) (by go_simp) (fun V hV => by go_simp) ?_
    go_simp
    refine headT_read rfl (.int .i64 (pn : Nat)) (by go_simp) (fun V hV => by obtain ⟨hX, hU, hG⟩ := hV; obtain ⟨x0, x1, x2, x3, x4, x5, x6, x7, x8⟩ := hX.cells; obtain ⟨y0, y1, y2, y3, y4, y5, y6, y7⟩ := hU; rw [UU.out.2.1] at y1; go_simp) ?_
    go_simp
    refine headT_read rfl (.pointer (some ⟨gs, pn, none⟩)) (by go_simp) (fun V hV => by go_simp) ?_
    go_simp
    refine headT_read rfl (.int .i64 x) (by go_simp) (fun V hV => by obtain ⟨hX, hU, hG⟩ := hV; obtain ⟨x0, x1, x2, x3, x4, x5, x6, x7, x8⟩ := hX.cells; obtain ⟨y0, y1, y2, y3, y4, y5, y6, y7⟩ := hU; rw [UU.out.2.1] at y1; go_simp) ?_
    go_simp
    refine headT_read rfl (.pointer (some ⟨gu, q * 8, none⟩)) (by go_simp) (fun V hV => by go_simp) ?_
    go_simp
    refine headT_read rfl (.pointer (some ⟨gu, q * 8, none⟩)) (by go_simp) (fun V hV => by obtain ⟨hX, hU, hG⟩ := hV; obtain ⟨x0, x1, x2, x3, x4, x5, x6, x7, x8⟩ := hX.cells; obtain ⟨y0, y1, y2, y3, y4, y5, y6, y7⟩ := hU; rw [UU.out.2.1] at y1; go_simp) ?_
    go_simp
    refine headT_read rfl (.pointer (some ⟨gu, q * 8 + 5, none⟩)) (by go_simp) (fun V hV => by go_simp) ?_
    go_simp
    refine headT_read rfl (.int .i64 u.load) (by go_simp) (fun V hV => by obtain ⟨hX, hU, hG⟩ := hV; obtain ⟨x0, x1, x2, x3, x4, x5, x6, x7, x8⟩ := hX.cells; obtain ⟨y0, y1, y2, y3, y4, y5, y6, y7⟩ := hU; rw [UU.out.2.1] at y1; go_simp) ?_
    go_simp
    refine headT_read rfl (.int .i64 (x + u.load)) (by go_simp) (fun V hV => by go_simp) ?_
    go_simp
    refine headT_read rfl (.int .i64 mg) (by go_simp) (fun V hV => by have h9 := HM.out; first | (go_simp; done) | (go_simp; rw [h9]) | (simp [h9]; go_simp)) ?_
    go_simp
    refine headT_read rfl (.pointer (some ⟨gs, pn, none⟩)) (by go_simp) (fun V hV => by go_simp) ?_
    go_simp
    unfold wpHeadT
    have D78 : Hid (Below wr.heap.size wr w8) := D7.out.trans (D8.out.mono D7.out.size)
    have X8 : Hid (Wx w8 z (.int .i64 Y.turn) (.int .i64 Y.next) (.int .i64 Y.wide) (.int .i64 Y.high) (.slice a1 Y.gs.length h1) (.slice a2 Y.os.length h2) (.slice (some ⟨gs, 0, none⟩) Y.gold.length h3) (.slice (some ⟨gu, 0, none⟩) Y.us.length h4) (.slice a5 Y.qs.length h5)) := XQ.out.below D78.out XQ.out.lt
    have T8 : Hid (BrS ks Y Z es b1 (z + 1) w1 (.slice a1 Y.gs.length h1) (.slice a2 Y.os.length h2) (.slice (some ⟨gs, 0, none⟩) Y.gold.length h3) (.slice (some ⟨gu, 0, none⟩) Y.us.length h4) (.slice a5 Y.qs.length h5) (.slice ea es.length ec) w8) := TQ.out.below D78.out
    have B8 : Hid (Bk w8 gs Z.gold sr) := BB.out _ D78.out
    have U8 : Hid (Ub w8 gu Z.us ur) := UB.out _ D78.out
    have tz := B8.out.thaw pn
    have cz := B8.out.cell UU.out.2.2.1
    refine sched_skip rfl (w8.setCell ⟨gs, pn, none⟩ (.int .i64 mg)) (by go_simp) (by go_simp) trivial ?_
    go_simp
    unfold wpSched
    have K9 : Hid (Kp gs w8 (w8.setCell ⟨gs, pn, none⟩ (.int .i64 mg))) := Kp.set _ _ _
    have B9 : Hid (Bk (w8.setCell ⟨gs, pn, none⟩ (.int .i64 mg)) gs (Z.gold.set pn mg) sr) := B8.out.set pn _ (List.getElem?_eq_some_iff.1 UU.out.2.2.1).1
    clear tz cz C7 wr1
    generalize (w8.setCell ⟨gs, pn, none⟩ (.int .i64 mg)) = w9 at *
    have F9 : Hid (Fr (fun q => q = gs) w8 w9) := Fr.kp K9.out rfl
    have X9 : Hid (Wx w9 z (.int .i64 Y.turn) (.int .i64 Y.next) (.int .i64 Y.wide) (.int .i64 Y.high) (.slice a1 Y.gs.length h1) (.slice a2 Y.os.length h2) (.slice (some ⟨gs, 0, none⟩) Y.gold.length h3) (.slice (some ⟨gu, 0, none⟩) Y.us.length h4) (.slice a5 Y.qs.length h5)) := F9.out.wx X8.out (by have := GL.out.2.1; omega)
    have U9 : Hid (Ub w9 gu Z.us ur) := (F9.out.block gu U8.out.lt (by have := GL.out.2.2; omega)).trans U8.out
    have E9 : Hid (Evo w9 (z + 1) (.slice ea es.length ec) es) := F9.out.own T8.out.e (fun b hb e => by have h9 := (T8.out.e.block b hb).1; have h8 := GL.out; omega)
    clear K9 X8 U8 B8
    go_upto_region 8 with fail
    have DE : Hid (Below w9.heap.size w9 { w9 with drawn := w9.drawn + 1 }) := (Below.refl _ _).drew
    have CE : Hid (∀ V, Below w9.heap.size w9 V → Unc V ⟨gu, q * 8, none⟩ u) := fun V hV => (U9.out.below hV U9.out.lt).unc UU.out.1
    refine wp_region_two [(true, 0), (true, 1), (true, 2), (true, 3), (true, 4), (true, 5), (true, 6), (true, 7), (true, 8), (true, 9), (false, 10), (false, 11)] [(false, 12)] (fun V => Unc V ⟨gu, q * 8, none⟩ u) (by kernel_rfl) (by kernel_rfl) (by kernel_rfl) (by decide +kernel) (by decide +kernel) (CE.out _ DE.out) ?_
    generalize ({ w9 with drawn := w9.drawn + 1 } : World) = wa at *
    refine headT_read rfl (.slice ea es.length ec) (by go_simp) (fun V hV => by go_simp) ?_
    go_simp
    refine headT_read rfl (.pointer (some ⟨gu, q * 8, none⟩)) (by go_simp) (fun V hV => by go_simp) ?_
    go_simp
    refine headT_read rfl (.pointer (some ⟨gu, q * 8, none⟩)) (by go_simp) (fun V hV => by obtain ⟨y0, y1, y2, y3, y4, y5, y6, y7⟩ := hV; go_simp) ?_
    go_simp
    refine headT_read rfl (.pointer (some ⟨gu, q * 8, none⟩)) (by go_simp) (fun V hV => by go_simp) ?_
    go_simp
    refine headT_read rfl (.int .i64 u.id) (by go_simp) (fun V hV => by obtain ⟨y0, y1, y2, y3, y4, y5, y6, y7⟩ := hV; go_simp) ?_
    go_simp
    refine headT_read rfl (.pointer (some ⟨gu, q * 8, none⟩)) (by go_simp) (fun V hV => by go_simp) ?_
    go_simp
    refine headT_read rfl (.pointer (some ⟨gu, q * 8, none⟩)) (by go_simp) (fun V hV => by obtain ⟨y0, y1, y2, y3, y4, y5, y6, y7⟩ := hV; go_simp) ?_
    go_simp
    refine headT_read rfl (.pointer (some ⟨gu, q * 8 + 5, none⟩)) (by go_simp) (fun V hV => by go_simp) ?_
    go_simp
    refine headT_read rfl (.int .i64 u.load) (by go_simp) (fun V hV => by obtain ⟨y0, y1, y2, y3, y4, y5, y6, y7⟩ := hV; go_simp) ?_
    go_simp
    refine headT_read rfl (.agg #[.int .i64 5, .int .i64 u.id, .int .i64 u.load]) (by go_simp) (fun V hV => by go_simp) ?_
    go_simp
    have BA : Hid (Below wa.heap.size wa (wa.alloc (Obj.cells #[.int .i64 5, .int .i64 u.id, .int .i64 u.load] 73))) := (Below.refl _ _).alloc (Nat.le_refl _) _
    have BAA : Hid (Below w9.heap.size w9 (wa.alloc (Obj.cells #[.int .i64 5, .int .i64 u.id, .int .i64 u.load] 73))) := DE.out.trans (BA.out.mono DE.out.size)
    have RC : Hid (Evc (wa.alloc (Obj.cells #[.int .i64 5, .int .i64 u.id, .int .i64 u.load] 73)) ⟨wa.heap.size, 0, none⟩ ⟨5, u.id, u.load⟩) := Evc.mk' (w := wa) ⟨5, u.id, u.load⟩ rfl
    refine headT_value rfl (.slice (some ⟨wa.heap.size, 0, none⟩) 1 1) (wa.alloc (Obj.cells #[.int .i64 5, .int .i64 u.id, .int .i64 u.load] 73)) (by go_simp) (by go_simp) (CE.out _ BAA.out) ?_
    go_simp
    generalize wa.alloc (Obj.cells #[.int .i64 5, .int .i64 u.id, .int .i64 u.load] 73) = wb at *
    have EB : Hid (Evo wb (z + 1) (.slice ea es.length ec) es) := E9.out.below BAA.out
    have SB : Hid (z + 1 ≤ wb.heap.size) := Nat.le_trans X9.out.lt BAA.out.size
    obtain ⟨gg, gc, wE, hr, ho8, hg8, -, -⟩ := run_ev wb 31 (z + 1) _ es EB.out _ _ RC.out (by have := EL.out; omega) SB.out
    have EO : Hid (Evo wE (z + 1) (.slice (some ⟨gg, 0, none⟩) (es.length + 1) gc) (es ++ [⟨5, u.id, u.load⟩])) := ho8
    have FE : Hid (Fr (fun q => (.slice ea es.length ec : Value).ownBlock = some q) w9 wE) := (Fr.below BAA.out).trans (Fr.gb hg8 (fun k hk => hk))
    have NE : Hid (∀ k, k ≤ z → ¬ (.slice ea es.length ec : Value).ownBlock = some k) := fun k hk e => by have := (E9.out.block k e).1; omega
    have UE : Hid (Ub wE gu Z.us ur) := (FE.out.block gu U9.out.lt (NE.out gu (by have := GL.out.1; omega))).trans U9.out
    have BK : Hid (Bk wE gs (Z.gold.set pn mg) sr) := (FE.out.block gs B9.out.lt (NE.out gs (by have := GL.out.2.1; omega))).trans B9.out
    have XE : Hid (Wx wE z (.int .i64 Y.turn) (.int .i64 Y.next) (.int .i64 Y.wide) (.int .i64 Y.high) (.slice a1 Y.gs.length h1) (.slice a2 Y.os.length h2) (.slice (some ⟨gs, 0, none⟩) Y.gold.length h3) (.slice (some ⟨gu, 0, none⟩) Y.us.length h4) (.slice a5 Y.qs.length h5)) := FE.out.wx X9.out (NE.out z (Nat.le_refl _))
    refine headT_value rfl (.slice (some ⟨gg, 0, none⟩) (es.length + 1) gc) wE (by go_simp) (exec_append _ _ _ _ rfl _ _ (by go_simp) (by go_simp) hr) (UE.out.unc UU.out.1) ?_
    clear hr ho8 hg8
    go_simp
    unfold wpHeadT
    refine sched_value rfl (.slice (some ⟨gg, 0, none⟩) (es.length + 1) gc) wE (by go_simp) (by go_simp) trivial ?_
    go_simp
    unfold wpSched
    obtain ⟨y0, y1, y2, y3, y4, y5, y6, y7⟩ := UE.out.unc UU.out.1
    have t5 := UE.out.thaw (q * 8 + 5)
    have UF : Hid (Ub (wE.setCell ⟨gu, q * 8 + 5, none⟩ (.int .i64 0)) gu (Z.us.set q (loadU u 0)) ur) := UE.out.set5 UU.out.1 0
    have KF : Hid (Kp gu wE (wE.setCell ⟨gu, q * 8 + 5, none⟩ (.int .i64 0))) := Kp.set _ _ _
    have BF : Hid (Bk (wE.setCell ⟨gu, q * 8 + 5, none⟩ (.int .i64 0)) gs (Z.gold.set pn mg) sr) := BK.out.other (by have := GL.out.2.2; omega) _ _
    go_upto_region 10 with fail
    clear y0 y1 y2 y3 y4 y5 y6 y7 t5
    generalize wE.setCell ⟨gu, q * 8 + 5, none⟩ (.int .i64 0) = wF at *
    have FF : Hid (Fr (fun q => q = gu) wE wF) := Fr.kp KF.out rfl
    have XF : Hid (Wx wF z (.int .i64 Y.turn) (.int .i64 Y.next) (.int .i64 Y.wide) (.int .i64 Y.high) (.slice a1 Y.gs.length h1) (.slice a2 Y.os.length h2) (.slice (some ⟨gs, 0, none⟩) Y.gold.length h3) (.slice (some ⟨gu, 0, none⟩) Y.us.length h4) (.slice a5 Y.qs.length h5)) := FF.out.wx XE.out (by have := GL.out.1; omega)
    have EF : Hid (Evo wF (z + 1) (.slice (some ⟨gg, 0, none⟩) (es.length + 1) gc) (es ++ [⟨5, u.id, u.load⟩])) := FF.out.own EO.out (fun b hb e => by have h9 := (EO.out.block b hb).1; have h8 := GL.out; omega)
    have FA : Hid (Fr (fun q => q = gu ∨ q = gs ∨ (.slice ea es.length ec : Value).ownBlock = some q) w8 wF) := ((F9.out.mono (fun k hk => .inr (.inl hk))).trans (FE.out.mono (fun k hk => .inr (.inr hk)))).trans (FF.out.mono (fun k hk => .inl hk))
    have EW : Hid ((bringW Z q u).gold = Z.gold.set pn mg) := by
     unfold Hid bringW
     simp only [UU.out.2.1, Int.toNat_natCast, List.getD_eq_getElem?_getD, UU.out.2.2.1, Option.getD_some, HM.out]
    have TE : Hid (BrS ks Y (bringW Z q u) (es ++ [⟨5, u.id, u.load⟩]) b1 (z + 1) w1 (.slice a1 Y.gs.length h1) (.slice a2 Y.os.length h2) (.slice (some ⟨gs, 0, none⟩) Y.gold.length h3) (.slice (some ⟨gu, 0, none⟩) Y.us.length h4) (.slice a5 Y.qs.length h5) (.slice (some ⟨gg, 0, none⟩) (es.length + 1) gc) wF) :=
     T8.out.bring (V' := wF) (i := q) (u := u) (ur := ur) (gr := sr) (ev' := .slice (some ⟨gg, 0, none⟩) (es.length + 1) gc) S1.out (fun y hy k hk => by have := LW.out y hy k hk; have := HZ.out; omega) GB.out.1 GB.out.2.1 GB.out.2.2.1 GB.out.2.2.2.1 GB.out.2.2.2.2.1 GB.out.2.2.2.2.2.1 GB.out.2.2.2.2.2.2.1 GB.out.2.2.2.2.2.2.2 UU.out.1 UF.out (by rw [EW.out]; exact BF.out) EF.out FA.out
    go_wp2
    go_round
    case rel => exact ⟨q + 1, by omega, by go_num, XF.out, by rw [NX.out]; exact TE.out⟩
    case measure => simp [intOf]; omega
end Go.Proofs.YteieikgkmfglaaaGreatDoor
namespace Go.Proofs.YteieikgkmfglaaaGreatDoor
open Go.RowKit
set_option linter.unusedVariables false
theorem len_ev (ks : List EvV) : (ks.flatMap EvV.cs).length = ks.length * 3 := by
 induction ks with
 | nil => rfl
 | cons x l ih => rw [List.flatMap_cons, List.length_append, ih, List.length_cons, Nat.succ_mul, Nat.add_comm]; rfl
theorem cell_ev {w : World} {y : Addr} {ks : List EvV} (hc : ∀ (i : Nat) k, ks[i]? = some k → Evc w (y.add (i * 3)) k) (j : Nat) (u : Value) (hj : (ks.flatMap EvV.cs)[j]? = some u) : w.cell? (y.add j) = some u := by
 have hjl : j < ks.length * 3 := by rw [← len_ev]; exact (List.getElem?_eq_some_iff.1 hj).1
 obtain ⟨i, r, hr, rfl⟩ : ∃ i r, r < 3 ∧ j = i * 3 + r := ⟨j / 3, j % 3, Nat.mod_lt _ (by decide), by omega⟩
 have hi : i < ks.length := by omega
 obtain ⟨k, hk⟩ : ∃ k, ks[i]? = some k := ⟨_, List.getElem?_eq_getElem hi⟩
 rw [flat_ev ks i r k hk hr] at hj
 have h := hc i k hk
 rcases Nat.eq_zero_or_pos r with rfl | hr0
 ·simp [EvV.cs] at hj
  subst hj
  exact h.c0
 ·have ea : y.add (i * 3 + r) = ⟨(y.add (i * 3)).block, (y.add (i * 3)).off + r, none⟩ := by
   unfold Addr.add
   rw [if_neg (by omega)]
   split <;> simp <;> omega
  rw [ea]
  match r, hr, hr0, hj with
  | 1, _, _, hj => simp [EvV.cs] at hj; subst hj; exact h.c1
  | 2, _, _, hj => simp [EvV.cs] at hj; subst hj; exact h.c2
theorem run_evs (w : World) (ty : TypeId) (base : Nat) (v : Value) (ks : List EvV) (hown : Evo w base v ks) (u : Value) (ys : List EvV) (hu : Evl w u ys) (hl : ks.length + ys.length ≤ 1000000) (hbase : base ≤ w.heap.size) :
  ∃ v' w', (Builtin.append_ #[31, 31] ty #[v, u]).run Tryz.prog w = .ok v' w' ∧ Evo w' base v' (ks ++ ys) ∧ w.grownBy w' v.ownBlock := by
 obtain ⟨i0, hi, hz0, hz1, hz2⟩ := info_parts info_ev
 obtain ⟨ad, c, rfl, h1, h2, h3⟩ := hu
 by_cases hn : ys = []
 ·subst hn
  exact ⟨v, w, run_append_no (P := Tryz.prog) (w := w) base 31 ty 73 i0 3 Tryz.underlying31 hi v ks.length _ hown ad c, by simpa using hown, World.grownBy.refl _ _⟩
 ·obtain ⟨y, rfl, hy, hc⟩ := h3 hn
  obtain ⟨g, cap, w6, hr, ho6, hg6, -, -⟩ := run_append_lies (P := Tryz.prog) w 31 31 base 73 i0 _ 3 24 Tryz.underlying31 hi hz0 hz1 hz2 rfl (by decide) v ks.length _ hown y ys.length c (ys.flatMap EvV.cs) (len_ev ys) (cell_ev hc) (fun u hu => by
   obtain ⟨k, -, hk⟩ := List.mem_flatMap.1 hu
   simp [EvV.cs] at hk
   rcases hk with rfl | rfl | rfl <;> rfl) (List.length_pos_iff.2 hn) (by unfold maxLen; omega) (by omega) hbase _ rfl
  refine ⟨_, w6, hr, ?_, hg6⟩
  unfold Evo
  rw [List.length_append, List.flatMap_append]
  exact ho6
end Go.Proofs.YteieikgkmfglaaaGreatDoor
namespace Go.Proofs.YteieikgkmfglaaaGreatDoor
open Go.RowKit
set_option linter.unusedVariables false
theorem len_jb (ks : List JbV) : (ks.flatMap JbV.cs).length = ks.length * 4 := by
 induction ks with
 | nil => rfl
 | cons x l ih => rw [List.flatMap_cons, List.length_append, ih, List.length_cons, Nat.succ_mul, Nat.add_comm]; rfl
theorem cell_jb {w : World} {y : Addr} {ks : List JbV} (hc : ∀ (i : Nat) k, ks[i]? = some k → Jbc w (y.add (i * 4)) k) (j : Nat) (u : Value) (hj : (ks.flatMap JbV.cs)[j]? = some u) : w.cell? (y.add j) = some u := by
 have hjl : j < ks.length * 4 := by rw [← len_jb]; exact (List.getElem?_eq_some_iff.1 hj).1
 obtain ⟨i, r, hr, rfl⟩ : ∃ i r, r < 4 ∧ j = i * 4 + r := ⟨j / 4, j % 4, Nat.mod_lt _ (by decide), by omega⟩
 have hi : i < ks.length := by omega
 obtain ⟨k, hk⟩ : ∃ k, ks[i]? = some k := ⟨_, List.getElem?_eq_getElem hi⟩
 rw [flat_jb ks i r k hk hr] at hj
 have h := hc i k hk
 rcases Nat.eq_zero_or_pos r with rfl | hr0
 ·simp [JbV.cs] at hj
  subst hj
  exact h.c0
 ·have ea : y.add (i * 4 + r) = ⟨(y.add (i * 4)).block, (y.add (i * 4)).off + r, none⟩ := by
   unfold Addr.add
   rw [if_neg (by omega)]
   split <;> simp <;> omega
  rw [ea]
  match r, hr, hr0, hj with
  | 1, _, _, hj => simp [JbV.cs] at hj; subst hj; exact h.c1
  | 2, _, _, hj => simp [JbV.cs] at hj; subst hj; exact h.c2
  | 3, _, _, hj => simp [JbV.cs] at hj; subst hj; exact h.c3
theorem app_jbs {ops : Array Oper} {rest : List Oper} {o : Oper} {a : Act} {Q : Exit → Act → World → Prop} (w : World) (hgd : o.guard = none) (s x : Operand)
  (ho : o.op = .call { callee := .builtin .append, args := #[s, x], argTypes := #[27, 27] }) (base : Nat) (v : Value) (ks : List JbV) (hs : a.eval s = v) (hown : Jbo w base v ks)
  (u : Value) (ys : List JbV) (hx : a.eval x = u) (hu : Jbl w u ys) (hl : ks.length + ys.length ≤ 100000000) (hbase : base ≤ w.heap.size)
  (h : ∀ v' w', Jbo w' base v' (ks ++ ys) → w.grownBy w' v.ownBlock → (v'.ownBlock = v.ownBlock ∨ v'.ownBlock = some w.heap.size) → wpList Tryz.prog ops Q rest (a.put o.dst v') w') :
  wpList Tryz.prog ops Q (o :: rest) a w := by
 obtain ⟨i0, hi, hz0, hz1, hz2⟩ := info_parts info_jb
 obtain ⟨ad, c, rfl, h1, h2, h3⟩ := hu
 by_cases hn : ys = []
 ·subst hn
  refine wpList_plain hgd fun K hK => ?_
  have hrun := run_append_no (P := Tryz.prog) (w := w) base 27 o.type 71 i0 4 Tryz.underlying27 hi v ks.length _ hown ad c
  have hx' : a.eval x = .slice ad 0 c := hx
  unfold Oper.wp
  simp [execOp, ho, resolve, invoke, builtin, hs, hx', hrun, Result.andThen]
  exact hK _ _ (h v w (by simpa using hown) (World.grownBy.refl _ _) (.inl rfl))
 ·obtain ⟨y, rfl, hy, hc⟩ := h3 hn
  refine wpList_append_lies w hgd s x 27 ho base 71 i0 _ 4 32 Tryz.underlying27 hi hz0 hz1 hz2 rfl (by decide) v ks.length _ hs hown y ys.length c (ys.flatMap JbV.cs) hx (len_jb ys) (cell_jb hc) ?_ (List.length_pos_iff.2 hn) (by unfold maxLen; omega) (by omega) hbase _ rfl ?_
  ·intro u hu
   obtain ⟨k, -, hk⟩ := List.mem_flatMap.1 hu
   simp [JbV.cs] at hk
   rcases hk with rfl | rfl | rfl | rfl <;> rfl
  ·intro g cap w' k1 k2 k3 _
   refine h _ w' ?_ k2 ?_
   ·unfold Jbo
    rw [List.length_append, List.flatMap_append]
    exact k1
   ·rcases k3 with k3 | k3
    ·exact .inl k3.symm
    ·exact .inr (by rw [k3]; rfl)
end Go.Proofs.YteieikgkmfglaaaGreatDoor
namespace Go.Proofs.YteieikgkmfglaaaGreatDoor
open Go.RowKit
set_option linter.unusedVariables false
set_option maxHeartbeats 1000000 in
theorem fresh_ints (v : Value) (xs : List Int) (w : World) (h : Ro w v xs) (hl : xs.length ≤ 100000000) :
  Calls Tryz.prog 57 #[v] w fun e w' => ∃ u, e = .returned u ∧ Ow w' w.heap.size u xs ∧ Below w.heap.size w w' := by
 have H : Hid (Ro w v xs) := h
 clear h
 go_enter Tryz.func57, Tryz.ntmps57
 go_wp2_with (at_builtin; refine app_row _ rfl _ _ rfl w.heap.size _ [] rfl (Ow.nil _ _) _ xs rfl H.out (by simpa using Nat.le_trans hl (by decide)) (Nat.le_refl _) ?_)
 intro u w1 o1 g1 _
 have F : Hid (Ow w1 w.heap.size u xs ∧ Below w.heap.size w w1) := ⟨o1, (Below.refl _ _).grown g1 (Nat.le_refl _) (fun k hk => by cases hk)⟩
 clear o1 g1
 go_wp2
 go_ret
 exact ⟨_, rfl, F.out.1, F.out.2⟩
set_option maxHeartbeats 1000000 in
theorem fresh_uns (v : Value) (xs : List UnV) (w : World) (h : Unl w v xs) (hl : xs.length ≤ 100000000) :
  Calls Tryz.prog 58 #[v] w fun e w' => ∃ u, e = .returned u ∧ Uno w' w.heap.size u xs ∧ Below w.heap.size w w' := by
 have H : Hid (Unl w v xs) := h
 clear h
 go_enter Tryz.func58, Tryz.ntmps58
 go_wp2_with (at_builtin; refine app_uns _ rfl _ _ rfl w.heap.size _ [] rfl (Uno.nil _ _) _ xs rfl H.out (by simpa using Nat.le_trans hl (by decide)) (Nat.le_refl _) ?_)
 intro u w1 o1 g1 _
 have F : Hid (Uno w1 w.heap.size u xs ∧ Below w.heap.size w w1) := ⟨o1, (Below.refl _ _).grown g1 (Nat.le_refl _) (fun k hk => by cases hk)⟩
 clear o1 g1
 go_wp2
 go_ret
 exact ⟨_, rfl, F.out.1, F.out.2⟩
set_option maxHeartbeats 1000000 in
theorem fresh_jbs (v : Value) (xs : List JbV) (w : World) (h : Jbl w v xs) (hl : xs.length ≤ 100000000) :
  Calls Tryz.prog 59 #[v] w fun e w' => ∃ u, e = .returned u ∧ Jbo w' w.heap.size u xs ∧ Below w.heap.size w w' := by
 have H : Hid (Jbl w v xs) := h
 clear h
 go_enter Tryz.func59, Tryz.ntmps59
 go_wp2_with (at_builtin; refine app_jbs _ rfl _ _ rfl w.heap.size _ [] rfl (Jbo.nil _ _) _ xs rfl H.out (by simpa using Nat.le_trans hl (by decide)) (Nat.le_refl _) ?_)
 intro u w1 o1 g1 _
 have F : Hid (Jbo w1 w.heap.size u xs ∧ Below w.heap.size w w1) := ⟨o1, (Below.refl _ _).grown g1 (Nat.le_refl _) (fun k hk => by cases hk)⟩
 clear o1 g1
 go_wp2
 go_ret
 exact ⟨_, rfl, F.out.1, F.out.2⟩
set_option maxRecDepth 100000 in
set_option maxHeartbeats 4000000 in
theorem copy_any (v : Value) (W : WV) (w : World) (h : Wl w v W) (hl : WLen W) :
  Calls Tryz.prog 32 #[v] w fun e w' => ∃ u, e = .returned u ∧ Wi w' w.heap.size u W ∧ Below w.heap.size w w' := by
 have H : Hid (Wl w v W) := h
 have L : Hid (WLen W) := hl
 obtain ⟨u1, u2, u3, u4, u5, rfl, -, -, -, -, -⟩ := h
 clear hl
 go_enter Tryz.func32, Tryz.ntmps32
 go_upto_region 1 with fail
 have B0 : Hid (Below w.heap.size w ((w.alloc (.cells #[.int .i64 W.turn, .int .i64 W.next, .int .i64 W.wide, .int .i64 W.high, u1, u2, u3, u4, u5] 29)).alloc (.cells #[.int .i64 0, .int .i64 0, .int .i64 0, .int .i64 0, .slice none 0 0, .slice none 0 0, .slice none 0 0, .slice none 0 0, .slice none 0 0] 29))) := ((Below.refl _ _).alloc (Nat.le_refl _) _).alloc (by simp) _
 have X0 : Hid (Wx ((w.alloc (.cells #[.int .i64 W.turn, .int .i64 W.next, .int .i64 W.wide, .int .i64 W.high, u1, u2, u3, u4, u5] 29)).alloc (.cells #[.int .i64 0, .int .i64 0, .int .i64 0, .int .i64 0, .slice none 0 0, .slice none 0 0, .slice none 0 0, .slice none 0 0, .slice none 0 0] 29)) w.heap.size (.int .i64 W.turn) (.int .i64 W.next) (.int .i64 W.wide) (.int .i64 W.high) u1 u2 u3 u4 u5) := (Wx.new (w := w) _ _ _ _ _ _ _ _ _ rfl).below ((Below.refl _ _).alloc (Nat.le_refl _) _) (by simp)
 have Z0 : Hid (Wx ((w.alloc (.cells #[.int .i64 W.turn, .int .i64 W.next, .int .i64 W.wide, .int .i64 W.high, u1, u2, u3, u4, u5] 29)).alloc (.cells #[.int .i64 0, .int .i64 0, .int .i64 0, .int .i64 0, .slice none 0 0, .slice none 0 0, .slice none 0 0, .slice none 0 0, .slice none 0 0] 29)) (w.heap.size + 1) (.int .i64 0) (.int .i64 0) (.int .i64 0) (.int .i64 0) (.slice none 0 0) (.slice none 0 0) (.slice none 0 0) (.slice none 0 0) (.slice none 0 0)) := Wx.new _ _ _ _ _ _ _ _ _ (by simp)
 have S0 : Hid (w.heap.size + 2 ≤ ((w.alloc (.cells #[.int .i64 W.turn, .int .i64 W.next, .int .i64 W.wide, .int .i64 W.high, u1, u2, u3, u4, u5] 29)).alloc (.cells #[.int .i64 0, .int .i64 0, .int .i64 0, .int .i64 0, .slice none 0 0, .slice none 0 0, .slice none 0 0, .slice none 0 0, .slice none 0 0] 29)).heap.size) := by unfold Hid; simp
 generalize ((w.alloc (.cells #[.int .i64 W.turn, .int .i64 W.next, .int .i64 W.wide, .int .i64 W.high, u1, u2, u3, u4, u5] 29)).alloc (.cells #[.int .i64 0, .int .i64 0, .int .i64 0, .int .i64 0, .slice none 0 0, .slice none 0 0, .slice none 0 0, .slice none 0 0, .slice none 0 0] 29)) = w0 at *
 obtain ⟨x0, x1, x2, x3, x4, x5, x6, x7, x8⟩ := X0.out.cells
 go_wp2_with fail
 refine (fresh_ints _ W.gs w0 ((H.out.below B0.out).slices.1) L.out.g).mono ?_
 rintro e a1 ⟨v1, rfl, ho, hb⟩
 clear x0 x1 x2 x3 x4 x5 x6 x7 x8
 have BA : Hid (Below w.heap.size w a1) := B0.out.trans (hb.mono B0.out.size)
 have SA : Hid (w.heap.size + 2 ≤ a1.heap.size) := Nat.le_trans S0.out hb.size
 have XA : Hid (Wx a1 w.heap.size (.int .i64 W.turn) (.int .i64 W.next) (.int .i64 W.wide) (.int .i64 W.high) u1 u2 u3 u4 u5) := X0.out.below hb X0.out.lt
 have ZA : Hid (Wx a1 (w.heap.size + 1) (.int .i64 0) (.int .i64 0) (.int .i64 0) (.int .i64 0) (.slice none 0 0) (.slice none 0 0) (.slice none 0 0) (.slice none 0 0) (.slice none 0 0)) := Z0.out.below hb Z0.out.lt
 have OA : Hid (Ow a1 (w.heap.size + 2) v1 W.gs) := ho.mono S0.out
 obtain ⟨p1, q1, rfl⟩ := ho.len
 have t := XA.out.thaw 4
 obtain ⟨-, -, -, -, x, -, -, -, -⟩ := XA.out.cells
 clear hb ho 
 go_upto_region 2 with fail
 have KW : Hid (Kp w.heap.size a1 (a1.setCell ⟨w.heap.size, 4, none⟩ (.slice p1 W.gs.length q1))) := Kp.set _ _ _
 have X1 : Hid (Wx (a1.setCell ⟨w.heap.size, 4, none⟩ (.slice p1 W.gs.length q1)) w.heap.size (.int .i64 W.turn) (.int .i64 W.next) (.int .i64 W.wide) (.int .i64 W.high) (.slice p1 W.gs.length q1) u2 u3 u4 u5) := XA.out.set4 _
 clear t x XA X0 Z0
 generalize (a1.setCell ⟨w.heap.size, 4, none⟩ (.slice p1 W.gs.length q1)) = w1 at *
 have B1 : Hid (Below w.heap.size w w1) := KW.out.below BA.out BA.out.size (Nat.le_refl _)
 have S1 : Hid (w.heap.size + 2 ≤ w1.heap.size) := Nat.le_trans SA.out KW.out.size
 have Z1 : Hid (Wx w1 (w.heap.size + 1) (.int .i64 0) (.int .i64 0) (.int .i64 0) (.int .i64 0) (.slice none 0 0) (.slice none 0 0) (.slice none 0 0) (.slice none 0 0) (.slice none 0 0)) := ZA.out.kp KW.out (by omega)
 have P1_1 : Hid (Ow w1 (w.heap.size + 2) (.slice p1 W.gs.length q1) W.gs) := OA.out.kp KW.out (by omega)
 clear BA SA ZA OA KW 
 obtain ⟨x0, x1, x2, x3, x4, x5, x6, x7, x8⟩ := X1.out.cells
 go_wp2_with fail
 refine (fresh_ints _ W.os w1 ((H.out.below B1.out).slices.2.1) L.out.o).mono ?_
 rintro e a2 ⟨v2, rfl, ho, hb⟩
 clear x0 x1 x2 x3 x4 x5 x6 x7 x8
 have BA : Hid (Below w.heap.size w a2) := B1.out.trans (hb.mono B1.out.size)
 have SA : Hid (w.heap.size + 2 ≤ a2.heap.size) := Nat.le_trans S1.out hb.size
 have XA : Hid (Wx a2 w.heap.size (.int .i64 W.turn) (.int .i64 W.next) (.int .i64 W.wide) (.int .i64 W.high) (.slice p1 W.gs.length q1) u2 u3 u4 u5) := X1.out.below hb X1.out.lt
 have ZA : Hid (Wx a2 (w.heap.size + 1) (.int .i64 0) (.int .i64 0) (.int .i64 0) (.int .i64 0) (.slice none 0 0) (.slice none 0 0) (.slice none 0 0) (.slice none 0 0) (.slice none 0 0)) := Z1.out.below hb Z1.out.lt
 have OA : Hid (Ow a2 (w.heap.size + 2) v2 W.os) := ho.mono S1.out
 have PA1 : Hid (Ow a2 (w.heap.size + 2) (.slice p1 W.gs.length q1) W.gs) := P1_1.out.below hb
 have D1_2 : Hid (Dif (.slice p1 W.gs.length q1) v2) := Dif.of (fun k hk => (P1_1.out.block k hk).2) (fun k hk => (ho.block k hk).1)
 obtain ⟨p2, q2, rfl⟩ := ho.len
 have t := XA.out.thaw 5
 obtain ⟨-, -, -, -, -, x, -, -, -⟩ := XA.out.cells
 clear hb ho P1_1
 go_upto_region 3 with fail
 have KW : Hid (Kp w.heap.size a2 (a2.setCell ⟨w.heap.size, 5, none⟩ (.slice p2 W.os.length q2))) := Kp.set _ _ _
 have X2 : Hid (Wx (a2.setCell ⟨w.heap.size, 5, none⟩ (.slice p2 W.os.length q2)) w.heap.size (.int .i64 W.turn) (.int .i64 W.next) (.int .i64 W.wide) (.int .i64 W.high) (.slice p1 W.gs.length q1) (.slice p2 W.os.length q2) u3 u4 u5) := XA.out.set5 _
 clear t x XA X1 Z1
 generalize (a2.setCell ⟨w.heap.size, 5, none⟩ (.slice p2 W.os.length q2)) = w2 at *
 have B2 : Hid (Below w.heap.size w w2) := KW.out.below BA.out BA.out.size (Nat.le_refl _)
 have S2 : Hid (w.heap.size + 2 ≤ w2.heap.size) := Nat.le_trans SA.out KW.out.size
 have Z2 : Hid (Wx w2 (w.heap.size + 1) (.int .i64 0) (.int .i64 0) (.int .i64 0) (.int .i64 0) (.slice none 0 0) (.slice none 0 0) (.slice none 0 0) (.slice none 0 0) (.slice none 0 0)) := ZA.out.kp KW.out (by omega)
 have P2_2 : Hid (Ow w2 (w.heap.size + 2) (.slice p2 W.os.length q2) W.os) := OA.out.kp KW.out (by omega)
 have P1_2 : Hid (Ow w2 (w.heap.size + 2) (.slice p1 W.gs.length q1) W.gs) := PA1.out.kp KW.out (by omega)
 clear BA SA ZA OA KW PA1
 obtain ⟨x0, x1, x2, x3, x4, x5, x6, x7, x8⟩ := X2.out.cells
 go_wp2_with fail
 refine (fresh_ints _ W.gold w2 ((H.out.below B2.out).slices.2.2.1) L.out.p).mono ?_
 rintro e a3 ⟨v3, rfl, ho, hb⟩
 clear x0 x1 x2 x3 x4 x5 x6 x7 x8
 have BA : Hid (Below w.heap.size w a3) := B2.out.trans (hb.mono B2.out.size)
 have SA : Hid (w.heap.size + 2 ≤ a3.heap.size) := Nat.le_trans S2.out hb.size
 have XA : Hid (Wx a3 w.heap.size (.int .i64 W.turn) (.int .i64 W.next) (.int .i64 W.wide) (.int .i64 W.high) (.slice p1 W.gs.length q1) (.slice p2 W.os.length q2) u3 u4 u5) := X2.out.below hb X2.out.lt
 have ZA : Hid (Wx a3 (w.heap.size + 1) (.int .i64 0) (.int .i64 0) (.int .i64 0) (.int .i64 0) (.slice none 0 0) (.slice none 0 0) (.slice none 0 0) (.slice none 0 0) (.slice none 0 0)) := Z2.out.below hb Z2.out.lt
 have OA : Hid (Ow a3 (w.heap.size + 2) v3 W.gold) := ho.mono S2.out
 have PA1 : Hid (Ow a3 (w.heap.size + 2) (.slice p1 W.gs.length q1) W.gs) := P1_2.out.below hb
 have PA2 : Hid (Ow a3 (w.heap.size + 2) (.slice p2 W.os.length q2) W.os) := P2_2.out.below hb
 have D1_3 : Hid (Dif (.slice p1 W.gs.length q1) v3) := Dif.of (fun k hk => (P1_2.out.block k hk).2) (fun k hk => (ho.block k hk).1)
 have D2_3 : Hid (Dif (.slice p2 W.os.length q2) v3) := Dif.of (fun k hk => (P2_2.out.block k hk).2) (fun k hk => (ho.block k hk).1)
 obtain ⟨p3, q3, rfl⟩ := ho.len
 have t := XA.out.thaw 6
 obtain ⟨-, -, -, -, -, -, x, -, -⟩ := XA.out.cells
 clear hb ho P1_2 P2_2
 go_upto_region 4 with fail
 have KW : Hid (Kp w.heap.size a3 (a3.setCell ⟨w.heap.size, 6, none⟩ (.slice p3 W.gold.length q3))) := Kp.set _ _ _
 have X3 : Hid (Wx (a3.setCell ⟨w.heap.size, 6, none⟩ (.slice p3 W.gold.length q3)) w.heap.size (.int .i64 W.turn) (.int .i64 W.next) (.int .i64 W.wide) (.int .i64 W.high) (.slice p1 W.gs.length q1) (.slice p2 W.os.length q2) (.slice p3 W.gold.length q3) u4 u5) := XA.out.set6 _
 clear t x XA X2 Z2
 generalize (a3.setCell ⟨w.heap.size, 6, none⟩ (.slice p3 W.gold.length q3)) = w3 at *
 have B3 : Hid (Below w.heap.size w w3) := KW.out.below BA.out BA.out.size (Nat.le_refl _)
 have S3 : Hid (w.heap.size + 2 ≤ w3.heap.size) := Nat.le_trans SA.out KW.out.size
 have Z3 : Hid (Wx w3 (w.heap.size + 1) (.int .i64 0) (.int .i64 0) (.int .i64 0) (.int .i64 0) (.slice none 0 0) (.slice none 0 0) (.slice none 0 0) (.slice none 0 0) (.slice none 0 0)) := ZA.out.kp KW.out (by omega)
 have P3_3 : Hid (Ow w3 (w.heap.size + 2) (.slice p3 W.gold.length q3) W.gold) := OA.out.kp KW.out (by omega)
 have P1_3 : Hid (Ow w3 (w.heap.size + 2) (.slice p1 W.gs.length q1) W.gs) := PA1.out.kp KW.out (by omega)
 have P2_3 : Hid (Ow w3 (w.heap.size + 2) (.slice p2 W.os.length q2) W.os) := PA2.out.kp KW.out (by omega)
 clear BA SA ZA OA KW PA1 PA2
 obtain ⟨x0, x1, x2, x3, x4, x5, x6, x7, x8⟩ := X3.out.cells
 go_wp2_with fail
 refine (fresh_uns _ W.us w3 ((H.out.below B3.out).slices.2.2.2.1) L.out.u).mono ?_
 rintro e a4 ⟨v4, rfl, ho, hb⟩
 clear x0 x1 x2 x3 x4 x5 x6 x7 x8
 have BA : Hid (Below w.heap.size w a4) := B3.out.trans (hb.mono B3.out.size)
 have SA : Hid (w.heap.size + 2 ≤ a4.heap.size) := Nat.le_trans S3.out hb.size
 have XA : Hid (Wx a4 w.heap.size (.int .i64 W.turn) (.int .i64 W.next) (.int .i64 W.wide) (.int .i64 W.high) (.slice p1 W.gs.length q1) (.slice p2 W.os.length q2) (.slice p3 W.gold.length q3) u4 u5) := X3.out.below hb X3.out.lt
 have ZA : Hid (Wx a4 (w.heap.size + 1) (.int .i64 0) (.int .i64 0) (.int .i64 0) (.int .i64 0) (.slice none 0 0) (.slice none 0 0) (.slice none 0 0) (.slice none 0 0) (.slice none 0 0)) := Z3.out.below hb Z3.out.lt
 have OA : Hid (Uno a4 (w.heap.size + 2) v4 W.us) := ho.mono S3.out
 have PA1 : Hid (Ow a4 (w.heap.size + 2) (.slice p1 W.gs.length q1) W.gs) := P1_3.out.below hb
 have PA2 : Hid (Ow a4 (w.heap.size + 2) (.slice p2 W.os.length q2) W.os) := P2_3.out.below hb
 have PA3 : Hid (Ow a4 (w.heap.size + 2) (.slice p3 W.gold.length q3) W.gold) := P3_3.out.below hb
 have D1_4 : Hid (Dif (.slice p1 W.gs.length q1) v4) := Dif.of (fun k hk => (P1_3.out.block k hk).2) (fun k hk => (ho.block k hk).1)
 have D2_4 : Hid (Dif (.slice p2 W.os.length q2) v4) := Dif.of (fun k hk => (P2_3.out.block k hk).2) (fun k hk => (ho.block k hk).1)
 have D3_4 : Hid (Dif (.slice p3 W.gold.length q3) v4) := Dif.of (fun k hk => (P3_3.out.block k hk).2) (fun k hk => (ho.block k hk).1)
 obtain ⟨p4, q4, rfl⟩ := ho.len
 have t := XA.out.thaw 7
 obtain ⟨-, -, -, -, -, -, -, x, -⟩ := XA.out.cells
 clear hb ho P1_3 P2_3 P3_3
 go_upto_region 5 with fail
 have KW : Hid (Kp w.heap.size a4 (a4.setCell ⟨w.heap.size, 7, none⟩ (.slice p4 W.us.length q4))) := Kp.set _ _ _
 have X4 : Hid (Wx (a4.setCell ⟨w.heap.size, 7, none⟩ (.slice p4 W.us.length q4)) w.heap.size (.int .i64 W.turn) (.int .i64 W.next) (.int .i64 W.wide) (.int .i64 W.high) (.slice p1 W.gs.length q1) (.slice p2 W.os.length q2) (.slice p3 W.gold.length q3) (.slice p4 W.us.length q4) u5) := XA.out.set7 _
 clear t x XA X3 Z3
 generalize (a4.setCell ⟨w.heap.size, 7, none⟩ (.slice p4 W.us.length q4)) = w4 at *
 have B4 : Hid (Below w.heap.size w w4) := KW.out.below BA.out BA.out.size (Nat.le_refl _)
 have S4 : Hid (w.heap.size + 2 ≤ w4.heap.size) := Nat.le_trans SA.out KW.out.size
 have Z4 : Hid (Wx w4 (w.heap.size + 1) (.int .i64 0) (.int .i64 0) (.int .i64 0) (.int .i64 0) (.slice none 0 0) (.slice none 0 0) (.slice none 0 0) (.slice none 0 0) (.slice none 0 0)) := ZA.out.kp KW.out (by omega)
 have P4_4 : Hid (Uno w4 (w.heap.size + 2) (.slice p4 W.us.length q4) W.us) := OA.out.kp KW.out (by omega)
 have P1_4 : Hid (Ow w4 (w.heap.size + 2) (.slice p1 W.gs.length q1) W.gs) := PA1.out.kp KW.out (by omega)
 have P2_4 : Hid (Ow w4 (w.heap.size + 2) (.slice p2 W.os.length q2) W.os) := PA2.out.kp KW.out (by omega)
 have P3_4 : Hid (Ow w4 (w.heap.size + 2) (.slice p3 W.gold.length q3) W.gold) := PA3.out.kp KW.out (by omega)
 clear BA SA ZA OA KW PA1 PA2 PA3
 obtain ⟨x0, x1, x2, x3, x4, x5, x6, x7, x8⟩ := X4.out.cells
 go_wp2_with fail
 refine (fresh_jbs _ W.qs w4 ((H.out.below B4.out).slices.2.2.2.2) L.out.q).mono ?_
 rintro e a5 ⟨v5, rfl, ho, hb⟩
 clear x0 x1 x2 x3 x4 x5 x6 x7 x8
 have BA : Hid (Below w.heap.size w a5) := B4.out.trans (hb.mono B4.out.size)
 have SA : Hid (w.heap.size + 2 ≤ a5.heap.size) := Nat.le_trans S4.out hb.size
 have XA : Hid (Wx a5 w.heap.size (.int .i64 W.turn) (.int .i64 W.next) (.int .i64 W.wide) (.int .i64 W.high) (.slice p1 W.gs.length q1) (.slice p2 W.os.length q2) (.slice p3 W.gold.length q3) (.slice p4 W.us.length q4) u5) := X4.out.below hb X4.out.lt
 have ZA : Hid (Wx a5 (w.heap.size + 1) (.int .i64 0) (.int .i64 0) (.int .i64 0) (.int .i64 0) (.slice none 0 0) (.slice none 0 0) (.slice none 0 0) (.slice none 0 0) (.slice none 0 0)) := Z4.out.below hb Z4.out.lt
 have OA : Hid (Jbo a5 (w.heap.size + 2) v5 W.qs) := ho.mono S4.out
 have PA1 : Hid (Ow a5 (w.heap.size + 2) (.slice p1 W.gs.length q1) W.gs) := P1_4.out.below hb
 have PA2 : Hid (Ow a5 (w.heap.size + 2) (.slice p2 W.os.length q2) W.os) := P2_4.out.below hb
 have PA3 : Hid (Ow a5 (w.heap.size + 2) (.slice p3 W.gold.length q3) W.gold) := P3_4.out.below hb
 have PA4 : Hid (Uno a5 (w.heap.size + 2) (.slice p4 W.us.length q4) W.us) := P4_4.out.below hb
 have D1_5 : Hid (Dif (.slice p1 W.gs.length q1) v5) := Dif.of (fun k hk => (P1_4.out.block k hk).2) (fun k hk => (ho.block k hk).1)
 have D2_5 : Hid (Dif (.slice p2 W.os.length q2) v5) := Dif.of (fun k hk => (P2_4.out.block k hk).2) (fun k hk => (ho.block k hk).1)
 have D3_5 : Hid (Dif (.slice p3 W.gold.length q3) v5) := Dif.of (fun k hk => (P3_4.out.block k hk).2) (fun k hk => (ho.block k hk).1)
 have D4_5 : Hid (Dif (.slice p4 W.us.length q4) v5) := Dif.of (fun k hk => (P4_4.out.block k hk).2) (fun k hk => (ho.block k hk).1)
 obtain ⟨p5, q5, rfl⟩ := ho.len
 have t := XA.out.thaw 8
 obtain ⟨-, -, -, -, -, -, -, -, x⟩ := XA.out.cells
 clear hb ho P1_4 P2_4 P3_4 P4_4
 go_upto_region 6 with fail
 have KW : Hid (Kp w.heap.size a5 (a5.setCell ⟨w.heap.size, 8, none⟩ (.slice p5 W.qs.length q5))) := Kp.set _ _ _
 have X5 : Hid (Wx (a5.setCell ⟨w.heap.size, 8, none⟩ (.slice p5 W.qs.length q5)) w.heap.size (.int .i64 W.turn) (.int .i64 W.next) (.int .i64 W.wide) (.int .i64 W.high) (.slice p1 W.gs.length q1) (.slice p2 W.os.length q2) (.slice p3 W.gold.length q3) (.slice p4 W.us.length q4) (.slice p5 W.qs.length q5)) := XA.out.set8 _
 clear t x XA X4 Z4
 generalize (a5.setCell ⟨w.heap.size, 8, none⟩ (.slice p5 W.qs.length q5)) = w5 at *
 have B5 : Hid (Below w.heap.size w w5) := KW.out.below BA.out BA.out.size (Nat.le_refl _)
 have S5 : Hid (w.heap.size + 2 ≤ w5.heap.size) := Nat.le_trans SA.out KW.out.size
 have Z5 : Hid (Wx w5 (w.heap.size + 1) (.int .i64 0) (.int .i64 0) (.int .i64 0) (.int .i64 0) (.slice none 0 0) (.slice none 0 0) (.slice none 0 0) (.slice none 0 0) (.slice none 0 0)) := ZA.out.kp KW.out (by omega)
 have P5_5 : Hid (Jbo w5 (w.heap.size + 2) (.slice p5 W.qs.length q5) W.qs) := OA.out.kp KW.out (by omega)
 have P1_5 : Hid (Ow w5 (w.heap.size + 2) (.slice p1 W.gs.length q1) W.gs) := PA1.out.kp KW.out (by omega)
 have P2_5 : Hid (Ow w5 (w.heap.size + 2) (.slice p2 W.os.length q2) W.os) := PA2.out.kp KW.out (by omega)
 have P3_5 : Hid (Ow w5 (w.heap.size + 2) (.slice p3 W.gold.length q3) W.gold) := PA3.out.kp KW.out (by omega)
 have P4_5 : Hid (Uno w5 (w.heap.size + 2) (.slice p4 W.us.length q4) W.us) := PA4.out.kp KW.out (by omega)
 clear BA SA ZA OA KW PA1 PA2 PA3 PA4
 obtain ⟨x0, x1, x2, x3, x4, x5, x6, x7, x8⟩ := X5.out.cells
 obtain ⟨z0, z1, z2, z3, z4, z5, z6, z7, z8⟩ := Z5.out.cells
 obtain ⟨t0, t1, t2, t3, t4, t5, t6, t7, t8⟩ := Z5.out.thaws
 have KZ : Hid (Kp (w.heap.size + 1) w5 (((((((((w5.setCell ⟨w.heap.size + 1, 0, none⟩ (.int .i64 W.turn)).setCell ⟨w.heap.size + 1, 1, none⟩ (.int .i64 W.next)).setCell ⟨w.heap.size + 1, 2, none⟩ (.int .i64 W.wide)).setCell ⟨w.heap.size + 1, 3, none⟩ (.int .i64 W.high)).setCell ⟨w.heap.size + 1, 4, none⟩ (.slice p1 W.gs.length q1)).setCell ⟨w.heap.size + 1, 5, none⟩ (.slice p2 W.os.length q2)).setCell ⟨w.heap.size + 1, 6, none⟩ (.slice p3 W.gold.length q3)).setCell ⟨w.heap.size + 1, 7, none⟩ (.slice p4 W.us.length q4)).setCell ⟨w.heap.size + 1, 8, none⟩ (.slice p5 W.qs.length q5))) := put_kp _ _ _ _ _ _ _ _ _ _ _
 obtain ⟨y0, y1, y2, y3, y4, y5, y6, y7, y8⟩ := (Z5.out.put (.int .i64 W.turn) (.int .i64 W.next) (.int .i64 W.wide) (.int .i64 W.high) (.slice p1 W.gs.length q1) (.slice p2 W.os.length q2) (.slice p3 W.gold.length q3) (.slice p4 W.us.length q4) (.slice p5 W.qs.length q5)).cells
 go_wp2
 clear x0 x1 x2 x3 x4 x5 x6 x7 x8 z0 z1 z2 z3 z4 z5 z6 z7 z8 t0 t1 t2 t3 t4 t5 t6 t7 t8
 have s0 := S5.out
 generalize (((((((((w5.setCell ⟨w.heap.size + 1, 0, none⟩ (.int .i64 W.turn)).setCell ⟨w.heap.size + 1, 1, none⟩ (.int .i64 W.next)).setCell ⟨w.heap.size + 1, 2, none⟩ (.int .i64 W.wide)).setCell ⟨w.heap.size + 1, 3, none⟩ (.int .i64 W.high)).setCell ⟨w.heap.size + 1, 4, none⟩ (.slice p1 W.gs.length q1)).setCell ⟨w.heap.size + 1, 5, none⟩ (.slice p2 W.os.length q2)).setCell ⟨w.heap.size + 1, 6, none⟩ (.slice p3 W.gold.length q3)).setCell ⟨w.heap.size + 1, 7, none⟩ (.slice p4 W.us.length q4)).setCell ⟨w.heap.size + 1, 8, none⟩ (.slice p5 W.qs.length q5)) = w9 at *
 refine bodyPost_ret (v := .agg #[.int .i64 W.turn, .int .i64 W.next, .int .i64 W.wide, .int .i64 W.high, .slice p1 W.gs.length q1, .slice p2 W.os.length q2, .slice p3 W.gold.length q3, .slice p4 W.us.length q4, .slice p5 W.qs.length q5]) (by simp [results, Tryz.results32, go_sem, y0, y1, y2, y3, y4, y5, y6, y7, y8]) rfl ⟨_, rfl, ⟨_, _, _, _, _, rfl, ⟨(P1_5.out.kp KZ.out (by omega)).mono (by omega), (P2_5.out.kp KZ.out (by omega)).mono (by omega), (P3_5.out.kp KZ.out (by omega)).mono (by omega), (P4_5.out.kp KZ.out (by omega)).mono (by omega), (P5_5.out.kp KZ.out (by omega)).mono (by omega)⟩, D1_2.out, D1_3.out, D1_4.out, D1_5.out, D2_3.out, D2_4.out, D2_5.out, D3_4.out, D3_5.out, D4_5.out⟩, KZ.out.below B5.out B5.out.size (by omega)⟩
end Go.Proofs.YteieikgkmfglaaaGreatDoor
namespace Go.Proofs.YteieikgkmfglaaaGreatDoor
open Go.RowKit
set_option linter.unusedVariables false
theorem Evo.kp9 {w w' : World} {base z : Nat} {v : Value} {ks : List EvV} (h : Evo w base v ks) (k : Kp z w w') (hz : z < base) : Evo w' base v ks := owns_kp h k hz
end Go.Proofs.YteieikgkmfglaaaGreatDoor
namespace Go.Proofs.YteieikgkmfglaaaGreatDoor
open Go.RowKit
set_option linter.unusedVariables false
/-- the world behind digging; what happened. -/
def dug (ks : List KV) (Wn Hn : Nat) (X : WV) : WV := (br ks Wn Hn (tk ks X X.us.length).1 (tk ks X X.us.length).1.us.length).1
def dugEv (ks : List KV) (Wn Hn : Nat) (X : WV) : List EvV := (tk ks X X.us.length).2 ++ (br ks Wn Hn (tk ks X X.us.length).1 (tk ks X X.us.length).1.us.length).2
/-- what Dig tells. -/
def DigSays (ks : List KV) (X : WV) (w w' : World) (v ev : Value) : Prop :=
 (Wd.wfault ks X ≠ 0 ∧ v = .agg #[.int .i64 0, .int .i64 0, .int .i64 0, .int .i64 0, .slice none 0 0, .slice none 0 0, .slice none 0 0, .slice none 0 0, .slice none 0 0] ∧ ev = .slice none 0 0)
 ∨ (Wd.wfault ks X = 0 ∧ ∃ Wn Hn : Nat, X.wide = (Wn : Nat) ∧ X.high = (Hn : Nat) ∧ Fd.Good Wn Hn X.gs X.os ∧ Wo w' w.heap.size v (dug ks Wn Hn X) ∧ Evo w' w.heap.size ev (dugEv ks Wn Hn X))
set_option maxRecDepth 100000 in
set_option maxHeartbeats 16000000 in
theorem Dig_any (vk vw : Value) (ks : List KV) (X : WV) (w : World) (hk : Kl w vk ks) (hb : ∀ k ∈ ks, k.b.size ≤ 9223372036854775807) (hw : Wl w vw X) (hs : Sd w) :
  Calls Tryz.prog 9 #[vk, vw] w fun e w' => ∃ v ev r, e = .returned (.tuple #[v, ev, r]) ∧ Er r (Wd.wfault ks X) ∧ DigSays ks X w w' v ev ∧ Below w.heap.size w w' := by
 have K : Hid (Kl w vk ks ∧ ∀ k ∈ ks, k.b.size ≤ 9223372036854775807) := ⟨hk, hb⟩
 have H : Hid (Wl w vw X) := hw
 have SD : Hid (Sd w) := hs
 clear hs
 obtain ⟨p1, q1, p2, q2, p3, q3, p4, q4, p5, q5, rfl⟩ := wl_shape9 hw
 obtain ⟨pk, qk, rfl, ck1, ck2, kc⟩ := hk
 clear hb hw kc
 go_enter Tryz.func9, Tryz.ntmps9
 go_upto_region 1 with fail
 have B0 : Hid (Below w.heap.size w ((w.alloc (Obj.cells #[.int .i64 X.turn, .int .i64 X.next, .int .i64 X.wide, .int .i64 X.high, .slice p1 X.gs.length q1, .slice p2 X.os.length q2, .slice p3 X.gold.length q3, .slice p4 X.us.length q4, .slice p5 X.qs.length q5] 29)).alloc (Obj.cells #[.int .i64 0, .int .i64 0, .int .i64 0, .int .i64 0, .slice none 0 0, .slice none 0 0, .slice none 0 0, .slice none 0 0, .slice none 0 0] 29))) := ((Below.refl _ _).alloc (Nat.le_refl _) _).alloc (by simp) _
 have X0 : Hid (Wx ((w.alloc (Obj.cells #[.int .i64 X.turn, .int .i64 X.next, .int .i64 X.wide, .int .i64 X.high, .slice p1 X.gs.length q1, .slice p2 X.os.length q2, .slice p3 X.gold.length q3, .slice p4 X.us.length q4, .slice p5 X.qs.length q5] 29)).alloc (Obj.cells #[.int .i64 0, .int .i64 0, .int .i64 0, .int .i64 0, .slice none 0 0, .slice none 0 0, .slice none 0 0, .slice none 0 0, .slice none 0 0] 29)) (w.heap.size) (.int .i64 X.turn) (.int .i64 X.next) (.int .i64 X.wide) (.int .i64 X.high) (.slice p1 X.gs.length q1) (.slice p2 X.os.length q2) (.slice p3 X.gold.length q3) (.slice p4 X.us.length q4) (.slice p5 X.qs.length q5)) := (Wx.new (.int .i64 X.turn) (.int .i64 X.next) (.int .i64 X.wide) (.int .i64 X.high) (.slice p1 X.gs.length q1) (.slice p2 X.os.length q2) (.slice p3 X.gold.length q3) (.slice p4 X.us.length q4) (.slice p5 X.qs.length q5) rfl).below ((Below.refl _ _).alloc (Nat.le_refl _) _) (by simp)
 have Z0 : Hid (Wx ((w.alloc (Obj.cells #[.int .i64 X.turn, .int .i64 X.next, .int .i64 X.wide, .int .i64 X.high, .slice p1 X.gs.length q1, .slice p2 X.os.length q2, .slice p3 X.gold.length q3, .slice p4 X.us.length q4, .slice p5 X.qs.length q5] 29)).alloc (Obj.cells #[.int .i64 0, .int .i64 0, .int .i64 0, .int .i64 0, .slice none 0 0, .slice none 0 0, .slice none 0 0, .slice none 0 0, .slice none 0 0] 29)) (w.heap.size + 1) (.int .i64 0) (.int .i64 0) (.int .i64 0) (.int .i64 0) (.slice none 0 0) (.slice none 0 0) (.slice none 0 0) (.slice none 0 0) (.slice none 0 0)) := Wx.new (.int .i64 0) (.int .i64 0) (.int .i64 0) (.int .i64 0) (.slice none 0 0) (.slice none 0 0) (.slice none 0 0) (.slice none 0 0) (.slice none 0 0) (by simp)
 generalize ((w.alloc (Obj.cells #[.int .i64 X.turn, .int .i64 X.next, .int .i64 X.wide, .int .i64 X.high, .slice p1 X.gs.length q1, .slice p2 X.os.length q2, .slice p3 X.gold.length q3, .slice p4 X.us.length q4, .slice p5 X.qs.length q5] 29)).alloc (Obj.cells #[.int .i64 0, .int .i64 0, .int .i64 0, .int .i64 0, .slice none 0 0, .slice none 0 0, .slice none 0 0, .slice none 0 0, .slice none 0 0] 29)) = w0 at *
 obtain ⟨x0, x1, x2, x3, x4, x5, x6, x7, x8⟩ := X0.out.cells
 go_wp2_with fail
 refine (wcheck_any _ _ ks X w0 (K.out.1.below B0.out) K.out.2 (H.out.below B0.out)).mono ?_
 rintro e w1 ⟨r, rfl, hr, hb⟩
 obtain ⟨fw, hfw⟩ : ∃ f, Wd.wfault ks X = f := ⟨_, rfl⟩
 have FW : Hid (Wd.wfault ks X = fw) := hfw
 rw [hfw] at hr
 have B1 : Hid (Below w.heap.size w w1) := B0.out.trans (hb.mono B0.out.size)
 have X1 : Hid (Wx w1 (w.heap.size) (.int .i64 X.turn) (.int .i64 X.next) (.int .i64 X.wide) (.int .i64 X.high) (.slice p1 X.gs.length q1) (.slice p2 X.os.length q2) (.slice p3 X.gold.length q3) (.slice p4 X.us.length q4) (.slice p5 X.qs.length q5)) := X0.out.below hb X0.out.lt
 have Z1 : Hid (Wx w1 (w.heap.size + 1) (.int .i64 0) (.int .i64 0) (.int .i64 0) (.int .i64 0) (.slice none 0 0) (.slice none 0 0) (.slice none 0 0) (.slice none 0 0) (.slice none 0 0)) := Z0.out.below hb Z0.out.lt
 clear hb hfw x0 x1 x2 x3 x4 x5 x6 x7 x8 X0 B0 Z0
 rcases hr with ⟨rfl, rfl⟩ | ⟨hf, rfl⟩
 case inr =>
  have HF : Hid (fw ≠ 0) := hf
  clear hf
  obtain ⟨z0, z1, z2, z3, z4, z5, z6, z7, z8⟩ := Z1.out.cells
  obtain ⟨t0, t1, t2, t3, t4, t5, t6, t7, t8⟩ := Z1.out.thaws
  have KZ : Hid (Kp (w.heap.size + 1) w1 (((((((((w1.setCell ⟨w.heap.size + 1, 0, none⟩ (.int .i64 0)).setCell ⟨w.heap.size + 1, 1, none⟩ (.int .i64 0)).setCell ⟨w.heap.size + 1, 2, none⟩ (.int .i64 0)).setCell ⟨w.heap.size + 1, 3, none⟩ (.int .i64 0)).setCell ⟨w.heap.size + 1, 4, none⟩ (.slice none 0 0)).setCell ⟨w.heap.size + 1, 5, none⟩ (.slice none 0 0)).setCell ⟨w.heap.size + 1, 6, none⟩ (.slice none 0 0)).setCell ⟨w.heap.size + 1, 7, none⟩ (.slice none 0 0)).setCell ⟨w.heap.size + 1, 8, none⟩ (.slice none 0 0))) := put_kp _ _ _ _ _ _ _ _ _ _ _
  obtain ⟨y0, y1, y2, y3, y4, y5, y6, y7, y8⟩ := (Z1.out.put (.int .i64 0) (.int .i64 0) (.int .i64 0) (.int .i64 0) (.slice none 0 0) (.slice none 0 0) (.slice none 0 0) (.slice none 0 0) (.slice none 0 0)).cells
  go_wp2
  clear z0 z1 z2 z3 z4 z5 z6 z7 z8 t0 t1 t2 t3 t4 t5 t6 t7 t8
  generalize (((((((((w1.setCell ⟨w.heap.size + 1, 0, none⟩ (.int .i64 0)).setCell ⟨w.heap.size + 1, 1, none⟩ (.int .i64 0)).setCell ⟨w.heap.size + 1, 2, none⟩ (.int .i64 0)).setCell ⟨w.heap.size + 1, 3, none⟩ (.int .i64 0)).setCell ⟨w.heap.size + 1, 4, none⟩ (.slice none 0 0)).setCell ⟨w.heap.size + 1, 5, none⟩ (.slice none 0 0)).setCell ⟨w.heap.size + 1, 6, none⟩ (.slice none 0 0)).setCell ⟨w.heap.size + 1, 7, none⟩ (.slice none 0 0)).setCell ⟨w.heap.size + 1, 8, none⟩ (.slice none 0 0)) = w9 at *
  refine bodyPost_ret (v := .tuple #[.agg #[.int .i64 0, .int .i64 0, .int .i64 0, .int .i64 0, .slice none 0 0, .slice none 0 0, .slice none 0 0, .slice none 0 0, .slice none 0 0], .slice none 0 0, .iface 77 (.int .i64 fw)]) (by simp [results, Tryz.results9, go_sem, y0, y1, y2, y3, y4, y5, y6, y7, y8]) rfl ⟨_, _, _, rfl, by rw [FW.out]; exact Er.no HF.out, .inl ⟨by rw [FW.out]; exact HF.out, rfl, rfl⟩, KZ.out.below B1.out B1.out.size (by omega)⟩
 have WR : Hid (WRight ks X) := wright_of FW.out
 obtain ⟨Wn, Hn, e1, e2, G⟩ := WR.out.good
 have GD : Hid (X.wide = (Wn : Nat) ∧ X.high = (Hn : Nat) ∧ Fd.Good Wn Hn X.gs X.os) := ⟨e1, e2, G⟩
 clear e1 e2 G
 obtain ⟨x0, x1, x2, x3, x4, x5, x6, x7, x8⟩ := X1.out.cells
 go_wp2_with fail
 refine (copy_any _ X w1 (H.out.below B1.out) WR.out.len).mono ?_
 rintro e w2 ⟨cu, rfl, ⟨k1, k2, k3, k4, k5, rfl, ⟨o1, o2, o3, o4, o5⟩, d12, d13, d14, d15, d23, d24, d25, d34, d35, d45⟩, hb⟩
 obtain ⟨a1, r1, rfl⟩ := o1.len
 obtain ⟨a2, r2, rfl⟩ := o2.len
 obtain ⟨a3, r3, rfl⟩ := o3.len
 obtain ⟨a4, r4, rfl⟩ := o4.len
 obtain ⟨a5, r5, rfl⟩ := o5.len
 obtain ⟨b1, hb1⟩ : ∃ z, w1.heap.size = z := ⟨_, rfl⟩
 rw [hb1] at o1 o2 o3 o4 o5
 have BS : Hid (w.heap.size + 1 < b1 ∧ b1 ≤ w2.heap.size) := ⟨by rw [← hb1]; exact Z1.out.lt, by rw [← hb1]; exact hb.size⟩
 have X2 : Hid (Wx w2 (w.heap.size) (.int .i64 X.turn) (.int .i64 X.next) (.int .i64 X.wide) (.int .i64 X.high) (.slice p1 X.gs.length q1) (.slice p2 X.os.length q2) (.slice p3 X.gold.length q3) (.slice p4 X.us.length q4) (.slice p5 X.qs.length q5)) := X1.out.below hb X1.out.lt
 have Z2 : Hid (Wx w2 (w.heap.size + 1) (.int .i64 0) (.int .i64 0) (.int .i64 0) (.int .i64 0) (.slice none 0 0) (.slice none 0 0) (.slice none 0 0) (.slice none 0 0) (.slice none 0 0)) := Z1.out.below hb Z1.out.lt
 have B2 : Hid (Below w.heap.size w w2) := B1.out.trans (hb.mono B1.out.size)
 have O2 : Hid (Ow w2 b1 (Value.slice a1 X.gs.length r1) X.gs ∧ Ow w2 b1 (Value.slice a2 X.os.length r2) X.os ∧ Ow w2 b1 (Value.slice a3 X.gold.length r3) X.gold ∧ Uno w2 b1 (Value.slice a4 X.us.length r4) X.us ∧ Jbo w2 b1 (Value.slice a5 X.qs.length r5) X.qs) := ⟨o1, o2, o3, o4, o5⟩
 have DD : Hid ([Value.slice a1 X.gs.length r1, Value.slice a2 X.os.length r2, Value.slice a3 X.gold.length r3, Value.slice a4 X.us.length r4, Value.slice a5 X.qs.length r5].Pairwise Dif) := by
  unfold Hid
  simp only [List.pairwise_cons, List.mem_cons, List.not_mem_nil, or_false, forall_eq_or_imp, forall_eq, List.Pairwise.nil, and_true, false_imp_iff, implies_true]
  exact ⟨⟨d12, d13, d14, d15⟩, ⟨d23, d24, d25⟩, ⟨d34, d35⟩, d45⟩
 clear hb hb1 x0 x1 x2 x3 x4 x5 x6 x7 x8 o1 o2 o3 o4 o5 d12 d13 d14 d15 d23 d24 d25 d34 d35 d45 X1 Z1 B1
 obtain ⟨z0, z1, z2, z3, z4, z5, z6, z7, z8⟩ := X2.out.cells
 obtain ⟨t0, t1, t2, t3, t4, t5, t6, t7, t8⟩ := X2.out.thaws
 have KZ : Hid (Kp (w.heap.size) w2 (((((((((w2.setCell ⟨w.heap.size, 0, none⟩ (.int .i64 X.turn)).setCell ⟨w.heap.size, 1, none⟩ (.int .i64 X.next)).setCell ⟨w.heap.size, 2, none⟩ (.int .i64 X.wide)).setCell ⟨w.heap.size, 3, none⟩ (.int .i64 X.high)).setCell ⟨w.heap.size, 4, none⟩ (Value.slice a1 X.gs.length r1)).setCell ⟨w.heap.size, 5, none⟩ (Value.slice a2 X.os.length r2)).setCell ⟨w.heap.size, 6, none⟩ (Value.slice a3 X.gold.length r3)).setCell ⟨w.heap.size, 7, none⟩ (Value.slice a4 X.us.length r4)).setCell ⟨w.heap.size, 8, none⟩ (Value.slice a5 X.qs.length r5))) := put_kp _ _ _ _ _ _ _ _ _ _ _
 have X3 : Hid (Wx (((((((((w2.setCell ⟨w.heap.size, 0, none⟩ (.int .i64 X.turn)).setCell ⟨w.heap.size, 1, none⟩ (.int .i64 X.next)).setCell ⟨w.heap.size, 2, none⟩ (.int .i64 X.wide)).setCell ⟨w.heap.size, 3, none⟩ (.int .i64 X.high)).setCell ⟨w.heap.size, 4, none⟩ (Value.slice a1 X.gs.length r1)).setCell ⟨w.heap.size, 5, none⟩ (Value.slice a2 X.os.length r2)).setCell ⟨w.heap.size, 6, none⟩ (Value.slice a3 X.gold.length r3)).setCell ⟨w.heap.size, 7, none⟩ (Value.slice a4 X.us.length r4)).setCell ⟨w.heap.size, 8, none⟩ (Value.slice a5 X.qs.length r5)) (w.heap.size) (.int .i64 X.turn) (.int .i64 X.next) (.int .i64 X.wide) (.int .i64 X.high) (Value.slice a1 X.gs.length r1) (Value.slice a2 X.os.length r2) (Value.slice a3 X.gold.length r3) (Value.slice a4 X.us.length r4) (Value.slice a5 X.qs.length r5)) := X2.out.put (.int .i64 X.turn) (.int .i64 X.next) (.int .i64 X.wide) (.int .i64 X.high) (Value.slice a1 X.gs.length r1) (Value.slice a2 X.os.length r2) (Value.slice a3 X.gold.length r3) (Value.slice a4 X.us.length r4) (Value.slice a5 X.qs.length r5)
 go_upto_region 5 with fail
 clear z0 z1 z2 z3 z4 z5 z6 z7 z8 t0 t1 t2 t3 t4 t5 t6 t7 t8
 generalize (((((((((w2.setCell ⟨w.heap.size, 0, none⟩ (.int .i64 X.turn)).setCell ⟨w.heap.size, 1, none⟩ (.int .i64 X.next)).setCell ⟨w.heap.size, 2, none⟩ (.int .i64 X.wide)).setCell ⟨w.heap.size, 3, none⟩ (.int .i64 X.high)).setCell ⟨w.heap.size, 4, none⟩ (Value.slice a1 X.gs.length r1)).setCell ⟨w.heap.size, 5, none⟩ (Value.slice a2 X.os.length r2)).setCell ⟨w.heap.size, 6, none⟩ (Value.slice a3 X.gold.length r3)).setCell ⟨w.heap.size, 7, none⟩ (Value.slice a4 X.us.length r4)).setCell ⟨w.heap.size, 8, none⟩ (Value.slice a5 X.qs.length r5)) = w3 at *
 have Z3 : Hid (Wx w3 (w.heap.size + 1) (.int .i64 0) (.int .i64 0) (.int .i64 0) (.int .i64 0) (.slice none 0 0) (.slice none 0 0) (.slice none 0 0) (.slice none 0 0) (.slice none 0 0)) := Z2.out.kp KZ.out (by omega)
 have B3 : Hid (Below w.heap.size w w3) := KZ.out.below B2.out B2.out.size (Nat.le_refl _)
 have O3 : Hid (Ow w3 b1 (Value.slice a1 X.gs.length r1) X.gs ∧ Ow w3 b1 (Value.slice a2 X.os.length r2) X.os ∧ Ow w3 b1 (Value.slice a3 X.gold.length r3) X.gold ∧ Uno w3 b1 (Value.slice a4 X.us.length r4) X.us ∧ Jbo w3 b1 (Value.slice a5 X.qs.length r5) X.qs) := by
  have h := BS.out.1
  exact ⟨O2.out.1.kp KZ.out (by omega), O2.out.2.1.kp KZ.out (by omega), O2.out.2.2.1.kp KZ.out (by omega), O2.out.2.2.2.1.kp KZ.out (by omega), O2.out.2.2.2.2.kp KZ.out (by omega)⟩
 obtain ⟨b3, hb3⟩ : ∃ z, w3.heap.size = z := ⟨_, rfl⟩
 have S3 : Hid (b1 ≤ b3 ∧ w3.heap.size = b3) := ⟨by rw [← hb3]; exact Nat.le_trans BS.out.2 KZ.out.size, hb3⟩
 have L3 : Hid (Wl w3 (.agg #[.int .i64 X.turn, .int .i64 X.next, .int .i64 X.wide, .int .i64 X.high, Value.slice a1 X.gs.length r1, Value.slice a2 X.os.length r2, Value.slice a3 X.gold.length r3, Value.slice a4 X.us.length r4, Value.slice a5 X.qs.length r5]) X) := ⟨(Value.slice a1 X.gs.length r1), (Value.slice a2 X.os.length r2), (Value.slice a3 X.gold.length r3), (Value.slice a4 X.us.length r4), (Value.slice a5 X.qs.length r5), rfl, O3.out.1.ro, O3.out.2.1.ro, O3.out.2.2.1.ro, O3.out.2.2.2.1.l, O3.out.2.2.2.2.l⟩
 clear hb3 KZ X2 Z2 B2 O2
 obtain ⟨x0, x1, x2, x3, x4, x5, x6, x7, x8⟩ := X3.out.cells
 go_wp2_with fail
 refine (take_any _ ks X (Value.slice a1 X.gs.length r1) (Value.slice a2 X.os.length r2) (Value.slice a3 X.gold.length r3) (Value.slice a4 X.us.length r4) (Value.slice a5 X.qs.length r5) b1 w w3 K.out.1 B3.out (by have := BS.out.1; omega) O3.out.1 O3.out.2.1 O3.out.2.2.1 O3.out.2.2.2.1 O3.out.2.2.2.2 DD.out WR.out.dfit).mono ?_
 rintro e w4 ⟨ev, rfl, ht⟩
 obtain ⟨Z, hZ⟩ : ∃ Z, (tk ks X X.us.length).1 = Z := ⟨_, rfl⟩
 obtain ⟨es, hE⟩ : ∃ es, (tk ks X X.us.length).2 = es := ⟨_, rfl⟩
 have HZ : Hid ((tk ks X X.us.length).1 = Z ∧ (tk ks X X.us.length).2 = es) := ⟨hZ, hE⟩
 have EL : Hid (es.length ≤ 40) := by have h9 := tk_evs (ks := ks) (Y := X) X.us.length; rw [hE] at h9; have := WR.out.ul; unfold Hid; omega
 rw [hZ, hE] at ht
 have T4 : Hid (TkS ks X Z es b1 w3.heap.size w3 (Value.slice a1 X.gs.length r1) (Value.slice a2 X.os.length r2) (Value.slice a3 X.gold.length r3) (Value.slice a4 X.us.length r4) (Value.slice a5 X.qs.length r5) ev w4) := ht
 clear ht hZ hE
 have LB : Hid (w.heap.size + 1 < b1 ∧ b1 ≤ w3.heap.size) := ⟨BS.out.1, by have := S3.out; omega⟩
 have N4 : Hid (∀ k, k < b1 → ¬ ((Value.slice a2 X.os.length r2).ownBlock = some k ∨ (Value.slice a4 X.us.length r4).ownBlock = some k)) := fun k hk h => by
  rcases h with h | h
  ·have := (O3.out.2.1.block k h).1; omega
  ·have := (O3.out.2.2.2.1.block k h).1; omega
 have B34 : Hid (Below b1 w3 w4) := T4.out.fr.low LB.out.2 (fun k hk => by
  rcases Nat.lt_or_ge k b1 with h | h
  ·exact absurd hk (N4.out k h)
  ·exact h)
 have B4 : Hid (Below w.heap.size w w4) := B3.out.trans (B34.out.mono (by have := LB.out; omega))
 have X4 : Hid (Wx w4 w.heap.size (.int .i64 X.turn) (.int .i64 X.next) (.int .i64 X.wide) (.int .i64 X.high) (Value.slice a1 X.gs.length r1) (Value.slice a2 X.os.length r2) (Value.slice a3 X.gold.length r3) (Value.slice a4 X.us.length r4) (Value.slice a5 X.qs.length r5)) := X3.out.below B34.out (by have := LB.out; omega)
 have Z4 : Hid (Wx w4 (w.heap.size + 1) (.int .i64 0) (.int .i64 0) (.int .i64 0) (.int .i64 0) (.slice none 0 0) (.slice none 0 0) (.slice none 0 0) (.slice none 0 0) (.slice none 0 0)) := Z3.out.below B34.out (by have := LB.out; omega)
 clear x0 x1 x2 x3 x4 x5 x6 x7 x8
 go_upto_region 6 with fail
 have D5 : Hid (Below w4.heap.size w4 { w4 with drawn := w4.drawn + 1 }) := (Below.refl _ _).drew
 have CV : Hid (∀ V, Below b1 w4 V → Wx V w.heap.size (.int .i64 X.turn) (.int .i64 X.next) (.int .i64 X.wide) (.int .i64 X.high) (Value.slice a1 X.gs.length r1) (Value.slice a2 X.os.length r2) (Value.slice a3 X.gold.length r3) (Value.slice a4 X.us.length r4) (Value.slice a5 X.qs.length r5) ∧ Wx V (w.heap.size + 1) (.int .i64 0) (.int .i64 0) (.int .i64 0) (.int .i64 0) (.slice none 0 0) (.slice none 0 0) (.slice none 0 0) (.slice none 0 0) (.slice none 0 0)) := fun V hV => ⟨X4.out.below hV (by have := LB.out; omega), Z4.out.below hV (by have := LB.out; omega)⟩
 have S4 : Hid (b1 ≤ w4.heap.size) := Nat.le_trans LB.out.2 T4.out.fr.size
 refine wp_region_two [(true, 0), (true, 1), (true, 2), (true, 3), (false, 4), (false, 5)] [(false, 6), (false, 7), (false, 8)] (fun V => Wx V w.heap.size (.int .i64 X.turn) (.int .i64 X.next) (.int .i64 X.wide) (.int .i64 X.high) (Value.slice a1 X.gs.length r1) (Value.slice a2 X.os.length r2) (Value.slice a3 X.gold.length r3) (Value.slice a4 X.us.length r4) (Value.slice a5 X.qs.length r5) ∧ Wx V (w.heap.size + 1) (.int .i64 0) (.int .i64 0) (.int .i64 0) (.int .i64 0) (.slice none 0 0) (.slice none 0 0) (.slice none 0 0) (.slice none 0 0) (.slice none 0 0)) (by kernel_rfl) (by kernel_rfl) (by kernel_rfl) (by decide +kernel) (by decide +kernel) (CV.out _ (D5.out.mono S4.out)) ?_
 generalize ({ w4 with drawn := w4.drawn + 1 } : World) = w5 at *
 refine headT_read rfl (.agg #[.int .i64 X.turn, .int .i64 X.next, .int .i64 X.wide, .int .i64 X.high, Value.slice a1 X.gs.length r1, Value.slice a2 X.os.length r2, Value.slice a3 X.gold.length r3, Value.slice a4 X.us.length r4, Value.slice a5 X.qs.length r5]) (by go_simp) (fun V hV => by obtain ⟨x0, x1, x2, x3, x4, x5, x6, x7, x8⟩ := hV.1.cells; go_simp) ?_
 go_simp
 refine headT_read rfl (ev) (by go_simp) (fun V hV => by go_simp) ?_
 go_simp
 refine headT_read rfl (.slice pk ks.length qk) (by go_simp) (fun V hV => by go_simp) ?_
 go_simp
 refine headT_read rfl (.agg #[.int .i64 X.turn, .int .i64 X.next, .int .i64 X.wide, .int .i64 X.high, Value.slice a1 X.gs.length r1, Value.slice a2 X.os.length r2, Value.slice a3 X.gold.length r3, Value.slice a4 X.us.length r4, Value.slice a5 X.qs.length r5]) (by go_simp) (fun V hV => by obtain ⟨x0, x1, x2, x3, x4, x5, x6, x7, x8⟩ := hV.1.cells; go_simp) ?_
 go_simp
 refine headT_call rfl 34 #[.slice pk ks.length qk, .agg #[.int .i64 X.turn, .int .i64 X.next, .int .i64 X.wide, .int .i64 X.high, Value.slice a1 X.gs.length r1, Value.slice a2 X.os.length r2, Value.slice a3 X.gold.length r3, Value.slice a4 X.us.length r4, Value.slice a5 X.qs.length r5]] (by go_simp) (by go_simp) ?_
 have T5 : Hid (TkS ks X Z es b1 w3.heap.size w3 (Value.slice a1 X.gs.length r1) (Value.slice a2 X.os.length r2) (Value.slice a3 X.gold.length r3) (Value.slice a4 X.us.length r4) (Value.slice a5 X.qs.length r5) ev w5) := T4.out.below D5.out
 have B5 : Hid (Below w.heap.size w w5) := B4.out.trans (D5.out.mono B4.out.size)
 have G5 : Hid (Z.wide = (Wn : Nat) ∧ Z.high = (Hn : Nat) ∧ Fd.Good Wn Hn Z.gs Z.os) := by
  obtain ⟨W', H', e1, e2, G⟩ := T5.out.f.wide
  have k := T5.out.k
  have f1 := GD.out.1
  have f2 := GD.out.2.1
  rw [k.2.2.1, f1] at e1
  rw [k.2.2.2.1, f2] at e2
  have g1 : Wn = W' := by omega
  have g2 : Hn = H' := by omega
  subst g1 g2
  exact ⟨by rw [k.2.2.1, f1], by rw [k.2.2.2.1, f2], G⟩
 have BA := bring_any (.slice pk ks.length qk) ks Z (Value.slice a1 X.gs.length r1) (Value.slice a2 X.os.length r2) (Value.slice a3 X.gold.length r3) (Value.slice a4 X.us.length r4) (Value.slice a5 X.qs.length r5) b1 w w5 K.out.1 B5.out (by have := LB.out; omega) T5.out.o1 T5.out.o2 T5.out.o3 T5.out.o4 T5.out.o5 T5.out.d T5.out.f Wn Hn G5.out.1 G5.out.2.1 G5.out.2.2 SD.out
 rw [T5.out.k.1, T5.out.k.2.1, T5.out.k.2.2.1, T5.out.k.2.2.2.1] at BA
 refine Calls.mono BA ?_
 clear BA
 rintro e w6 ⟨ev2, rfl, hb⟩
 obtain ⟨Q, hQ⟩ : ∃ Q, (br ks Wn Hn Z Z.us.length).1 = Q := ⟨_, rfl⟩
 obtain ⟨fs, hF⟩ : ∃ fs, (br ks Wn Hn Z Z.us.length).2 = fs := ⟨_, rfl⟩
 have HQ : Hid ((br ks Wn Hn Z Z.us.length).1 = Q ∧ (br ks Wn Hn Z Z.us.length).2 = fs) := ⟨hQ, hF⟩
 have FL : Hid (fs.length ≤ 40) := by have h9 := br_evs (ks := ks) (Wn := Wn) (Hn := Hn) (Y := Z) Z.us.length; rw [hF] at h9; have := T5.out.f.ul; unfold Hid; omega
 rw [hQ, hF] at hb
 have R6 : Hid (BrS ks Z Q fs b1 w5.heap.size w5 (Value.slice a1 X.gs.length r1) (Value.slice a2 X.os.length r2) (Value.slice a3 X.gold.length r3) (Value.slice a4 X.us.length r4) (Value.slice a5 X.qs.length r5) ev2 w6) := hb
 clear hb hQ hF
 have L34 : Hid (∀ k, ((Value.slice a3 X.gold.length r3).ownBlock = some k ∨ (Value.slice a4 X.us.length r4).ownBlock = some k) → b1 ≤ k ∧ k < w3.heap.size) := fun k h => by
  rcases h with h | h
  ·exact O3.out.2.2.1.block k h
  ·exact O3.out.2.2.2.1.block k h
 have B56 : Hid (Below b1 w5 w6) := R6.out.fr.low (Nat.le_trans S4.out D5.out.size) (fun k hk => (L34.out k hk).1)
 have B46 : Hid (Below b1 w4 w6) := (D5.out.mono S4.out).trans B56.out
 refine ⟨_, rfl, CV.out _ B46.out, ?_⟩
 go_simp
 have E6 : Hid (Evo w6 w3.heap.size ev es) := R6.out.fr.own T5.out.e (fun b hb h => by have h1 := (T5.out.e.block b hb).1; have h2 := (L34.out b h).2; omega)
 have S6 : Hid (w3.heap.size ≤ w6.heap.size) := Nat.le_trans T4.out.fr.size (Nat.le_trans D5.out.size R6.out.fr.size)
 obtain ⟨v', w7, hr, ho7, hg7⟩ := run_evs w6 31 w3.heap.size ev es E6.out ev2 fs R6.out.e.l (by have := EL.out; have := FL.out; omega) S6.out
 have BG : Hid (Below b1 w6 w7) := (Below.refl _ _).grown hg7 (Nat.le_trans LB.out.2 S6.out) (fun k hk => Nat.le_trans LB.out.2 (E6.out.block k hk).1)
 have B47 : Hid (Below b1 w4 w7) := B46.out.trans BG.out
 have E7 : Hid (Evo w7 w3.heap.size v' (es ++ fs)) := ho7
 have N7 : Hid (∀ x ∈ [Value.slice a1 X.gs.length r1, Value.slice a2 X.os.length r2, Value.slice a3 X.gold.length r3, Value.slice a4 X.us.length r4, Value.slice a5 X.qs.length r5], ∀ k, x.ownBlock = some k → ¬ ev.ownBlock = some k) := fun x hx k hk h => by
  have h1 := (E6.out.block k h).1
  simp only [List.mem_cons, List.not_mem_nil, or_false] at hx
  rcases hx with rfl | rfl | rfl | rfl | rfl
  ·have := (O3.out.1.block k hk).2; omega
  ·have := (O3.out.2.1.block k hk).2; omega
  ·have := (O3.out.2.2.1.block k hk).2; omega
  ·have := (O3.out.2.2.2.1.block k hk).2; omega
  ·have := (O3.out.2.2.2.2.block k hk).2; omega
 have O7 : Hid (Ow w7 b1 (Value.slice a1 X.gs.length r1) Q.gs ∧ Ow w7 b1 (Value.slice a2 X.os.length r2) Q.os ∧ Ow w7 b1 (Value.slice a3 X.gold.length r3) Q.gold ∧ Uno w7 b1 (Value.slice a4 X.us.length r4) Q.us ∧ Jbo w7 b1 (Value.slice a5 X.qs.length r5) Q.qs) :=
  ⟨own_gb R6.out.o1 hg7 (N7.out _ (by simp)), own_gb R6.out.o2 hg7 (N7.out _ (by simp)), own_gb R6.out.o3 hg7 (N7.out _ (by simp)), own_gb R6.out.o4 hg7 (N7.out _ (by simp)), own_gb R6.out.o5 hg7 (N7.out _ (by simp))⟩
 refine headT_value rfl v' w7 (by go_simp) (exec_append _ _ _ _ rfl _ _ (by go_simp) (by go_simp) hr) (CV.out _ B47.out) ?_
 clear hr ho7 hg7
 go_simp
 unfold wpHeadT
 obtain ⟨X7, Z7⟩ := CV.out _ B47.out
 have B7 : Hid (Below w.heap.size w w7) := B4.out.trans (B47.out.mono (by have := LB.out; omega))
 obtain ⟨z0, z1, z2, z3, z4, z5, z6, z7, z8⟩ := Z7.cells
 obtain ⟨t0, t1, t2, t3, t4, t5, t6, t7, t8⟩ := Z7.thaws
 have KZ : Hid (Kp (w.heap.size + 1) w7 (((((((((w7.setCell ⟨w.heap.size + 1, 0, none⟩ (.int .i64 X.turn)).setCell ⟨w.heap.size + 1, 1, none⟩ (.int .i64 X.next)).setCell ⟨w.heap.size + 1, 2, none⟩ (.int .i64 X.wide)).setCell ⟨w.heap.size + 1, 3, none⟩ (.int .i64 X.high)).setCell ⟨w.heap.size + 1, 4, none⟩ (Value.slice a1 X.gs.length r1)).setCell ⟨w.heap.size + 1, 5, none⟩ (Value.slice a2 X.os.length r2)).setCell ⟨w.heap.size + 1, 6, none⟩ (Value.slice a3 X.gold.length r3)).setCell ⟨w.heap.size + 1, 7, none⟩ (Value.slice a4 X.us.length r4)).setCell ⟨w.heap.size + 1, 8, none⟩ (Value.slice a5 X.qs.length r5))) := put_kp _ _ _ _ _ _ _ _ _ _ _
 obtain ⟨y0, y1, y2, y3, y4, y5, y6, y7, y8⟩ := (Z7.put (.int .i64 X.turn) (.int .i64 X.next) (.int .i64 X.wide) (.int .i64 X.high) (Value.slice a1 X.gs.length r1) (Value.slice a2 X.os.length r2) (Value.slice a3 X.gold.length r3) (Value.slice a4 X.us.length r4) (Value.slice a5 X.qs.length r5)).cells
 refine sched_skip rfl (((((((((w7.setCell ⟨w.heap.size + 1, 0, none⟩ (.int .i64 X.turn)).setCell ⟨w.heap.size + 1, 1, none⟩ (.int .i64 X.next)).setCell ⟨w.heap.size + 1, 2, none⟩ (.int .i64 X.wide)).setCell ⟨w.heap.size + 1, 3, none⟩ (.int .i64 X.high)).setCell ⟨w.heap.size + 1, 4, none⟩ (Value.slice a1 X.gs.length r1)).setCell ⟨w.heap.size + 1, 5, none⟩ (Value.slice a2 X.os.length r2)).setCell ⟨w.heap.size + 1, 6, none⟩ (Value.slice a3 X.gold.length r3)).setCell ⟨w.heap.size + 1, 7, none⟩ (Value.slice a4 X.us.length r4)).setCell ⟨w.heap.size + 1, 8, none⟩ (Value.slice a5 X.qs.length r5)) (by go_simp) (by go_simp) trivial ?_
 clear z0 z1 z2 z3 z4 z5 z6 z7 z8 t0 t1 t2 t3 t4 t5 t6 t7 t8
 generalize (((((((((w7.setCell ⟨w.heap.size + 1, 0, none⟩ (.int .i64 X.turn)).setCell ⟨w.heap.size + 1, 1, none⟩ (.int .i64 X.next)).setCell ⟨w.heap.size + 1, 2, none⟩ (.int .i64 X.wide)).setCell ⟨w.heap.size + 1, 3, none⟩ (.int .i64 X.high)).setCell ⟨w.heap.size + 1, 4, none⟩ (Value.slice a1 X.gs.length r1)).setCell ⟨w.heap.size + 1, 5, none⟩ (Value.slice a2 X.os.length r2)).setCell ⟨w.heap.size + 1, 6, none⟩ (Value.slice a3 X.gold.length r3)).setCell ⟨w.heap.size + 1, 7, none⟩ (Value.slice a4 X.us.length r4)).setCell ⟨w.heap.size + 1, 8, none⟩ (Value.slice a5 X.qs.length r5)) = w8 at *
 go_simp
 refine sched_value rfl v' w8 (by go_simp) (by go_simp) trivial ?_
 go_simp
 refine sched_value rfl .nilIface w8 (by go_simp) (by go_simp) trivial ?_
 go_simp
 unfold wpSched
 go_wp2
 have QK : Hid (Q.turn = X.turn ∧ Q.next = X.next ∧ Q.wide = X.wide ∧ Q.high = X.high) := by
  obtain ⟨a1, a2, a3, a4, -⟩ := R6.out.k
  obtain ⟨c1, c2, c3, c4, -⟩ := T5.out.k
  exact ⟨by rw [a1, c1], by rw [a2, c2], by rw [a3, c3], by rw [a4, c4]⟩
 refine bodyPost_ret (v := .tuple #[.agg #[.int .i64 X.turn, .int .i64 X.next, .int .i64 X.wide, .int .i64 X.high, Value.slice a1 X.gs.length r1, Value.slice a2 X.os.length r2, Value.slice a3 X.gold.length r3, Value.slice a4 X.us.length r4, Value.slice a5 X.qs.length r5], v', .nilIface]) (by simp [results, Tryz.results9, go_sem, y0, y1, y2, y3, y4, y5, y6, y7, y8]) rfl ⟨_, _, _, rfl, by rw [FW.out]; exact Er.nil, .inr ⟨FW.out, Wn, Hn, GD.out.1, GD.out.2.1, GD.out.2.2, ?_, ?_⟩, KZ.out.below B7.out B7.out.size (by omega)⟩
 ·have e : dug ks Wn Hn X = Q := by unfold dug; rw [HZ.out.1, HQ.out.1]
  rw [e]
  have h := LB.out
  refine ⟨_, _, _, _, _, by rw [QK.out.1, QK.out.2.1, QK.out.2.2.1, QK.out.2.2.2], (O7.out.1.kp KZ.out (by omega)).mono (by omega), (O7.out.2.1.kp KZ.out (by omega)).mono (by omega), (O7.out.2.2.1.kp KZ.out (by omega)).mono (by omega), (O7.out.2.2.2.1.kp KZ.out (by omega)).mono (by omega), (O7.out.2.2.2.2.kp KZ.out (by omega)).mono (by omega)⟩
 ·have e : dugEv ks Wn Hn X = es ++ fs := by unfold dugEv; rw [HZ.out.1, HZ.out.2, HQ.out.2]
  rw [e]
  have h := LB.out
  exact (E7.out.kp9 KZ.out (by omega)).mono (by omega)
end Go.Proofs.YteieikgkmfglaaaGreatDoor
namespace Go.Proofs.YteieikgkmfglaaaGreatDoor
set_option linter.unusedVariables false
def ers (u : UnV) : UnV := loadU u 0
theorem ers_set {l : List UnV} {i : Nat} {u : UnV} (h : l[i]? = some u) (n : Int) : (l.set i (loadU u n)).map ers = l.map ers := by
 apply List.ext_getElem?
 intro j
 rw [List.getElem?_map, List.getElem?_map, List.getElem?_set]
 split
 ·rename_i e
  subst e
  split
  ·rw [h]; rfl
  ·rename_i h2
   rw [List.getElem?_eq_none (by omega)]
 ·rfl
theorem tk_ers {ks : List KV} {Y : WV} : ∀ q, (tk ks Y q).1.us.map ers = Y.us.map ers
 | 0 => rfl
 | q + 1 => by
  have ih := tk_ers (ks := ks) (Y := Y) q
  cases hu : (tk ks Y q).1.us[q]? with
  | none => rw [tk]; simp only [hu]; exact ih
  | some u =>
   by_cases h : 0 < yieldN ks (tk ks Y q).1 u
   ·rw [tk_yes hu h]
    show ((tk ks Y q).1.us.set q (loadU u _)).map ers = _
    rw [ers_set hu, ih]
   ·rw [tk_no hu h]; exact ih
theorem br_keep {ks : List KV} {Wn Hn : Nat} {Y : WV} (hf : DFit ks Y) : ∀ q, BrK Y (br ks Wn Hn Y q).1 ∧ DFit ks (br ks Wn Hn Y q).1 ∧ (br ks Wn Hn Y q).1.us.map ers = Y.us.map ers
 | 0 => ⟨⟨rfl, rfl, rfl, rfl, rfl, rfl, rfl, rfl, rfl⟩, hf, rfl⟩
 | q + 1 => by
  obtain ⟨ih, i2, i3⟩ := br_keep (Wn := Wn) (Hn := Hn) hf q
  cases hu : (br ks Wn Hn Y q).1.us[q]? with
  | none => rw [br]; simp only [hu]; exact ⟨ih, i2, i3⟩
  | some u =>
   cases h : brings ks Wn Hn (br ks Wn Hn Y q).1 u with
   | true =>
    rw [br_yes hu h]
    obtain ⟨a1, a2, a3, a4, a5, a6, a7, a8, a9⟩ := ih
    refine ⟨⟨a1, a2, a3, a4, a5, a6, a7, by simpa [bringW] using a8, by simpa [bringW] using a9⟩, i2.bring hu, ?_⟩
    show ((br ks Wn Hn Y q).1.us.set q (loadU u 0)).map ers = _
    rw [ers_set hu, i3]
   | false => rw [br_no hu h]; exact ⟨ih, i2, i3⟩
theorem ers_at {l m : List UnV} (h : l.map ers = m.map ers) {i : Nat} {u : UnV} (hu : l[i]? = some u) : ∃ v, m[i]? = some v ∧ ers u = ers v := by
 have : (l.map ers)[i]? = some (ers u) := by rw [List.getElem?_map, hu]; rfl
 rw [h, List.getElem?_map] at this
 cases hv : m[i]? with
 | none => rw [hv] at this; cases this
 | some v =>
  rw [hv] at this
  injection this with this
  exact ⟨v, rfl, this.symm⟩
theorem ers_eq {u v : UnV} (h : ers u = ers v) : u.id = v.id ∧ u.player = v.player ∧ u.kind = v.kind ∧ u.at_ = v.at_ ∧ u.life = v.life ∧ u.task = v.task ∧ u.goal = v.goal := by
 unfold ers loadU at h
 injection h with h1 h2 h3 h4 h5 h6 h7 h8
 exact ⟨h1, h2, h3, h4, h5, h7, h8⟩
theorem ers_take {l m : List UnV} (h : l.map ers = m.map ers) (i : Nat) : (l.take i).map ers = (m.take i).map ers := by rw [List.map_take, List.map_take, h]
theorem ers_find {l m : List UnV} (h : l.map ers = m.map ers) (n : Int) : (l.find? (fun u => u.id == n)).map ers = (m.find? (fun u => u.id == n)).map ers := by
 induction l generalizing m with
 | nil =>
  cases m with
  | nil => rfl
  | cons _ _ => simp at h
 | cons u l ih =>
  cases m with
  | nil => simp at h
  | cons v m =>
   rw [List.map_cons, List.map_cons] at h
   injection h with h1 h2
   have e := (ers_eq h1).1
   rw [List.find?_cons, List.find?_cons, e]
   cases hh : (v.id == n) with
   | true => simp [h1]
   | false => exact ih h2
theorem right_ers {ks : List KV} {X Z : WV} (h : WRight ks X) (f : DFit ks Z) (k1 : Z.turn = X.turn) (k2 : Z.next = X.next) (k3 : Z.wide = X.wide) (k4 : Z.high = X.high) (k5 : Z.gs = X.gs) (k6 : Z.qs = X.qs) (k7 : Z.gold.length = X.gold.length) (e : Z.us.map ers = X.us.map ers) : Wd.wfault ks Z = 0 := by
 have hl : Z.us.length = X.us.length := by have := congrArg List.length e; simpa using this
 refine Wd.wfault_zero h.kinds ?_ ?_ (by rw [hl]; exact h.ul) ?_ (by rw [k6]; exact h.ql) ?_
 ·obtain ⟨Wn, Hn, e1, e2, G⟩ := f.wide
  rw [e1, e2]
  exact Fd.fault_good G
 ·have hn := h.nums
  unfold Wd.numsBad at hn ⊢
  rw [k1, k2, k7]
  simp only [Bool.or_eq_false_iff] at hn ⊢
  refine ⟨hn.1, hn.2.1, hn.2.2.1, ?_⟩
  rw [List.any_eq_false]
  intro g hg
  have := f.gold g hg
  unfold Wd.off
  simp
  omega
 ·intro i u hu
  obtain ⟨v, hv, ev⟩ := ers_at e hu
  obtain ⟨q1, q2, q3, q4, q5, q6, q7⟩ := ers_eq ev
  obtain ⟨k, F⟩ := h.fine hv
  obtain ⟨⟨kn, k', e1, e2, l1, l2, l3⟩, -⟩ := f.units u (List.mem_of_getElem? hu)
  have ek : k' = k := by
   have h9 := F.kk
   rw [← q3, e1, Int.toNat_natCast, e2] at h9
   injection h9
  subst ek
  refine ⟨k', by rw [q1]; exact F.id1, by rw [q1, k2]; exact F.id2, ?_, by rw [q2, k7]; exact F.p, by rw [q3]; exact F.k0, by rw [q3]; exact F.kk, by rw [q5]; exact F.life, ⟨l1, l2⟩, by rw [q6]; exact F.task, by rw [q4, k5]; exact F.at_, by rw [q7, k5]; exact F.goal, ?_, by rw [q6, q7]; exact F.rest⟩
  ·have hup := F.up
   cases i with
   | zero => rfl
   | succ i =>
    have hil : i < Z.us.length := by have := (List.getElem?_eq_some_iff.1 hu).1; omega
    obtain ⟨p, hp⟩ : ∃ p, Z.us[i]? = some p := ⟨_, List.getElem?_eq_getElem hil⟩
    obtain ⟨p', hp', ep⟩ := ers_at e hp
    simp only [Wd.notAbove, hp', decide_eq_false_iff_not] at hup
    simp only [Wd.notAbove, hp, decide_eq_false_iff_not]
    rw [q1, (ers_eq ep).1]
    exact hup
  ·have ho := F.opn
   unfold Wd.open_ at ho ⊢
   rw [Bool.and_eq_true] at ho ⊢
   refine ⟨by rw [q4, k5]; exact ho.1, ?_⟩
   have h1 := ho.2
   rw [Bool.not_eq_true', List.any_eq_false] at h1 ⊢
   intro p hp
   obtain ⟨i', hi'⟩ := List.mem_iff_getElem?.1 hp
   obtain ⟨p', hp', ep⟩ := ers_at (ers_take e i) hi'
   rw [(ers_eq ep).2.2.2.1, q4]
   exact h1 p' (List.mem_of_getElem? hp')
 ·intro j hj
  rw [k6] at hj
  have h1 := h.job hj
  unfold Wd.jobFault at h1 ⊢
  have h2 := ers_find e j.unit
  cases hz : Z.us.find? (fun u => u.id == j.unit) with
  | none =>
   rw [hz] at h2
   cases hx : X.us.find? (fun u => u.id == j.unit) with
   | none => rw [hx] at h1; exact h1
   | some v => rw [hx] at h2; cases h2
  | some u =>
   rw [hz] at h2
   cases hx : X.us.find? (fun u => u.id == j.unit) with
   | none => rw [hx] at h2; cases h2
   | some v =>
    rw [hx] at h2 h1
    injection h2 with h2
    obtain ⟨-, q2, q3, -⟩ := ers_eq h2
    simp only at h1 ⊢
    rw [q2, q3]
    exact h1
end Go.Proofs.YteieikgkmfglaaaGreatDoor
namespace Go.Proofs.YteieikgkmfglaaaGreatDoor
set_option linter.unusedVariables false
theorem right_lt {ks : List KV} {X : WV} (h : WRight ks X) {i j : Nat} {a b : UnV} (ha : X.us[i]? = some a) (hb : X.us[j]? = some b) (e : a.at_ = b.at_) (hl : i < j) : False := by
 obtain ⟨k, F⟩ := h.fine hb
 have ho := F.opn
 unfold Wd.open_ at ho
 rw [Bool.and_eq_true, Bool.not_eq_true'] at ho
 have h2 := List.any_eq_false.1 ho.2 a (List.mem_of_getElem? (i := i) (by rw [List.getElem?_take, if_pos hl]; exact ha))
 simp [e] at h2
theorem right_once {ks : List KV} {X : WV} (h : WRight ks X) {i j : Nat} {a b : UnV} (ha : X.us[i]? = some a) (hb : X.us[j]? = some b) (e : a.at_ = b.at_) : i = j := by
 rcases Nat.lt_trichotomy i j with hl | hl | hl
 ·exact (right_lt h ha hb e hl).elim
 ·exact hl
 ·exact (right_lt h hb ha e.symm hl).elim
/-- one of u's player that trains stands on x. -/
def hasAt (ks : List KV) (us : List UnV) (u : UnV) (x : Int) : Bool := us.any (fun h => decide (h.player = u.player) && (trainsOf ks h && decide (h.at_ = x)))
theorem home_has (ks : List KV) (Wn Hn an : Nat) (Y : WV) (u : UnV) : homeB ks Wn Hn an Y u = (Fd.near Wn Hn an).any (hasAt ks Y.us u) := by
 unfold homeB takesIn hasAt
 rw [Bool.eq_iff_iff]
 simp only [List.any_eq_true, Bool.and_eq_true, decide_eq_true_eq]
 constructor
 ·rintro ⟨h, hm, h1, h2, x, hx, h3⟩
  exact ⟨x, hx, h, hm, h1, h2, h3⟩
 ·rintro ⟨x, hx, h, hm, h1, h2, h3⟩
  exact ⟨h, hm, h1, h2, x, hx, h3⟩
theorem has_none {ks : List KV} {us : List UnV} {u : UnV} {x : Int} (h : us.any (fun o => o.at_ == x) = false) : hasAt ks us u x = false := by
 unfold hasAt
 rw [List.any_eq_false] at h ⊢
 intro o ho
 have := h o ho
 simp at this
 simp [this]
theorem has_one {ks : List KV} {X : WV} (hr : WRight ks X) {u o : UnV} {n : Nat} {x : Int} (ho : X.us[n]? = some o) (hx : o.at_ = x) : hasAt ks X.us u x = (decide (o.player = u.player) && trainsOf ks o) := by
 unfold hasAt
 rw [Bool.eq_iff_iff]
 simp only [List.any_eq_true, Bool.and_eq_true, decide_eq_true_eq]
 constructor
 ·rintro ⟨h, hm, h1, h2, h3⟩
  obtain ⟨i, hi⟩ := List.mem_iff_getElem?.1 hm
  obtain rfl := right_once hr hi ho (by rw [h3, hx])
  obtain rfl := Option.some.inj (hi.symm.trans ho)
  exact ⟨h1, h2⟩
 ·rintro ⟨h1, h2⟩
  exact ⟨o, List.mem_of_getElem? ho, h1, h2, hx⟩
theorem trains_of {ks : List KV} {o : UnV} {kn : Nat} {k : KV} (h1 : o.kind = (kn : Nat)) (h2 : ks[kn]? = some k) : trainsOf ks o = k.t := by
 unfold trainsOf
 rw [h1, Int.toNat_natCast, h2]
/-- the first c cells. -/
def homeC (ks : List KV) (us : List UnV) (u : UnV) (near : List Int) (c : Nat) : Bool := (near.take c).any (hasAt ks us u)
theorem homeC_next {ks : List KV} {us : List UnV} {u : UnV} {near : List Int} {c : Nat} {x : Int} (h : near[c]? = some x) : homeC ks us u near (c + 1) = (homeC ks us u near c || hasAt ks us u x) := by
 unfold homeC
 rw [List.take_add_one, h]
 simp
theorem homeC_all (ks : List KV) (Wn Hn an : Nat) (Y : WV) (u : UnV) : homeC ks Y.us u (Fd.near Wn Hn an) (Fd.near Wn Hn an).length = homeB ks Wn Hn an Y u := by
 unfold homeC
 rw [List.take_of_length_le (Nat.le_refl _), home_has]
/-- behind each that has taken, and each that has brought, a world is right. -/
theorem tk_right {ks : List KV} {X : WV} (h : WRight ks X) (q : Nat) : WRight ks (tk ks X q).1 := by
 obtain ⟨k1, k2, k3, k4, k5, k6, k7, -, -⟩ := tk_keep (ks := ks) (Y := X) q
 exact wright_of (right_ers h (tk_fit h.dfit q) k1 k2 k3 k4 k5 k7 (by rw [k6]) (tk_ers q))
theorem br_right {ks : List KV} {Wn Hn : Nat} {X : WV} (h : WRight ks X) (q : Nat) : WRight ks (br ks Wn Hn X q).1 := by
 obtain ⟨⟨k1, k2, k3, k4, k5, -, k7, -, k9⟩, f, e⟩ := br_keep (Wn := Wn) (Hn := Hn) h.dfit q
 exact wright_of (right_ers h f k1 k2 k3 k4 k5 k7 k9 e)
end Go.Proofs.YteieikgkmfglaaaGreatDoor
namespace Go.Proofs.YteieikgkmfglaaaGreatDoor
open Go.RowKit
set_option linter.unusedVariables false
structure RxS (ks : List KV) (Y Z : WV) (es : List EvV) (b1 b : Nat) (w : World) (u1 u2 u3 u4 u5 ev : Value) (V : World) : Prop where
 o1 : Ow V b1 u1 Z.gs
 o2 : Ow V b1 u2 Z.os
 o3 : Ow V b1 u3 Z.gold
 o4 : Uno V b1 u4 Z.us
 o5 : Jbo V b1 u5 Z.qs
 e : Evo V b ev es
 d : [u1, u2, u3, u4, u5].Pairwise Dif
 fr : Fr (fun q => u2.ownBlock = some q ∨ u3.ownBlock = some q ∨ u4.ownBlock = some q) w V
 k : BrK Y Z
 f : DFit ks Z
section
variable {ks : List KV} {Y Z : WV} {es : List EvV} {b1 b : Nat} {w : World} {u1 u2 u3 u4 u5 ev : Value} {V V' : World}
theorem RxS.below (h : RxS ks Y Z es b1 b w u1 u2 u3 u4 u5 ev V) (hb : Below V.heap.size V V') : RxS ks Y Z es b1 b w u1 u2 u3 u4 u5 ev V' :=
 ⟨h.o1.below hb, h.o2.below hb, h.o3.below hb, h.o4.below hb, h.o5.below hb, h.e.below hb, h.d, h.fr.trans (Fr.below hb), h.k, h.f⟩
theorem RxS.wl (h : RxS ks Y Z es b1 b w u1 u2 u3 u4 u5 ev V) : Wl V (.agg #[.int .i64 Y.turn, .int .i64 Y.next, .int .i64 Y.wide, .int .i64 Y.high, u1, u2, u3, u4, u5]) Z := by
 obtain ⟨a1, a2, a3, a4, -⟩ := h.k
 exact ⟨u1, u2, u3, u4, u5, by rw [a1, a2, a3, a4], h.o1.ro, h.o2.ro, h.o3.ro, h.o4.l, h.o5.l⟩
theorem RxS.difs (h : RxS ks Y Z es b1 b w u1 u2 u3 u4 u5 ev V) : (Dif u1 u2 ∧ Dif u1 u3 ∧ Dif u1 u4 ∧ Dif u1 u5) ∧ (Dif u2 u3 ∧ Dif u2 u4 ∧ Dif u2 u5) ∧ (Dif u3 u4 ∧ Dif u3 u5) ∧ Dif u4 u5 := by
 have := h.d
 simp only [List.pairwise_cons, List.mem_cons, List.not_mem_nil, or_false, forall_eq_or_imp, forall_eq] at this
 obtain ⟨⟨a1, a2, a3, a4⟩, ⟨b1, b2, b3⟩, ⟨c1, c2⟩, d1, -⟩ := this
 exact ⟨⟨a1, a2, a3, a4⟩, ⟨b1, b2, b3⟩, ⟨c1, c2⟩, d1⟩
theorem RxS.bring {lu lg gu gg cu cg i : Nat} {ur : List Value} {gr : Array Value} {u : UnV} {ev' : Value} (h : RxS ks Y Z es b1 b w u1 u2 (.slice (some ⟨gg, 0, none⟩) lg cg) (.slice (some ⟨gu, 0, none⟩) lu cu) u5 ev V) (elu : Y.us.length = lu) (elg : Y.gold.length = lg) (hwb : w.heap.size = b)
  (hl : ∀ x ∈ [u1, u2, u5], ∀ k, x.ownBlock = some k → k < b) (hgu : b1 ≤ gu) (c1 : lu ≤ cu) (c2 : cu ≤ maxLen) (c3 : lu * 8 + ur.length = cu * 8) (hgg : b1 ≤ gg) (d1 : lg ≤ cg) (d2 : cg ≤ maxLen) (d3 : lg + gr.size = cg)
  (hu : Z.us[i]? = some u) (hub : Ub V' gu (bringW Z i u).us ur) (hbk : Bk V' gg (bringW Z i u).gold gr) (he : Evo V' b ev' (es ++ [⟨5, u.id, u.load⟩])) (hf : Fr (fun q => q = gu ∨ q = gg ∨ ev.ownBlock = some q) V V') :
  RxS ks Y (bringW Z i u) (es ++ [⟨5, u.id, u.load⟩]) b1 b w u1 u2 (.slice (some ⟨gg, 0, none⟩) lg cg) (.slice (some ⟨gu, 0, none⟩) lu cu) u5 ev' V' := by
 subst elu elg
 obtain ⟨⟨d12, d13, d14, d15⟩, ⟨d23, d24, d25⟩, ⟨d34, d35⟩, d45⟩ := h.difs
 have owu : (Value.slice (some ⟨gu, 0, none⟩) Y.us.length cu).ownBlock = some gu := rfl
 have owg : (Value.slice (some ⟨gg, 0, none⟩) Y.gold.length cg).ownBlock = some gg := rfl
 have no : ∀ x ∈ [u1, u2, u5], Dif x (.slice (some ⟨gg, 0, none⟩) Y.gold.length cg) → Dif x (.slice (some ⟨gu, 0, none⟩) Y.us.length cu) → ∀ q, x.ownBlock = some q → ¬ (q = gu ∨ q = gg ∨ ev.ownBlock = some q) := fun x hx e2 e4 q hq hs => by
  rcases hs with e | e | e
  ·exact e4 q hq (by rw [owu, e])
  ·exact e2 q hq (by rw [owg, e])
  ·have h8 := (h.e.block q e).1; have h9 := hl x hx q hq; omega
 have k' : BrK Y (bringW Z i u) := by
  obtain ⟨a1, a2, a3, a4, a5, a6, a7, a8, a9⟩ := h.k
  exact ⟨a1, a2, a3, a4, a5, a6, a7, by simpa [bringW] using a8, by simpa [bringW] using a9⟩
 refine ⟨hf.own h.o1 (no u1 (by simp) d13 d14), hf.own h.o2 (no u2 (by simp) d23 d24), ?_, ?_, hf.own h.o5 (no u5 (by simp) d35.symm d45.symm), he, h.d, ?_, k', h.f.bring hu⟩
 ·have := hbk.ow (base := b1) (cap := cg) hgg (by rw [k'.2.2.2.2.2.2.2.2]; exact d1) d2 (by rw [k'.2.2.2.2.2.2.2.2]; exact d3)
  rw [k'.2.2.2.2.2.2.2.2] at this
  exact this
 ·have := hub.uno (base := b1) (cap := cu) hgu (by rw [k'.2.2.2.2.2.2.2.1]; exact c1) c2 (by rw [k'.2.2.2.2.2.2.2.1]; exact c3)
  rw [k'.2.2.2.2.2.2.2.1] at this
  exact this
 ·refine ⟨hf.os.trans h.fr.os, hf.tape.trans h.fr.tape, hf.output.trans h.fr.output, Nat.le_trans h.fr.size hf.size, fun q hq hn => (hf.block q (Nat.lt_of_lt_of_le hq h.fr.size) (fun e => ?_)).trans (h.fr.block q hq hn)⟩
  rcases e with e | e | e
  ·exact hn (.inr (.inr (by rw [owu, e])))
  ·exact hn (.inr (.inl (by rw [owg, e])))
  ·have := (h.e.block q e).1; omega
end
theorem RxS.of {ks : List KV} {X Z : WV} {es : List EvV} {b1 b : Nat} {w : World} {u1 u2 u3 u4 u5 ev : Value} {V : World} (h : TkS ks X Z es b1 b w u1 u2 u3 u4 u5 ev V) : RxS ks Z Z es b1 b w u1 u2 u3 u4 u5 ev V :=
 ⟨h.o1, h.o2, h.o3, h.o4, h.o5, h.e, h.d, h.fr.mono (fun k hk => by rcases hk with hk | hk; exact .inl hk; exact .inr (.inr hk)), ⟨rfl, rfl, rfl, rfl, rfl, rfl, rfl, rfl, rfl⟩, h.f⟩
end Go.Proofs.YteieikgkmfglaaaGreatDoor
