/- Fields: Near and Step. -/
import Derived.Test.YtogdaegnpoknlaaDoorFdPl
import Derived.Test.YtogdaegnpoknlaaDoorLit
import Derived.Test.YtogdaegnpoknlaaDoorFdC
namespace Go.Proofs.YtogdaegnpoknlaaDoor
open Go.RowKit
set_option linter.unusedVariables false

/-- the package variable of the four sides. -/
structure Sd (w : World) : Prop where
  c0 : w.cell? ⟨0, 0, none⟩ = some (.int .i64 0)
  c1 : w.cell? ⟨0, 1, none⟩ = some (.int .i64 (-1))
  c2 : w.cell? ⟨0, 2, none⟩ = some (.int .i64 (-1))
  c3 : w.cell? ⟨0, 3, none⟩ = some (.int .i64 0)
  c4 : w.cell? ⟨0, 4, none⟩ = some (.int .i64 1)
  c5 : w.cell? ⟨0, 5, none⟩ = some (.int .i64 0)
  c6 : w.cell? ⟨0, 6, none⟩ = some (.int .i64 0)
  c7 : w.cell? ⟨0, 7, none⟩ = some (.int .i64 1)
theorem Sd.lt {w : World} (h : Sd w) : 0 < w.heap.size := cell_lt h.c0
theorem Sd.below {w w' : World} (h : Sd w) (hb : Below w.heap.size w w') : Sd w' := by
  have l := h.lt
  refine ⟨?_, ?_, ?_, ?_, ?_, ?_, ?_, ?_⟩
  · rw [hb.cell (p := ⟨0, 0, none⟩) l]; exact h.c0
  · rw [hb.cell (p := ⟨0, 1, none⟩) l]; exact h.c1
  · rw [hb.cell (p := ⟨0, 2, none⟩) l]; exact h.c2
  · rw [hb.cell (p := ⟨0, 3, none⟩) l]; exact h.c3
  · rw [hb.cell (p := ⟨0, 4, none⟩) l]; exact h.c4
  · rw [hb.cell (p := ⟨0, 5, none⟩) l]; exact h.c5
  · rw [hb.cell (p := ⟨0, 6, none⟩) l]; exact h.c6
  · rw [hb.cell (p := ⟨0, 7, none⟩) l]; exact h.c7

theorem ask1_zero {F : Int} {n : Nat} {a : Int} (h : Fd.askFault F n [a] = 0) : F = 0 ∧ 0 ≤ a ∧ a < n := by
  unfold Fd.askFault at h
  split at h
  · omega
  · rename_i hF
    have hF : F = 0 := by omega
    split at h
    · rename_i hx
      simp at hx
      omega
    · omega
theorem ask1_good {W H : Nat} {gs os : List Int} {a : Nat} (G : Fd.Good W H gs os) (ha : a < W * H) : Fd.askFault (Fd.fault W H gs os) gs.length [(a : Int)] = 0 := by
  unfold Fd.askFault
  rw [Fd.fault_good G, if_neg (by decide), if_pos]
  rw [G.gl]
  simp
  omega

set_option maxHeartbeats 1000000 in
theorem Near_bad (v : Value) (W H : Int) (gs os : List Int) (a F : Int) (w : World) (h : Fl w v W H gs os) (hF : Fd.askFault (Fd.fault W H gs os) gs.length [a] = F) (h0 : F ≠ 0) :
    Calls Tryd.prog 15 #[v, .int .i64 a] w fun e w' => e = .returned (.tuple #[.slice none 0 0, .iface 50 (.int .i64 F)]) ∧ Below w.heap.size w w' := by
  have F0 : Hid (Fl w v W H gs os) := h
  have HF : Hid (Fd.askFault (Fd.fault W H gs os) gs.length [a] = F) := hF
  have H0 : Hid (F ≠ 0) := h0
  obtain ⟨u1, u2, rfl, ⟨a1, c, rfl, c1, c2, ca⟩, ⟨b1, d, rfl, d1, d2, cb⟩⟩ := h
  clear hF h0 ca cb
  go_enter Tryd.func15, Tryd.ntmps15
  go_wp2_with fail
  refine (ask_any _ _ W H gs os [a] _ (F0.out.below (((Below.refl _ _).alloc (Nat.le_refl _) _).alloc (by simp) _)) (Ro.lit1 (w := w.alloc _) a (by simp))).mono ?_
  rintro e w1 ⟨v1, rfl, hv, hb⟩
  have B1 : Hid (Below w.heap.size w w1) := (((Below.refl _ _).alloc (Nat.le_refl _) _).alloc (by simp) _).trans (hb.mono (by simp; omega))
  rw [HF.out] at hv
  clear hb
  rcases hv with ⟨hz, rfl⟩ | ⟨hz, rfl⟩
  · exact absurd hz H0.out
  · clear hz
    go_wp2
    go_ret2
    exact ⟨rfl, B1⟩

set_option maxHeartbeats 1000000 in
theorem Step_bad (v : Value) (W H : Int) (gs os : List Int) (a F : Int) (fl : Bool) (w : World) (h : Fl w v W H gs os) (hF : Fd.askFault (Fd.fault W H gs os) gs.length [a] = F) (h0 : F ≠ 0) :
    Calls Tryd.prog 16 #[v, .int .i64 a, .bool fl] w fun e w' => e = .returned (.tuple #[.int .i64 0, .iface 50 (.int .i64 F)]) ∧ Below w.heap.size w w' := by
  have F0 : Hid (Fl w v W H gs os) := h
  have HF : Hid (Fd.askFault (Fd.fault W H gs os) gs.length [a] = F) := hF
  have H0 : Hid (F ≠ 0) := h0
  obtain ⟨u1, u2, rfl, ⟨a1, c, rfl, c1, c2, ca⟩, ⟨b1, d, rfl, d1, d2, cb⟩⟩ := h
  clear hF h0 ca cb
  go_enter Tryd.func16, Tryd.ntmps16
  go_wp2_with fail
  refine (ask_any _ _ W H gs os [a] _ (F0.out.below (((Below.refl _ _).alloc (Nat.le_refl _) _).alloc (by simp) _)) (Ro.lit1 (w := w.alloc _) a (by simp))).mono ?_
  rintro e w1 ⟨v1, rfl, hv, hb⟩
  have B1 : Hid (Below w.heap.size w w1) := (((Below.refl _ _).alloc (Nat.le_refl _) _).alloc (by simp) _).trans (hb.mono (by simp; omega))
  rw [HF.out] at hv
  clear hb
  rcases hv with ⟨hz, rfl⟩ | ⟨hz, rfl⟩
  · exact absurd hz H0.out
  · clear hz
    go_wp2
    go_ret2
    exact ⟨rfl, B1⟩

set_option maxHeartbeats 1000000 in
theorem step_any (g : Int) (fl : Bool) (w : World) :
    Calls Tryd.prog 27 #[.int .i64 g, .bool fl] w fun e w' => e = .returned (.int .i64 (Fd.onto g fl)) ∧ w' = w := by
  have O : Hid (∀ u, u = Fd.onto g fl → Ending.returned (.int .i64 u) = .returned (.int .i64 (Fd.onto g fl))) := fun u h => by rw [h]
  unfold Fd.onto at O
  by_cases h1 : g = 1
  · subst h1
    go_enter Tryd.func27, Tryd.ntmps27
    go_wp2
    go_ret
    exact ⟨O.out 0 rfl, rfl⟩
  · by_cases h2 : g = 2
    · subst h2
      cases fl
      · go_enter Tryd.func27, Tryd.ntmps27
        go_wp2
        go_ret
        exact ⟨O.out 0 rfl, rfl⟩
      · go_enter Tryd.func27, Tryd.ntmps27
        go_wp2
        go_ret
        exact ⟨O.out 1 rfl, rfl⟩
    · by_cases h3 : g = 3
      · subst h3
        cases fl
        · go_enter Tryd.func27, Tryd.ntmps27
          go_wp2
          go_ret
          exact ⟨O.out 2 rfl, rfl⟩
        · go_enter Tryd.func27, Tryd.ntmps27
          go_wp2
          go_ret
          exact ⟨O.out 1 rfl, rfl⟩
      · go_enter Tryd.func27, Tryd.ntmps27
        go_wp2
        go_ret
        exact ⟨O.out 1 (by rw [if_neg h1, if_neg h2, if_neg h3]), rfl⟩

set_option maxHeartbeats 1000000 in
theorem Step_ok (v : Value) (W H : Nat) (gs os : List Int) (a : Nat) (g : Int) (fl : Bool) (w : World) (h : Fl w v W H gs os) (G : Fd.Good W H gs os) (ha : a < W * H) (hg : gs[a]? = some g) :
    Calls Tryd.prog 16 #[v, .int .i64 (a : Nat), .bool fl] w fun e w' => e = .returned (.tuple #[.int .i64 (Fd.onto g fl), .nilIface]) ∧ Below w.heap.size w w' := by
  have F0 : Hid (Fl w v W H gs os) := h
  have HF : Hid (Fd.askFault (Fd.fault W H gs os) gs.length [(a : Int)] = 0) := ask1_good G ha
  obtain ⟨u1, u2, rfl, ⟨a1, c, rfl, c1, c2, ca⟩, ⟨b1, d, rfl, d1, d2, cb⟩⟩ := h
  have gl := G.gl
  have hal : a < gs.length := by omega
  have gp := G.pos.2
  obtain ⟨x, rfl, xl, hx⟩ := ca (by intro e; rw [e] at hal; simp at hal)
  have cx : Hid (w.cell? (x.add a) = some (.int .i64 g)) := hx a g hg
  have Xl : Hid (x.block < w.heap.size) := xl
  have gl2 : gs.length ≤ 144 := by omega
  clear cb hx xl G hg gl gp ha
  go_enter Tryd.func16, Tryd.ntmps16
  go_wp2_with fail
  refine (ask_any _ _ W H gs os [(a : Int)] _ (F0.out.below (((Below.refl _ _).alloc (Nat.le_refl _) _).alloc (by simp) _)) (Ro.lit1 (w := w.alloc _) a (by simp))).mono ?_
  rintro e w1 ⟨v1, rfl, hv, hb⟩
  have B1 : Hid (Below w.heap.size w w1) := (((Below.refl _ _).alloc (Nat.le_refl _) _).alloc (by simp) _).trans (hb.mono (by simp; omega))
  have X1 := ((Bf.mk' (w := w) W H (Value.slice (some x) gs.length c) (Value.slice b1 os.length d) rfl).below ((Below.refl _ _).alloc (Nat.le_refl _) (Obj.cells #[Value.int IntKind.i64 a] 3)) (by simp)).below hb (by simp; omega)
  have c2 := X1.c2
  have cg : w1.cell? (x.add a) = some (.int .i64 g) := by rw [B1.out.cell (p := x.add a) (by rw [add_block]; exact Xl.out)]; exact cx.out
  rw [HF.out] at hv
  clear hb X1
  rcases hv with ⟨hz, rfl⟩ | ⟨hz, rfl⟩
  · clear hz
    go_wp2_with fail
    refine (step_any _ _ _).mono ?_
    rintro e w2 ⟨rfl, rfl⟩
    go_wp2
    go_ret2
    exact ⟨rfl, B1⟩
  · exact absurd rfl hz

namespace Fd
/-- how many columns, and rows, further the k-th cell beside one is. -/
def sc (k : Nat) : Int := if k = 1 then -1 else if k = 2 then 1 else 0
def sr (k : Nat) : Int := if k = 0 then -1 else if k = 3 then 1 else 0
/-- the first k cells beside one, as far as they are. -/
def nb (W H p r : Nat) : Nat → List Int
  | 0 => []
  | k + 1 => nb W H p r k ++ (if (0 ≤ (p : Int) + sc k ∧ (p : Int) + sc k ≤ (W : Int) - 1) ∧ (0 ≤ (r : Int) + sr k ∧ (r : Int) + sr k ≤ (H : Int) - 1) then [((r : Int) + sr k) * W + (p + sc k)] else [])
theorem nb_len (W H p r k : Nat) : (nb W H p r k).length ≤ k := by
  induction k with
  | zero => exact Nat.le_refl _
  | succ k ih =>
    simp only [nb, List.length_append]
    split
    · simp; omega
    · simp; omega
theorem nb_near {W H a p r : Nat} (hp : p < W) (hr : r < H) (e : W * r + p = a) : nb W H p r 4 = (if 0 < r then [(a : Int) - W] else []) ++ ((if 0 < p then [(a : Int) - 1] else []) ++ ((if p + 1 < W then [(a : Int) + 1] else []) ++ (if r + 1 < H then [(a : Int) + W] else []))) := by
  have e1 : (a : Int) = W * r + p := by rw [← e]; simp
  have e2 : ((r : Int) + -1) * W = W * r - W := by rw [Int.add_mul, Int.mul_comm (r : Int) W]; omega
  have e3 : ((r : Int) + 1) * W = W * r + W := by rw [Int.add_mul, Int.mul_comm (r : Int) W]; omega
  have e4 : ((r : Int) + 0) * W = W * r := by rw [Int.add_zero, Int.mul_comm (r : Int) W]
  simp only [nb, List.nil_append, List.append_assoc]
  rw [show sc 0 = 0 from rfl, show sc 1 = -1 from rfl, show sc 2 = 1 from rfl, show sc 3 = 0 from rfl, show sr 0 = -1 from rfl, show sr 1 = 0 from rfl, show sr 2 = 0 from rfl, show sr 3 = 1 from rfl, e2, e3, e4]
  congr 1
  · by_cases h : 0 < r
    · rw [if_pos (by omega), if_pos h]; congr 1; omega
    · rw [if_neg (by omega), if_neg h]
  · congr 1
    · by_cases h : 0 < p
      · rw [if_pos (by omega), if_pos h]; congr 1; omega
      · rw [if_neg (by omega), if_neg h]
    · congr 1
      · by_cases h : p + 1 < W
        · rw [if_pos (by omega), if_pos h]; congr 1; omega
        · rw [if_neg (by omega), if_neg h]
      · by_cases h : r + 1 < H
        · rw [if_pos (by omega), if_pos h]; congr 1; omega
        · rw [if_neg (by omega), if_neg h]
end Fd

theorem side0 (w : World) : (Instr.index 70 (.agg #[.int .i64 0, .int .i64 (-1), .int .i64 (-1), .int .i64 0, .int .i64 1, .int .i64 0, .int .i64 0, .int .i64 1]) (.int .i64 0)).run Tryd.prog w = .ok (.agg #[.int .i64 0, .int .i64 (-1)]) w := by kernel_rfl
theorem side1 (w : World) : (Instr.index 70 (.agg #[.int .i64 0, .int .i64 (-1), .int .i64 (-1), .int .i64 0, .int .i64 1, .int .i64 0, .int .i64 0, .int .i64 1]) (.int .i64 1)).run Tryd.prog w = .ok (.agg #[.int .i64 (-1), .int .i64 0]) w := by kernel_rfl
theorem side2 (w : World) : (Instr.index 70 (.agg #[.int .i64 0, .int .i64 (-1), .int .i64 (-1), .int .i64 0, .int .i64 1, .int .i64 0, .int .i64 0, .int .i64 1]) (.int .i64 2)).run Tryd.prog w = .ok (.agg #[.int .i64 1, .int .i64 0]) w := by kernel_rfl
theorem side3 (w : World) : (Instr.index 70 (.agg #[.int .i64 0, .int .i64 (-1), .int .i64 (-1), .int .i64 0, .int .i64 1, .int .i64 0, .int .i64 0, .int .i64 1]) (.int .i64 3)).run Tryd.prog w = .ok (.agg #[.int .i64 0, .int .i64 1]) w := by kernel_rfl
theorem side_at (k : Nat) (hk : k < 4) (w : World) : (Instr.index 70 (.agg #[.int .i64 0, .int .i64 (-1), .int .i64 (-1), .int .i64 0, .int .i64 1, .int .i64 0, .int .i64 0, .int .i64 1]) (.int .i64 (k : Nat))).run Tryd.prog w = .ok (.agg #[.int .i64 (Fd.sc k), .int .i64 (Fd.sr k)]) w := by
  have h : k = 0 ∨ k = 1 ∨ k = 2 ∨ k = 3 := by omega
  rcases h with rfl | rfl | rfl | rfl
  · exact side0 w
  · exact side1 w
  · exact side2 w
  · exact side3 w

set_option maxHeartbeats 2000000 in
theorem near_own (v : Value) (W H : Nat) (gs os : List Int) (a : Nat) (w : World) (h : Fl w v W H gs os) (G : Fd.Good W H gs os) (ha : a < W * H) (hs : Sd w) :
    Calls Tryd.prog 26 #[v, .int .i64 (a : Nat)] w fun e w' => ∃ u, e = .returned u ∧ Ow w' w.heap.size u (Fd.near W H a) ∧ Below w.heap.size w w' := by
  have F0 : Hid (Fl w v W H gs os) := h
  have S0 : Hid (Sd w) := hs
  obtain ⟨u1, u2, rfl, ⟨a1, c, rfl, c1, c2, ca⟩, ⟨b1, d, rfl, d1, d2, cb⟩⟩ := h
  have gp := G.pos.2
  have W1 : 0 < W := G.w1
  have W2 : W ≤ 12 := G.w2
  have H1 : 0 < H := G.h1
  have H2 : H ≤ 12 := G.h2
  have A1 : a ≤ 144 := by omega
  have r1 : a / W < H := Nat.div_lt_of_lt_mul ha
  have p1 := Nat.mod_lt a W1
  have Ea : Hid (W * (a / W) + a % W = a) := Nat.div_add_mod a W
  have En : Hid (Fd.near W H a = (if 0 < a / W then [(a : Int) - W] else []) ++ ((if 0 < a % W then [(a : Int) - 1] else []) ++ ((if a % W + 1 < W then [(a : Int) + 1] else []) ++ (if a / W + 1 < H then [(a : Int) + W] else [])))) := rfl
  obtain ⟨p, hp⟩ : ∃ c, a % W = c := ⟨_, rfl⟩
  obtain ⟨r, hr⟩ : ∃ c, a / W = c := ⟨_, rfl⟩
  rw [hp, hr] at En Ea
  rw [hp] at p1
  rw [hr] at r1
  have Pa : Hid (a % W = p ∧ a / W = r) := ⟨hp, hr⟩
  clear hp hr hs ca cb G ha gp
  go_enter Tryd.func26, Tryd.ntmps26
  go_wp2_with fail
  refine (place_any W a p r _ W1 W2 A1 Pa.out.1 Pa.out.2).mono ?_
  rintro e w3 ⟨rfl, q3, hq3⟩
  have B3 : Hid (Below w.heap.size w w3) := by rw [hq3]; exact below_drewN ((Below.refl _ _).alloc (Nat.le_refl _) _) _
  have X3 : Hid (Bf w3 w.heap.size W H (Value.slice a1 gs.length c) (Value.slice b1 os.length d)) := by
    rw [hq3]
    have h0 := Bf.mk' (w := w) W H (Value.slice a1 gs.length c) (Value.slice b1 os.length d) rfl
    exact h0.below (below_drewN (Below.refl _ _) _) h0.lt
  have S3 : Hid (Sd w3) := S0.out.below B3.out
  clear hq3
  obtain ⟨x0, x1, x2, x3⟩ := X3.out
  obtain ⟨s0, s1, s2, s3, s4, s5, s6, s7⟩ := S3.out
  go_wp2_with fail
  have Z3 : Hid (w.heap.size < w3.heap.size) := X3.out.lt
  clear s0 s1 s2 s3 s4 s5 s6 s7 S3 S0 x0 x1 x2 x3
  go_loopw [5, 20] (fun v i W' => ∃ k : Nat, k ≤ 4 ∧ i = .int .i64 (k : Nat) ∧ Ow W' (w.heap.size + 1) v (Fd.nb W H p r k) ∧ Bf W' w.heap.size W H (Value.slice a1 gs.length c) (Value.slice b1 os.length d) ∧ Below w.heap.size w W') (fun _ i _ => 4 - (intOf i).toNat)
  case atStart => exact ⟨0, Nat.zero_le _, rfl, Ow.nil _ _, X3, B3⟩
  case round =>
    obtain ⟨k, hk, rfl, ho, hx, hb⟩ := hrel
    clear X3 B3 Z3
    have O : Hid (Ow wr (w.heap.size + 1) u5 (Fd.nb W H p r k)) := ho
    have X : Hid (Bf wr w.heap.size W H (Value.slice a1 gs.length c) (Value.slice b1 os.length d)) := hx
    have B : Hid (Below w.heap.size w wr) := hb
    clear ho hx hb
    by_cases h0 : k = 4
    · subst h0
      have En' : Hid (Fd.near W H a = Fd.nb W H p r 4) := by unfold Hid; rw [En.out, Fd.nb_near p1 r1 Ea.out]
      go_wp2
      go_ret
      exact ⟨_, rfl, by rw [En'.out]; exact O.out.mono (Nat.le_succ _), B⟩
    · have hk4 : k < 4 := by omega
      have hi := side_at k hk4
      have l1 : -1 ≤ Fd.sc k ∧ Fd.sc k ≤ 1 := by unfold Fd.sc; split <;> (try split) <;> omega
      have l2 : -1 ≤ Fd.sr k ∧ Fd.sr k ≤ 1 := by unfold Fd.sr; split <;> (try split) <;> omega
      have Ek : Hid (Fd.nb W H p r (k + 1) = Fd.nb W H p r k ++ (if (0 ≤ (p : Int) + Fd.sc k ∧ (p : Int) + Fd.sc k ≤ (W : Int) - 1) ∧ (0 ≤ (r : Int) + Fd.sr k ∧ (r : Int) + Fd.sr k ≤ (H : Int) - 1) then [((r : Int) + Fd.sr k) * W + (p + Fd.sc k)] else [])) := rfl
      have Ll : Hid ((Fd.nb W H p r k).length ≤ k) := Fd.nb_len W H p r k
      generalize Fd.sc k = sc at *
      generalize Fd.sr k = sr at *
      generalize Fd.nb W H p r k = xs at *
      obtain ⟨l11, l12⟩ := l1
      obtain ⟨l21, l22⟩ := l2
      go_wp2
      go_quiet (fail)
      clear hi
      have k5 : Below wr.heap.size wr ((wr.alloc (Obj.cells #[.int .i64 sc, .int .i64 sr] 69)).drewN nq) := below_drewN ((Below.refl _ _).alloc (Nat.le_refl _) _) _
      generalize (wr.alloc (Obj.cells #[.int .i64 sc, .int .i64 sr] 69)).drewN nq = w5 at *
      have O5 : Hid (Ow w5 (w.heap.size + 1) u5 xs) := O.out.below k5
      have X5 : Hid (Bf w5 w.heap.size W H (Value.slice a1 gs.length c) (Value.slice b1 os.length d)) := X.out.below k5 X.out.lt
      have B5 : Hid (Below w.heap.size w w5) := B.out.trans (k5.mono B.out.size)
      clear k5 O X B
      obtain ⟨x0, x1, x2, x3⟩ := X5.out
      by_cases hc : 0 ≤ (p : Int) + sc ∧ (p : Int) + sc ≤ (W : Int) - 1
      · by_cases hd : 0 ≤ (r : Int) + sr ∧ (r : Int) + sr ≤ (H : Int) - 1
        · have Ek' : Hid (Fd.nb W H p r (k + 1) = xs ++ [((r : Int) + sr) * W + (p + sc)]) := by
            have := Ek.out
            rw [if_pos ⟨hc, hd⟩] at this
            exact this
          clear Ek
          obtain ⟨C, hC⟩ : ∃ C : Int, (p : Int) + sc = C := ⟨_, rfl⟩
          obtain ⟨R, hR⟩ : ∃ R : Int, (r : Int) + sr = R := ⟨_, rfl⟩
          rw [hC] at hc Ek' ⊢
          rw [hR] at hd Ek' ⊢
          obtain ⟨hc1, hc2⟩ := hc
          obtain ⟨hd1, hd2⟩ := hd
          have R2 : R ≤ 11 := by omega
          have C2 : C ≤ 11 := by omega
          clear hC hR l11 l12 l21 l22
          have m1 : 0 ≤ R * (W : Int) := Int.mul_nonneg hd1 (by omega)
          have m2 : R * (W : Int) ≤ 11 * 12 := Int.mul_le_mul R2 (by omega) (by omega) (by omega)
          go_wp2_with fail
          refine (fin_yes _ _ _ _ hc1 hc2).mono ?_
          rintro e w' ⟨rfl, rfl⟩
          go_wp2_with fail
          refine (fin_yes _ _ _ _ hd1 hd2).mono ?_
          rintro e w' ⟨rfl, rfl⟩
          go_wp2_with (at_builtin; refine app_int _ rfl _ _ rfl (w.heap.size + 1) _ xs rfl (O5.out.alloc _) ⟨w'.heap.size, 0, none⟩ (R * W + C) rfl (by simp) (by have := Ll.out; omega) (by have := X5.out.lt; simp; omega) ?_)
          intro g cap w6 o6 g6 a6 l6
          have O6 : Hid (Ow w6 (w.heap.size + 1) (.slice (some ⟨g, 0, none⟩) (xs.length + 1) cap) (xs ++ [R * W + C])) := o6
          have hob : ∀ k, u5.ownBlock = some k → w.heap.size + 1 ≤ k := fun k hk => (O5.out.block k hk).1
          have b6 : Below (w.heap.size + 1) w' w6 := ((Below.refl _ _).alloc (by have := X5.out.lt; omega) _).grown g6 (by have := X5.out.lt; simp; omega) hob
          have X6 : Hid (Bf w6 w.heap.size W H (Value.slice a1 gs.length c) (Value.slice b1 os.length d)) := X5.out.below b6 (Nat.lt_succ_self _)
          have B6 : Hid (Below w.heap.size w w6) := B5.out.trans (b6.mono (Nat.le_succ _))
          clear o6 g6 a6 l6 hob b6 x0 x1 x2 x3 m1 m2
          go_wp2
          go_round
          case rel => exact ⟨k + 1, by omega, by go_num, by rw [Ek'.out]; exact O6, X6, B6⟩
          case measure => simp [intOf]; omega
        · have Ek' : Hid (Fd.nb W H p r (k + 1) = xs) := by
            have := Ek.out
            rw [if_neg (fun h => hd h.2), List.append_nil] at this
            exact this
          clear Ek
          obtain ⟨hc1, hc2⟩ := hc
          have hd' : (r : Int) + sr < 0 ∨ (H : Int) - 1 < (r : Int) + sr := by omega
          clear hd
          go_wp2_with fail
          refine (fin_yes _ _ _ _ hc1 hc2).mono ?_
          rintro e w' ⟨rfl, rfl⟩
          go_wp2_with fail
          refine (fin_no _ _ _ _ hd').mono ?_
          rintro e w' ⟨rfl, rfl⟩
          go_wp2
          go_round
          case rel => exact ⟨k + 1, by omega, by go_num, by rw [Ek'.out]; exact O5, X5, B5⟩
          case measure => simp [intOf]; omega
      · have Ek' : Hid (Fd.nb W H p r (k + 1) = xs) := by
          have := Ek.out
          rw [if_neg (fun h => hc h.1), List.append_nil] at this
          exact this
        clear Ek
        have hc' : (p : Int) + sc < 0 ∨ (W : Int) - 1 < (p : Int) + sc := by omega
        clear hc
        go_wp2_with fail
        refine (fin_no _ _ _ _ hc').mono ?_
        rintro e w' ⟨rfl, rfl⟩
        go_wp2
        go_round
        case rel => exact ⟨k + 1, by omega, by go_num, by rw [Ek'.out]; exact O5, X5, B5⟩
        case measure => simp [intOf]; omega

set_option maxHeartbeats 1000000 in
theorem Near_ok (v : Value) (W H : Nat) (gs os : List Int) (a : Nat) (w : World) (h : Fl w v W H gs os) (G : Fd.Good W H gs os) (ha : a < W * H) (hs : Sd w) :
    Calls Tryd.prog 15 #[v, .int .i64 (a : Nat)] w fun e w' => ∃ u, e = .returned (.tuple #[u, .nilIface]) ∧ Ro w' u (Fd.near W H a) ∧ Below w.heap.size w w' := by
  have F0 : Hid (Fl w v W H gs os) := h
  have S0 : Hid (Sd w) := hs
  have G0 : Hid (Fd.Good W H gs os) := G
  have HF : Hid (Fd.askFault (Fd.fault W H gs os) gs.length [(a : Int)] = 0) := ask1_good G ha
  obtain ⟨u1, u2, rfl, ⟨a1, c, rfl, c1, c2, ca⟩, ⟨b1, d, rfl, d1, d2, cb⟩⟩ := h
  have Ha : Hid (a < W * H) := ha
  clear hs ca cb G ha
  go_enter Tryd.func15, Tryd.ntmps15
  go_wp2_with fail
  refine (ask_any _ _ W H gs os [(a : Int)] _ (F0.out.below (((Below.refl _ _).alloc (Nat.le_refl _) _).alloc (by simp) _)) (Ro.lit1 (w := w.alloc _) a (by simp))).mono ?_
  rintro e w1 ⟨v1, rfl, hv, hb⟩
  have B1 : Hid (Below w.heap.size w w1) := (((Below.refl _ _).alloc (Nat.le_refl _) _).alloc (by simp) _).trans (hb.mono (by simp; omega))
  have X1 : Hid (Bf w1 w.heap.size W H (Value.slice a1 gs.length c) (Value.slice b1 os.length d)) := ((Bf.mk' (w := w) W H (Value.slice a1 gs.length c) (Value.slice b1 os.length d) rfl).below ((Below.refl _ _).alloc (Nat.le_refl _) (Obj.cells #[Value.int IntKind.i64 a] 3)) (by simp)).below hb (by simp; omega)
  rw [HF.out] at hv
  clear hb
  rcases hv with ⟨hz, rfl⟩ | ⟨hz, rfl⟩
  · clear hz
    obtain ⟨x0, x1, x2, x3⟩ := X1.out
    go_wp2_with fail
    refine (near_own _ W H gs os a _ (F0.out.below B1.out) G0.out Ha.out (S0.out.below B1.out)).mono ?_
    rintro e w2 ⟨u, rfl, hu, hb2⟩
    have U2 : Hid (Ro w2 u (Fd.near W H a)) := hu.ro
    have B2 : Hid (Below w.heap.size w w2) := B1.out.trans (hb2.mono B1.out.size)
    clear hu hb2 x0 x1 x2 x3
    go_wp2
    go_ret2
    exact ⟨_, rfl, U2.out, B2⟩
  · exact absurd rfl hz
end Go.Proofs.YtogdaegnpoknlaaDoor
