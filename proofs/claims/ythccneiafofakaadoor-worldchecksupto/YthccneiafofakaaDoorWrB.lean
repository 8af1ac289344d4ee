/- The reference: lists of numbers behind bytes. -/
import Derived.Test.YthccneiafofakaaDoorWrA
namespace Go.Proofs.YthccneiafofakaaDoor
open Go.RowKit
set_option linter.unusedVariables false

theorem Ro.gb {w w' : World} {v u x : Value} {xs : List Int} {B : Nat} (h : Ro w x xs) (g : Gb w v w' u) (hx : ∀ y n c, x = .slice (some y) n c → xs ≠ [] → v.ownBlock ≠ some y.block) : Ro w' x xs := by
  obtain ⟨a, c, rfl, h1, h2, h3⟩ := h
  refine ⟨a, c, rfl, h1, h2, fun hn => ?_⟩
  obtain ⟨y, rfl, hy, hc⟩ := h3 hn
  refine ⟨y, rfl, Nat.lt_of_lt_of_le hy g.g.size, fun i d hd => ?_⟩
  rw [g.g.cell_far (y.add i) (by rw [add_block]; exact hy) (by rw [add_block]; exact fun e => hx y _ _ rfl hn e.symm)]
  exact hc i d hd
set_option maxRecDepth 100000 in
set_option maxHeartbeats 4000000 in
theorem rnums_any (base : Nat) (v x : Value) (l : List UInt8) (xs : List Int) (w w0 : World) (h : Ob w base v l) (hb : base ≤ w.heap.size) (hl : l.length + 10 * (xs.length + 1) ≤ 900000000) (hi : ∀ n ∈ xs, Wd.In64 n) (hx : Ro w0 x xs) (h0 : w0.heap.size ≤ base) (hw : Below w0.heap.size w0 w) :
    Calls Tryd.prog 63 #[v, x] w fun e w' => ∃ u, e = .returned u ∧ Ob w' base u (l ++ Wd.wr ((xs.length : Int) :: xs)) ∧ Gb w v w' u := by
  have O : Hid (Ob w base v l) := h
  have LL : Hid (l.length + 10 * (xs.length + 1) ≤ 900000000 ∧ base ≤ w.heap.size ∧ w0.heap.size ≤ base) := ⟨hl, hb, h0⟩
  have HI : Hid (∀ n ∈ xs, Wd.In64 n) := hi
  have HX : Hid (Ro w0 x xs) := hx
  have BW : Hid (Below w0.heap.size w0 w) := hw
  obtain ⟨ad, cap, rfl, -, hc2, -⟩ := hx
  have hxl : xs.length ≤ 90000000 := by omega
  have IL : Hid (Wd.In64 (xs.length : Int)) := by unfold Hid Wd.In64; omega
  clear h hb hl hi h0 hw
  go_enter Tryd.func63, Tryd.ntmps63
  go_wp2_with fail
  refine (rnumb_any base v l (xs.length : Int) w O.out LL.out.2.1 (by have := LL.out.1; omega) IL.out).mono ?_
  rintro e w1 ⟨u1, rfl, ho, hg⟩
  have O1 : Hid (Ob w1 base u1 (l ++ Wd.num xs.length)) := ho
  have G1 : Hid (Gb w v w1 u1) := hg
  clear ho hg
  go_wp2
  go_loopw [0, 5] (fun bv iv W => ∃ (k : Nat), iv = .int .i64 (k : Nat) ∧ k ≤ xs.length ∧ Ob W base bv (l ++ Wd.wr ((xs.length : Int) :: xs.take k)) ∧ Gb w v W bv) (fun _ iv _ => xs.length - (intOf iv).toNat)
  case atStart => exact ⟨0, rfl, Nat.zero_le _, by have := O1.out; rw [← Wd.wr_one] at this; exact this, G1.out⟩
  case round =>
    obtain ⟨k, rfl, hk, ho, hg⟩ := hrel
    have O2 : Hid (Ob wr base u0 (l ++ Wd.wr ((xs.length : Int) :: xs.take k))) := ho
    have G2 : Hid (Gb w v wr u0) := hg
    clear ho hg
    by_cases he : k = xs.length
    · subst he
      go_wp2
      go_ret
      exact ⟨_, rfl, by have := O2.out; rwa [List.take_length] at this, G2.out⟩
    · have hlt : k < xs.length := by omega
      have hli : (k : Int) < (xs.length : Int) := by omega
      obtain ⟨n, hn⟩ : ∃ n, xs[k]? = some n := ⟨_, List.getElem?_eq_getElem hlt⟩
      have BWR : Hid (Below w0.heap.size w0 wr) := BW.out.trans (G2.out.below (by have := LL.out; omega) (fun b hb => by have := (O.out.block b hb).1; have := LL.out; omega))
      obtain ⟨ad', cap', e, -, -, hc⟩ := HX.out.below BWR.out
      injection e with e1 e2 e3
      subst e1 e3
      obtain ⟨y, rfl, hy, hcell⟩ := hc (by intro e; subst e; simp at hlt)
      have cc : wr.cell? (y.add k) = some (.int .i64 n) := hcell k n hn
      have IN : Hid (Wd.In64 n) := HI.out n (List.mem_of_getElem? hn)
      have LN : Hid ((l ++ Wd.wr ((xs.length : Int) :: xs.take k)).length ≤ 1000000000) := by
        unfold Hid
        have h1 := wr_len (xs := (xs.length : Int) :: xs.take k) (fun n hn => by
          rcases List.mem_cons.1 hn with rfl | hn
          · exact IL.out
          · exact HI.out n (List.mem_of_mem_take hn))
        rw [List.length_append]
        rw [List.length_cons, List.length_take] at h1
        have := LL.out.1
        omega
      have NX : Hid (l ++ Wd.wr ((xs.length : Int) :: xs.take k) ++ Wd.num n = l ++ Wd.wr ((xs.length : Int) :: xs.take (k + 1))) := by
        unfold Hid
        obtain ⟨hi, e⟩ := List.getElem?_eq_some_iff.1 hn
        rw [List.take_succ_eq_append_getElem hi, e, List.append_assoc, ← List.cons_append, Wd.wr_append, Wd.wr_one]
      obtain ⟨L, hL⟩ : ∃ L, l ++ Wd.wr ((xs.length : Int) :: xs.take k) = L := ⟨_, rfl⟩
      rw [hL] at O2 LN NX
      clear hc hcell hy hn hL
      go_wp2_with fail
      refine (rnumb_any base u0 L n wr O2.out (Nat.le_trans LL.out.2.1 G2.out.g.size) LN.out IN.out).mono ?_
      rintro e w2 ⟨u2, rfl, ho, hg⟩
      have O3 : Hid (Ob w2 base u2 (l ++ Wd.wr ((xs.length : Int) :: xs.take (k + 1)))) := by rw [← NX.out]; exact ho
      have G3 : Hid (Gb w v w2 u2) := G2.out.trans hg
      clear ho hg cc
      go_wp2
      go_roundw
      case rel => exact ⟨k + 1, rfl, by omega, O3.out, G3.out⟩
      case measure => simp [intOf]; omega
end Go.Proofs.YthccneiafofakaaDoor
