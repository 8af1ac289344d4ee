/- The reference: how many, and lists of numbers. -/
import Derived.Test.YtefepjiajgoomaaDoorRwA
import Derived.Test.YtefepjiajgoomaaDoorFdOwn
import Derived.Test.YtefepjiajgoomaaDoorDcC
namespace Go.Proofs.YtefepjiajgoomaaDoor
open Go.RowKit
set_option linter.unusedVariables false

theorem Wd.Rd.wrong {α : Type} {p : Wd.Pr α} {a : Nat} {f : Bool} {v u : α} {a' a'' : Nat} (h : Wd.Rd p a f v a' true) : Wd.Rd p a f u a'' true := by
  refine ⟨fun _ => rfl, fun hf => ?_⟩
  rcases h.2 hf with ⟨-, e⟩ | ⟨e, -⟩
  · cases e
  · exact .inr ⟨e, rfl⟩
def RmSays (w0 : World) (z : Nat) (v : Value) (l : List UInt8) (w : World) (a : Nat) (f : Bool) (e : Ending) (w' : World) : Prop :=
  ∃ (n a' : Nat) (f' : Bool), e = .returned (.int .i64 (n : Nat)) ∧ n ≤ 200 ∧ Wd.Rd (Wd.pmany l) a f n a' f' ∧ Dr w0 z v l w' a' f' ∧ Kp z w w'
set_option maxHeartbeats 2000000 in
theorem rmany_any (w0 : World) (z : Nat) (v : Value) (l : List UInt8) (w : World) (a : Nat) (f : Bool) (h : Dr w0 z v l w a f) :
    Calls Tryd.prog 71 #[.pointer (some ⟨z, 0, none⟩), .int .i64 200] w (RmSays w0 z v l w a f) := by
  have D : Hid (Dr w0 z v l w a f) := h
  clear h
  go_enter Tryd.func71, Tryd.ntmps71
  go_wp2_with fail
  refine (rnum_any w0 z v l w a f D.out).mono ?_
  rintro e w1 ⟨n, a1, f1, rfl, hrd, hd, hk⟩
  have R : Hid (Wd.Rd (Wd.pnum l) a f n a1 f1) := hrd
  have D1 : Hid (Dr w0 z v l w1 a1 f1) := hd
  have K1 : Hid (Kp z w w1) := hk
  obtain ⟨c0, c1, c2⟩ := hd.cells
  have t2 := hd.thaw 2
  clear hrd hd hk
  by_cases hn : 0 ≤ n ∧ n ≤ 200
  · obtain ⟨m, rfl⟩ : ∃ m : Nat, n = m := ⟨n.toNat, by omega⟩
    have h1 : ¬ (m : Int) < 0 := by omega
    have h2 : ¬ (200 : Int) < (m : Int) := by omega
    have FIN : Hid (RmSays w0 z v l w a f (.returned (.int .i64 (m : Nat))) w1) := by
      refine ⟨m, a1, f1, rfl, by omega, ?_, D1.out, K1.out⟩
      cases f1 with
      | true => exact (many_bad R.out (.inl rfl)).wrong
      | false => exact many_ok R.out (by omega)
    clear hn
    go_wp2
    go_ret
    exact FIN.out
  · have FIN : Hid (RmSays w0 z v l w a f (.returned (.int .i64 0)) (w1.setCell ⟨z, 2, none⟩ (.bool true))) := ⟨0, a1, true, rfl, by omega, many_bad R.out (.inr hn), D1.out.bad true, K1.out.trans (Kp.set _ 2 _)⟩
    by_cases h1 : n < 0
    · clear hn
      go_wp2
      go_ret
      exact FIN.out
    · have h2 : (200 : Int) < n := by omega
      clear hn
      go_wp2
      go_ret
      exact FIN.out
def RsSays (w0 : World) (z : Nat) (v : Value) (l : List UInt8) (w : World) (a : Nat) (f : Bool) (e : Ending) (w' : World) : Prop :=
  ∃ (xs : List Int) (a' : Nat) (f' : Bool) (u : Value), e = .returned u ∧ Ow w' w.heap.size u xs ∧ xs.length ≤ 200 ∧ Wd.Rd (Wd.plist l (Wd.pnum l)) a f xs a' f' ∧ Dr w0 z v l w' a' f' ∧ Kp z w w'
theorem owns_kp {z : Nat} {w w' : World} {base : Nat} {T : TypeId} {size : Nat} {u : Value} {n : Nat} {cs : List Value} (h : w.ownsRow base T size u n cs) (k : Kp z w w') (hz : z < base) : w'.ownsRow base T size u n cs := by
  refine ⟨h.1, ?_⟩
  rcases h.2 with h1 | ⟨g, cap, cur, h1, h2, h3, h4⟩
  · exact .inl h1
  · exact .inr ⟨g, cap, cur, h1, h2, (k.block g (lt_of_block h3) (by omega)).trans h3, h4⟩
theorem Kp.grown {z : Nat} {w w' w'' : World} (k : Kp z w w') {row : Option Nat} (h : w'.grownBy w'' row) (hr : ∀ b, row = some b → w.heap.size ≤ b) : Kp z w w'' :=
  ⟨h.os.trans k.os, h.tape.trans k.tape, h.output.trans k.output, Nat.le_trans k.size h.size, fun i hi hz => (h.block i (Nat.lt_of_lt_of_le hi k.size) (fun e => by have := hr i e.symm; omega)).trans (k.block i hi hz)⟩
set_option maxRecDepth 100000 in
set_option maxHeartbeats 4000000 in
theorem rlst_any (w0 : World) (z : Nat) (v : Value) (l : List UInt8) (w : World) (a : Nat) (f : Bool) (h : Dr w0 z v l w a f) :
    Calls Tryd.prog 70 #[.pointer (some ⟨z, 0, none⟩)] w (RsSays w0 z v l w a f) := by
  have D : Hid (Dr w0 z v l w a f) := h
  have ZW : Hid (z < w.heap.size) := h.lt
  clear h
  go_enter Tryd.func70, Tryd.ntmps70
  go_wp2_with fail
  refine (rmany_any w0 z v l w a f D.out).mono ?_
  rintro e w1 ⟨n, a1, f1, rfl, hn, hrd, hd, hk⟩
  have R : Hid (Wd.Rd (Wd.pmany l) a f n a1 f1) := hrd
  have D1 : Hid (Dr w0 z v l w1 a1 f1) := hd
  have K1 : Hid (Kp z w w1) := hk
  clear hrd hd hk
  go_wp2
  go_loopw [4, 5] (fun lv iv W => ∃ (xs : List Int) (k a' : Nat) (f' : Bool), iv = .int .i64 (k : Nat) ∧ k ≤ n ∧ xs.length = k ∧ Ow W w.heap.size lv xs ∧ Wd.Rd (Wd.prep (Wd.pnum l) k) a1 f1 xs a' f' ∧ Dr w0 z v l W a' f' ∧ Kp z w W) (fun _ iv _ => n - (intOf iv).toNat)
  case atStart => exact ⟨[], 0, a1, f1, rfl, Nat.zero_le _, rfl, Ow.nil _ _, Wd.Rd.nil _ _ _, D1.out, K1.out⟩
  case round =>
    obtain ⟨xs, k, a', f', rfl, hkn, hxl, hown, hrd, hds, hk2⟩ := hrel
    have O : Hid (Ow wr w.heap.size u4 xs) := hown
    have R2 : Hid (Wd.Rd (Wd.prep (Wd.pnum l) k) a1 f1 xs a' f') := hrd
    have D2 : Hid (Dr w0 z v l wr a' f') := hds
    have K2' : Hid (Kp z w wr) := hk2
    have HX : Hid (xs.length = k) := hxl
    obtain ⟨c0, c1, c2⟩ := hds.cells
    clear hown hrd hds hk2 hxl
    by_cases he : k = n
    · subst he
      go_wp2
      go_ret
      exact ⟨xs, a', f', _, rfl, O.out, by rw [HX.out]; exact hn, R.out.list R2.out, D2.out, K2'.out⟩
    · have hlt : (k : Int) < (n : Int) := by omega
      cases f' with
      | true =>
        have FIN : Hid (Wd.Rd (Wd.plist l (Wd.pnum l)) a f xs a' true) := R.out.list (R2.out.early hkn _ _)
        have XL : Hid (xs.length ≤ 200) := by rw [HX.out]; unfold Hid; omega
        go_wp2
        go_ret
        exact ⟨xs, a', true, _, rfl, O.out, XL.out, FIN.out, D2.out, K2'.out⟩
      | false =>
        go_wp2_with fail
        refine (rnum_any w0 z v l wr a' false D2.out).mono ?_
        rintro e w2 ⟨x, a2, f2, rfl, hrd, hd, hk⟩
        have R3 : Hid (Wd.Rd (Wd.pnum l) a' false x a2 f2) := hrd
        have D3 : Hid (Dr w0 z v l w2 a2 f2) := hd
        have K3 : Hid (Kp z wr w2) := hk
        clear hrd hd hk c0 c1 c2
        have O3 : Hid (Ow w2 w.heap.size u4 xs) := owns_kp O.out K3.out ZW.out
        have S3 : Hid (w.heap.size ≤ w2.heap.size) := Nat.le_trans K2'.out.size K3.out.size
        go_wp2_with (at_builtin; refine app_int _ rfl _ _ rfl w.heap.size _ xs rfl (O3.out.alloc _) ⟨w2.heap.size, 0, none⟩ x rfl (by simp) (by rw [HX.out]; omega) (by have := S3.out; simp; omega) ?_)
        intro g cap w5 o5 g5 a5 l5
        have hob : ∀ b, u4.ownBlock = some b → w.heap.size ≤ b := fun b hb => (O3.out.block b hb).1
        have O5 : Hid (Ow w5 w.heap.size (.slice (some ⟨g, 0, none⟩) (xs.length + 1) cap) (xs ++ [x])) := o5
        have D5 : Hid (Dr w0 z v l w5 a2 f2) := D3.out.kept (((Below.refl _ _).alloc (by have := ZW.out; have := S3.out; omega) _).grown g5 (by have := ZW.out; have := S3.out; simp; omega) (fun b hb => by have := hob b hb; have := ZW.out; omega))
        have K5 : Hid (Kp z w w5) := ((K2'.out.trans K3.out).trans (Kp.of ((Below.refl _ _).alloc (Nat.le_refl _) _))).grown g5 hob
        have R5 : Hid (Wd.Rd (Wd.prep (Wd.pnum l) (k + 1)) a1 f1 (xs ++ [x]) a2 f2) := R2.out.snoc R3.out
        clear o5 g5 a5 l5 hob
        go_wp2
        go_roundw
        case rel => exact ⟨xs ++ [x], k + 1, a2, f2, rfl, by omega, by rw [List.length_append, HX.out]; rfl, O5.out, R5.out, D5.out, K5.out⟩
        case measure => simp [intOf]; omega
end Go.Proofs.YtefepjiajgoomaaDoor
