/- world.Decode: lists of jobs. -/
import Derived.Test.YtefepjiajgoomaaDoorDcD
import Derived.Test.YtefepjiajgoomaaDoorJbO
namespace Go.Proofs.YtefepjiajgoomaaDoor
open Go.RowKit
set_option linter.unusedVariables false

/-- what a list of jobs is read as. -/
def RjSays (w0 : World) (zb za zf zn : Nat) (v : Value) (l : List UInt8) (w : World) (a : Nat) (f : Bool) (e : Ending) (w' : World) : Prop :=
  ∃ (xs : List JbV) (a' : Nat) (f' : Bool) (u : Value), e = .returned u ∧ Jbo w' w.heap.size u xs ∧ xs.length ≤ 200 ∧ Wd.Rd (Wd.plist l (Wd.pjob l)) a f xs a' f' ∧ Ds w0 zb za zf zn v l w' a' f' ∧ K2 za zf w w'
set_option maxRecDepth 100000 in
set_option maxHeartbeats 4000000 in
theorem rjobs_any (w0 : World) (zb za zf zn zx : Nat) (v : Value) (l : List UInt8) (w : World) (a : Nat) (f : Bool) (h : Ds w0 zb za zf zn v l w a f) (hx : zf < zx) (cx : w.cell? ⟨zx, 0, none⟩ = some (nextF zb za zf)) :
    Calls Tryd.prog 108 #[manyF zn zf, .func (.func 105) #[] #[.pointer (some ⟨zx, 0, none⟩)]] w (RjSays w0 zb za zf zn v l w a f) := by
  have D : Hid (Ds w0 zb za zf zn v l w a f) := h
  have CX : Hid (zf < zx ∧ zx < w.heap.size ∧ w.cell? ⟨zx, 0, none⟩ = some (nextF zb za zf)) := ⟨hx, cell_lt cx, cx⟩
  clear h cx hx
  unfold manyF
  go_enter Tryd.func108, Tryd.ntmps108
  go_wp2_with fail
  refine (dmany_any w0 zb za zf zn v l w a f D.out).mono ?_
  rintro e w1 ⟨n, a1, f1, rfl, hn, hrd, hd, hk⟩
  have R : Hid (Wd.Rd (Wd.pmany l) a f n a1 f1) := hrd
  have D1 : Hid (Ds w0 zb za zf zn v l w1 a1 f1) := D.out.to hd hk
  have K1 : Hid (K2 za zf w w1) := hk
  clear hrd hd hk
  go_wp2
  go_loopw [5, 8] (fun lv iv W => ∃ (xs : List JbV) (k a' : Nat) (f' : Bool), iv = .int .i64 (k : Nat) ∧ k ≤ n ∧ xs.length = k ∧ Jbo W w.heap.size lv xs ∧ Wd.Rd (Wd.prep (Wd.pjob l) k) a1 f1 xs a' f' ∧ Ds w0 zb za zf zn v l W a' f' ∧ K2 za zf w W) (fun _ iv _ => n - (intOf iv).toNat)
  case atStart => exact ⟨[], 0, a1, f1, rfl, Nat.zero_le _, rfl, Jbo.nil _ _, Wd.Rd.nil _ _ _, D1.out, K1.out⟩
  case round =>
    obtain ⟨xs, k, a', f', rfl, hkn, hxl, hown, hrd, hds, hk2⟩ := hrel
    have O : Hid (Jbo wr w.heap.size u5 xs) := hown
    have R2 : Hid (Wd.Rd (Wd.prep (Wd.pjob l) k) a1 f1 xs a' f') := hrd
    have D2 : Hid (Ds w0 zb za zf zn v l wr a' f') := hds
    have K2' : Hid (K2 za zf w wr) := hk2
    have HX : Hid (xs.length = k) := hxl
    have zw : Hid (zn < w.heap.size ∧ zf < zn ∧ za < zf) := ⟨D.out.lt, D.out.fn, D.out.d.af⟩
    clear hown hrd hds hk2 hxl
    by_cases he : k = n
    · subst he
      go_wp2
      go_ret
      exact ⟨xs, a', f', _, rfl, O.out, by rw [HX.out]; exact hn, R.out.list R2.out, D2.out, K2'.out⟩
    · have hlt : (k : Int) < (n : Int) := by omega
      have CR : Hid (wr.cell? ⟨zx, 0, none⟩ = some (nextF zb za zf)) := by
        unfold Hid
        have := CX.out
        have := zw.out
        rw [K2'.out.cell ⟨zx, 0, none⟩ (by show zx < _; omega) (by show zx ≠ _; omega) (by show zx ≠ _; omega)]
        exact CX.out.2.2
      go_wp2_with fail
      refine (djob_any w0 zb za zf zx v l wr a' f' D2.out.d CX.out.1 CR.out).mono ?_
      rintro e w2 ⟨x, a2, f2, rfl, hrd, hd, hk⟩
      unfold JbV.val
      have R3 : Hid (Wd.Rd (Wd.pjob l) a' f' x a2 f2) := hrd
      have D3 : Hid (Ds w0 zb za zf zn v l w2 a2 f2) := D2.out.to hd hk
      have K3 : Hid (K2 za zf wr w2) := hk
      clear hrd hd hk CR
      have O3 : Hid (Jbo w2 w.heap.size u5 xs) := owns_k2 O.out K3.out (by have := zw.out; omega) (by have := zw.out; omega)
      have S3 : Hid (w.heap.size ≤ w2.heap.size) := Nat.le_trans K2'.out.size K3.out.size
      go_wp2_with (at_builtin; refine app_jb _ rfl _ _ rfl w.heap.size _ xs rfl (O3.out.alloc _) w2.heap.size x rfl (Jbc.mk' x rfl) (by rw [HX.out]; omega) (by have := S3.out; simp; omega) ?_)
      intro g cap w5 o5 g5 a5 l5
      have hob : ∀ b, u5.ownBlock = some b → w.heap.size ≤ b := fun b hb => (O3.out.block b hb).1
      have O5 : Hid (Jbo w5 w.heap.size (.slice (some ⟨g, 0, none⟩) (xs.length + 1) cap) (xs ++ [x])) := o5
      have D5 : Hid (Ds w0 zb za zf zn v l w5 a2 f2) := D3.out.kept (((Below.refl _ _).alloc (by have := zw.out; have := S3.out; omega) _).grown g5 (by have := zw.out; have := S3.out; simp; omega) (fun b hb => by have := hob b hb; have := zw.out; omega))
      have K5 : Hid (K2 za zf w w5) := ((K2'.out.trans K3.out).trans (K2.of ((Below.refl _ _).alloc (Nat.le_refl _) _))).grown g5 hob
      have R5 : Hid (Wd.Rd (Wd.prep (Wd.pjob l) (k + 1)) a1 f1 (xs ++ [x]) a2 f2) := R2.out.snoc R3.out
      clear o5 g5 a5 l5 hob
      go_wp2
      go_roundw
      case rel => exact ⟨xs ++ [x], k + 1, a2, f2, rfl, by omega, by rw [List.length_append, HX.out]; rfl, O5.out, R5.out, D5.out, K5.out⟩
      case measure => simp [intOf]; omega
end Go.Proofs.YtefepjiajgoomaaDoor
