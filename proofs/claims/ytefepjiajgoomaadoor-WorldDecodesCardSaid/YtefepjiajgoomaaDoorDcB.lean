/- world.Decode: what many reads. -/
import Derived.Test.YtefepjiajgoomaaDoorDcA
namespace Go.Proofs.YtefepjiajgoomaaDoor
open Go.RowKit
set_option linter.unusedVariables false

theorem wwithin_any (x lo hi : Int) (w : World) : Calls Tryd.prog 53 #[.int .i64 x, .int .i64 lo, .int .i64 hi] w fun e w' => e = .returned (.bool (decide (lo ≤ x ∧ x ≤ hi))) ∧ w' = w := by
  by_cases h1 : lo ≤ x
  · by_cases h2 : x ≤ hi
    · go_enter Tryd.func53, Tryd.ntmps53
      go_wp2
      go_ret
      refine ⟨?_, rfl⟩
      rw [decide_eq_true ⟨h1, h2⟩]
      rfl
    · go_enter Tryd.func53, Tryd.ntmps53
      go_wp2
      go_ret
      refine ⟨?_, rfl⟩
      rw [decide_eq_false (by omega)]
      rfl
  · go_enter Tryd.func53, Tryd.ntmps53
    go_wp2
    go_ret
    refine ⟨?_, rfl⟩
    rw [decide_eq_false (by omega)]
    rfl
/-- the function that reads how many there are. -/
def manyF (zn zf : Nat) : Value := .func (.func 74) #[] #[.pointer (some ⟨zn, 0, none⟩), .pointer (some ⟨zf, 0, none⟩)]
structure Ds (w0 : World) (zb za zf zn : Nat) (v : Value) (l : List UInt8) (w : World) (a : Nat) (f : Bool) : Prop where
  d : Dc w0 zb za zf v l w a f
  fn : zf < zn
  cn : w.cell? ⟨zn, 0, none⟩ = some (nextF zb za zf)
theorem Ds.lt {w0 w : World} {zb za zf zn a : Nat} {v : Value} {l : List UInt8} {f : Bool} (h : Ds w0 zb za zf zn v l w a f) : zn < w.heap.size := cell_lt h.cn
theorem Ds.kept {w0 w w' : World} {zb za zf zn a : Nat} {v : Value} {l : List UInt8} {f : Bool} (h : Ds w0 zb za zf zn v l w a f) (hb : Below (zn + 1) w w') : Ds w0 zb za zf zn v l w' a f := by
  have := h.fn
  exact ⟨h.d.kept (hb.mono (by omega)), h.fn, by rw [hb.cell (p := ⟨zn, 0, none⟩) (by show zn < _; omega)]; exact h.cn⟩
theorem Ds.to {w0 w w' : World} {zb za zf zn a a' : Nat} {v : Value} {l : List UInt8} {f f' : Bool} (h : Ds w0 zb za zf zn v l w a f) (d : Dc w0 zb za zf v l w' a' f') (k : K2 za zf w w') : Ds w0 zb za zf zn v l w' a' f' := by
  have h1 := h.fn
  have h2 := h.d.af
  exact ⟨d, h.fn, by rw [k.cell ⟨zn, 0, none⟩ h.lt (by show zn ≠ _; omega) (by show zn ≠ _; omega)]; exact h.cn⟩
theorem Dc.flag {w0 w : World} {zb za zf a : Nat} {v : Value} {l : List UInt8} {f f' : Bool} (h : Dc w0 zb za zf v l w a f) : Dc w0 zb za zf v l (w.setCell ⟨zf, 0, none⟩ (.bool f')) a f' ∧ K2 za zf w (w.setCell ⟨zf, 0, none⟩ (.bool f')) := by
  have h1 := h.ba
  have h2 := h.af
  have hs : K2 za zf w (w.setCell ⟨zf, 0, none⟩ (.bool f')) := K2.setZ w 0 _
  have lf := h.ltf
  refine ⟨⟨h.src, h.low, h.ba, h.af, hs.below h.bl (by omega) (by omega) (by omega), ?_, ?_, ?_, h.le⟩, hs⟩
  · rw [hs.cell ⟨zb, 0, none⟩ (by show zb < _; omega) (by show zb ≠ _; omega) (by show zb ≠ _; omega)]; exact h.cb
  · exact (Below.heap_setCell w ⟨zf, 0, none⟩ _ _ (by show za ≠ zf; omega)).trans h.ca
  · exact heap_setCell_same _ zf 0 _ _ (.bool f') h.cf
/-- what it says. -/
def ManySays (w0 : World) (zb za zf : Nat) (v : Value) (l : List UInt8) (w : World) (a : Nat) (f : Bool) (e : Ending) (w' : World) : Prop :=
  ∃ (n a' : Nat) (f' : Bool), e = .returned (.int .i64 (n : Nat)) ∧ n ≤ 200 ∧ Wd.Rd (Wd.pmany l) a f n a' f' ∧ Dc w0 zb za zf v l w' a' f' ∧ K2 za zf w w'
theorem many_bad {l : List UInt8} {a : Nat} {f : Bool} {n : Int} {a' : Nat} {f' : Bool} (h : Wd.Rd (Wd.pnum l) a f n a' f') (hb : f' = true ∨ ¬ (0 ≤ n ∧ n ≤ 200)) : Wd.Rd (Wd.pmany l) a f 0 a' true := by
  refine ⟨fun _ => rfl, fun hf => .inr ⟨?_, rfl⟩⟩
  unfold Wd.pmany
  rcases h.2 hf with ⟨e, e2⟩ | ⟨e, e2⟩
  · rw [e]
    rcases hb with hb | hb
    · rw [e2] at hb; cases hb
    · simp only [if_neg hb]
  · rw [e]
theorem many_ok {l : List UInt8} {a : Nat} {f : Bool} {n : Nat} {a' : Nat} (h : Wd.Rd (Wd.pnum l) a f (n : Int) a' false) (hb : n ≤ 200) : Wd.Rd (Wd.pmany l) a f n a' false := by
  refine ⟨h.1, fun hf => ?_⟩
  rcases h.2 hf with ⟨e, e2⟩ | ⟨e, e2⟩
  · refine .inl ⟨?_, rfl⟩
    unfold Wd.pmany
    rw [e]
    simp only
    rw [if_pos (by omega)]
    rfl
  · cases e2
set_option maxHeartbeats 2000000 in
theorem dmany_any (w0 : World) (zb za zf zn : Nat) (v : Value) (l : List UInt8) (w : World) (a : Nat) (f : Bool) (h : Ds w0 zb za zf zn v l w a f) :
    Calls Tryd.prog 74 #[.pointer (some ⟨zn, 0, none⟩), .pointer (some ⟨zf, 0, none⟩)] w (ManySays w0 zb za zf v l w a f) := by
  have D : Hid (Ds w0 zb za zf zn v l w a f) := h
  have cn := h.cn
  clear h
  unfold nextF at cn
  go_enter Tryd.func74, Tryd.ntmps74
  go_wp2_with fail
  refine (dnext_any w0 zb za zf v l w a f D.out.d).mono ?_
  rintro e w1 ⟨n, a1, f1, rfl, hrd, hd, hk⟩
  have R : Hid (Wd.Rd (Wd.pnum l) a f n a1 f1) := hrd
  have D1 : Hid (Dc w0 zb za zf v l w1 a1 f1) := hd
  have K1 : Hid (K2 za zf w w1) := hk
  obtain ⟨cf, ff⟩ := hd.lf
  clear hrd hd hk cn
  cases f1 with
  | true =>
    go_wp2
    go_ret
    exact ⟨0, a1, true, rfl, by omega, many_bad R.out (.inl rfl), D1.out.flag.1, K1.out.trans D1.out.flag.2⟩
  | false =>
    by_cases hn : 0 ≤ n ∧ n ≤ 200
    · have hb : decide (0 ≤ n ∧ n ≤ 200) = true := decide_eq_true hn
      go_wp2_with fail
      refine (wwithin_any n 0 200 w1).mono ?_
      rintro e w2 ⟨rfl, rfl⟩
      rw [hb]
      go_wp2
      go_ret
      obtain ⟨m, rfl⟩ : ∃ m : Nat, n = m := ⟨n.toNat, by omega⟩
      exact ⟨m, a1, false, rfl, by omega, many_ok R.out (by omega), D1.out.flag.1, K1.out.trans D1.out.flag.2⟩
    · have hb : decide (0 ≤ n ∧ n ≤ 200) = false := decide_eq_false hn
      go_wp2_with fail
      refine (wwithin_any n 0 200 w1).mono ?_
      rintro e w2 ⟨rfl, rfl⟩
      rw [hb]
      go_wp2
      go_ret
      exact ⟨0, a1, true, rfl, by omega, many_bad R.out (.inr hn), D1.out.flag.1, K1.out.trans D1.out.flag.2⟩
end Go.Proofs.YtefepjiajgoomaaDoor
