/- Worlds: whether one may stand on a cell. -/
import Derived.Test.YthccneiafofakaaDoorWcM
import Derived.Test.YthccneiafofakaaDoorWcA
import Derived.Test.YthccneiafofakaaDoorFdT
namespace Go.Proofs.YthccneiafofakaaDoor
open Go.RowKit
set_option linter.unusedVariables false

set_option maxHeartbeats 1000000 in
theorem fat_any (u : UnV) (at_ : Int) (b : Nat) (w : World) (hc : w.cell? ⟨b, 0, none⟩ = some (.int .i64 at_)) :
    Calls Tryd.prog 115 #[u.val, .pointer (some ⟨b, 0, none⟩)] w fun e w' => e = .returned (.bool (u.at_ == at_)) ∧ Below w.heap.size w w' := by
  have hb : b < w.heap.size := cell_lt hc
  have hne : b ≠ w.heap.size := by omega
  unfold UnV.val
  go_enter Tryd.func115, Tryd.ntmps115
  go_wp2
  go_ret
  exact ⟨rfl, (Below.refl _ _).alloc (Nat.le_refl _) _⟩
theorem onto_or (g : Int) (fl : Bool) : Fd.onto g fl = 0 ∨ 0 < Fd.onto g fl := by
  unfold Fd.onto
  cases fl <;> (repeat' split) <;> omega
set_option maxRecDepth 100000 in
set_option maxHeartbeats 2000000 in
theorem isopen_any (f us : Value) (Wd_ H : Nat) (gs os : List Int) (ahead : List UnV) (a : Nat) (g : Int) (fl : Bool) (w : World) (hf : Fl w f Wd_ H gs os) (G : Fd.Good Wd_ H gs os) (hu : Unl w us ahead) (ha : a < Wd_ * H) (hg : gs[a]? = some g) :
    Calls Tryd.prog 89 #[f, us, .int .i64 (a : Nat), .bool fl] w fun e w' => e = .returned (.bool (Wd.open_ gs ahead (a : Nat) fl)) ∧ Below w.heap.size w w' := by
  have F : Hid (Fl w f Wd_ H gs os) := hf
  have U : Hid (Unl w us ahead) := hu
  have HG : Hid (Fd.Good Wd_ H gs os) := G
  have AT : Hid (a < Wd_ * H ∧ gs[a]? = some g) := ⟨ha, hg⟩
  have OP : Hid (Wd.open_ gs ahead (a : Nat) fl = (decide (0 < Fd.onto g fl) && !ahead.any (fun u => u.at_ == (a : Int)))) := by
    unfold Hid Wd.open_
    rw [Int.toNat_natCast, List.getD_eq_getElem?_getD, hg]
    rfl
  obtain ⟨u1, u2, rfl, h1, h2⟩ := hf
  clear h1 h2 G ha hg hu
  go_enter Tryd.func89, Tryd.ntmps89
  go_wp2_with fail
  have B0 : Hid (Below w.heap.size w ((w.alloc (Obj.cells #[.int .i64 (Wd_ : Int), .int .i64 (H : Int), u1, u2] 45)).alloc (Obj.cells #[.int .i64 (a : Int)] 3))) := ((Below.refl _ _).alloc (Nat.le_refl _) _).alloc (by simp) _
  have C0 : Hid (((w.alloc (Obj.cells #[.int .i64 (Wd_ : Int), .int .i64 (H : Int), u1, u2] 45)).alloc (Obj.cells #[.int .i64 (a : Int)] 3)).cell? ⟨w.heap.size + 1, 0, none⟩ = some (.int .i64 (a : Int))) := cell_of_new (by simp) rfl
  generalize ((w.alloc (Obj.cells #[.int .i64 (Wd_ : Int), .int .i64 (H : Int), u1, u2] 45)).alloc (Obj.cells #[.int .i64 (a : Int)] 3)) = w0 at *
  refine (Step_ok _ Wd_ H gs os a g fl w0 (F.out.below B0.out) HG.out AT.out.1 AT.out.2).mono ?_
  rintro e w1 ⟨rfl, hb1⟩
  have B1 : Hid (Below w.heap.size w w1) := B0.out.trans (hb1.mono B0.out.size)
  have C1 : Hid (w1.cell? ⟨w.heap.size + 1, 0, none⟩ = some (.int .i64 (a : Int))) := by unfold Hid; rw [hb1.cell (p := ⟨w.heap.size + 1, 0, none⟩) (cell_lt C0.out)]; exact C0.out
  clear hb1 C0
  obtain ⟨o, ho⟩ : ∃ o, Fd.onto g fl = o := ⟨_, rfl⟩
  have OR := onto_or g fl
  rw [ho] at OP OR ⊢
  clear ho
  rcases OR with rfl | hpos
  · have E : Hid (Wd.open_ gs ahead (a : Nat) fl = false) := by unfold Hid; rw [OP.out]; rfl
    go_wp2
    go_ret
    exact ⟨by rw [E.out]; rfl, B1.out⟩
  · have E : Hid (Wd.open_ gs ahead (a : Nat) fl = !ahead.any (fun u => u.at_ == (a : Int))) := by unfold Hid; rw [OP.out, decide_eq_true hpos]; rfl
    go_wp2_with fail
    refine (hasu_any 115 (by intro args w; go_simp) us #[.pointer (some ⟨w.heap.size + 1, 0, none⟩)] ahead (fun u => u.at_ == (a : Int)) w1 (U.out.below B1.out) (fun V hV k => fat_any k (a : Int) (w.heap.size + 1) V (by rw [hV.cell (p := ⟨w.heap.size + 1, 0, none⟩) (cell_lt C1.out)]; exact C1.out))).mono ?_
    rintro e w2 ⟨rfl, hb2⟩
    have B2 : Hid (Below w.heap.size w w2) := B1.out.trans (hb2.mono B1.out.size)
    obtain ⟨m, hm⟩ : ∃ m, ahead.any (fun u => u.at_ == (a : Int)) = m := ⟨_, rfl⟩
    rw [hm] at E ⊢
    clear hb2 hm
    go_wp2
    go_ret
    exact ⟨by rw [E.out]; rfl, B2.out⟩
end Go.Proofs.YthccneiafofakaaDoor
