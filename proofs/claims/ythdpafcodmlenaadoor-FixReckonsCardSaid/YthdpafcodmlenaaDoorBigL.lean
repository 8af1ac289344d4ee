/- Whole numbers of any size: what DivMod does, where it needs no long division. -/
import Derived.Test.YthdpafcodmlenaaDoorBigF
import Derived.Test.YthdpafcodmlenaaDoorBigG
import Derived.Test.YthdpafcodmlenaaDoorBigH
import Derived.Test.YthdpafcodmlenaaDoorBigK
namespace Go.Proofs.YthdpafcodmlenaaDoor
open Go.RowKit

/-- what Mul does. -/
def MulSaid : Prop := ∀ (z xb yb : Nat) (x y : Int) (w : World), Zb w z → IntAt w xb x → IntAt w yb y → -18446744073709551616 < x → x < 18446744073709551616 → -18446744073709551616 < y → y < 18446744073709551616 →
    Calls Tryd.prog 13 #[.pointer (some ⟨z, 0, none⟩), .pointer (some ⟨xb, 0, none⟩), .pointer (some ⟨yb, 0, none⟩)] w fun e w' => e = .returned (.pointer (some ⟨z, 0, none⟩)) ∧ IntAt w' z (x * y) ∧ Kp z w w'
/-- what Add does, whatever sum tells. -/
def AddSaid : Prop := ∀ (z xb yb : Nat) (nx ny nr : Bool) (u v : Value) (N : Int) (w : World), Zb w z →
    w.cell? ⟨xb, 0, none⟩ = some (.bool nx) → w.cell? ⟨xb, 1, none⟩ = some u → w.cell? ⟨yb, 0, none⟩ = some (.bool ny) → w.cell? ⟨yb, 1, none⟩ = some v →
    (∀ W, Below w.heap.size w W → Calls Tryd.prog 45 #[.bool nx, u, .bool ny, v] W fun e w' => ∃ t fs, e = .returned (.tuple #[.bool nr, t]) ∧ Sl w' t fs ∧ Bg.Nrm fs ∧ Bg.val fs = N ∧ Below W.heap.size W w') →
    Calls Tryd.prog 35 #[.pointer (some ⟨z, 0, none⟩), .pointer (some ⟨xb, 0, none⟩), .pointer (some ⟨yb, 0, none⟩)] w fun e w' => e = .returned (.pointer (some ⟨z, 0, none⟩)) ∧ IntAt w' z (sgn nr N) ∧ Kp z w w'
/-- what Sub does, whatever sum tells. -/
def SubSaid : Prop := ∀ (z xb yb : Nat) (nx ny nr : Bool) (u v : Value) (N : Int) (w : World), Zb w z →
    w.cell? ⟨xb, 0, none⟩ = some (.bool nx) → w.cell? ⟨xb, 1, none⟩ = some u → w.cell? ⟨yb, 0, none⟩ = some (.bool ny) → w.cell? ⟨yb, 1, none⟩ = some v →
    (∀ W, Below w.heap.size w W → Calls Tryd.prog 45 #[.bool nx, u, .bool (!ny), v] W fun e w' => ∃ t fs, e = .returned (.tuple #[.bool nr, t]) ∧ Sl w' t fs ∧ Bg.Nrm fs ∧ Bg.val fs = N ∧ Below W.heap.size W w') →
    Calls Tryd.prog 36 #[.pointer (some ⟨z, 0, none⟩), .pointer (some ⟨xb, 0, none⟩), .pointer (some ⟨yb, 0, none⟩)] w fun e w' => e = .returned (.pointer (some ⟨z, 0, none⟩)) ∧ IntAt w' z (sgn nr N) ∧ Kp z w w'

/-- one less than a number that is not above 0. -/
theorem sub_one (hS : SubSaid) (z o : Nat) (q : Int) (w : World) (hz : IntAt w z q) (ho : IntAt w o 1) (q0 : q ≤ 0) (q1 : -18446744073709551616 < q) :
    Calls Tryd.prog 36 #[.pointer (some ⟨z, 0, none⟩), .pointer (some ⟨z, 0, none⟩), .pointer (some ⟨o, 0, none⟩)] w fun e w' => e = .returned (.pointer (some ⟨z, 0, none⟩)) ∧ IntAt w' z (q - 1) ∧ Kp z w w' := by
  obtain ⟨u, ds, cx0, cx1, hu, hd, vd, lx⟩ := hz.open
  obtain ⟨v, es, cy0, cy1, hv, he, ve, ly⟩ := ho.open
  have eo : decide ((1 : Int) < 0) = false := by decide
  rw [eo] at cy0
  have v1 : Bg.val es = 1 := by rw [ve]; rfl
  have e0 : es ≠ [] := by
    intro h
    subst h
    simp [Bg.val] at v1
  have l1 : es.length = 1 := by
    have a : es.length ≤ 1 := by
      refine Bg.len_le es he 1 ?_
      rw [v1]
      decide
    have := List.length_pos_iff.2 e0
    omega
  by_cases hq : q = 0
  · subst hq
    have d0 : ds = [] := (nil_iff ds 0 hd vd).2 rfl
    have ez : decide ((0 : Int) < 0) = false := by decide
    rw [ez] at cx0
    refine (hS z z o false false true u v 1 w hz.zb cx0 cx1 cy0 cy1 (fun W hb => ?_)).mono ?_
    · refine (sum_bus false true u v ds es W (hu.below hb) (hv.below hb) hd he (by omega) (fun _ => l1) e0 (by decide) ?_).mono ?_
      · rw [v1, d0]; simp [Bg.val]
      · rintro e w1 ⟨t, fs, rfl, a, b, c, d⟩
        refine ⟨t, fs, rfl, a, b, ?_, d⟩
        rw [c, v1, d0]; simp [Bg.val]
    · rintro e w1 ⟨rfl, a, b⟩
      have ee : sgn true 1 = 0 - 1 := by simp [sgn]
      rw [ee] at a
      exact ⟨rfl, a, b⟩
  · have d0 : ds ≠ [] := fun h => hq ((nil_iff ds q hd vd).1 h)
    have ez : decide (q < 0) = true := by simp; omega
    rw [ez] at cx0
    have ld := len_of ds q hd vd (by omega) (by omega)
    refine (hS z z o true false true u v (Bg.val ds + 1) w hz.zb cx0 cx1 cy0 cy1 (fun W hb => ?_)).mono ?_
    · refine (sum_add true u v ds es W (hu.below hb) (hv.below hb) hd he ld d0 l1).mono ?_
      rintro e w1 ⟨t, fs, rfl, a, b, c, d⟩
      exact ⟨t, fs, rfl, a, b, by rw [c, v1], d⟩
    · rintro e w1 ⟨rfl, a, b⟩
      have ee : sgn true (Bg.val ds + 1) = q - 1 := by
        rw [vd]
        simp only [sgn, if_true]
        omega
      rw [ee] at a
      exact ⟨rfl, a, b⟩

/-- a number below 0, and one that is greater. -/
theorem add_up (hA : AddSaid) (m d : Nat) (r y : Int) (w : World) (hm : IntAt w m r) (hd : IntAt w d y) (r0 : r < 0) (ry : -r < y) (y1 : y < 18446744073709551616) :
    Calls Tryd.prog 35 #[.pointer (some ⟨m, 0, none⟩), .pointer (some ⟨m, 0, none⟩), .pointer (some ⟨d, 0, none⟩)] w fun e w' => e = .returned (.pointer (some ⟨m, 0, none⟩)) ∧ IntAt w' m (y + r) ∧ Kp m w w' := by
  obtain ⟨u, ds, cx0, cx1, hu, hds, vd, lx⟩ := hm.open
  obtain ⟨v, es, cy0, cy1, hv, he, ve, ly⟩ := hd.open
  have ez : decide (r < 0) = true := by simp; omega
  have ey : decide (y < 0) = false := by simp; omega
  rw [ez] at cx0
  rw [ey] at cy0
  have d0 : ds ≠ [] := fun h => by have := (nil_iff ds r hds vd).1 h; omega
  have e0 : es ≠ [] := fun h => by have := (nil_iff es y he ve).1 h; omega
  have le := len_of es y he ve (by omega) y1
  have hlt : Bg.val ds < Bg.val es := by rw [vd, ve]; omega
  refine (hA m m d true false false u v (Bg.val es - Bg.val ds) w hm.zb cx0 cx1 cy0 cy1 (fun W hb => ?_)).mono ?_
  · exact sum_bus true false u v ds es W (hu.below hb) (hv.below hb) hds he le (fun h => absurd h d0) e0 (by decide) hlt
  · rintro e w1 ⟨rfl, a, b⟩
    have ee : sgn false (Bg.val es - Bg.val ds) = y + r := by
      rw [vd, ve]
      simp only [sgn]
      simp
      omega
    rw [ee] at a
    exact ⟨rfl, a, b⟩

/-- nothing below has turned but some blocks. -/
structure Kn (zs : List Nat) (w w' : World) : Prop where
  os : w'.os = w.os
  tape : w'.tape = w.tape
  output : w'.output = w.output
  size : w.heap.size ≤ w'.heap.size
  block : ∀ k, k < w.heap.size → k ∉ zs → w'.heap[k]? = w.heap[k]?
theorem Kn.of {zs : List Nat} {w w' : World} (h : Below w.heap.size w w') : Kn zs w w' := ⟨h.os, h.tape, h.output, h.size, fun k hk _ => h.block k hk⟩
theorem Kn.p {zs : List Nat} {z : Nat} {w w' : World} (h : Kp z w w') (hz : z < w.heap.size → z ∈ zs) : Kn zs w w' := ⟨h.os, h.tape, h.output, h.size, fun k hk hn => h.block k hk (fun e => hn (e ▸ hz (e ▸ hk)))⟩
theorem Kn.q {zs : List Nat} {z r : Nat} {w w' : World} (h : Kq z r w w') (hz : z ∈ zs) (hr : r ∈ zs) : Kn zs w w' := ⟨h.os, h.tape, h.output, h.size, fun k hk hn => h.block k hk (fun e => hn (e ▸ hz)) (fun e => hn (e ▸ hr))⟩
theorem Kn.trans {zs : List Nat} {a b c : World} (h : Kn zs a b) (k : Kn zs b c) : Kn zs a c :=
  ⟨k.os.trans h.os, k.tape.trans h.tape, k.output.trans h.output, Nat.le_trans h.size k.size, fun i hi hz => (k.block i (Nat.lt_of_lt_of_le hi h.size) hz).trans (h.block i hi hz)⟩
/-- blocks above may turn as they like. -/
theorem Kn.low {zs zs' : List Nat} {w w' w'' : World} (h : Kn zs w w') (k : Kn zs' w' w'') (hs : ∀ z ∈ zs', z < w.heap.size → z ∈ zs) : Kn zs w w'' :=
  ⟨k.os.trans h.os, k.tape.trans h.tape, k.output.trans h.output, Nat.le_trans h.size k.size, fun i hi hz => (k.block i (Nat.lt_of_lt_of_le hi h.size) (fun e => hz (hs i e hi))).trans (h.block i hi hz)⟩
theorem Kn.sl {zs : List Nat} {w w' : World} {v : Value} {ds : List Int} (h : Sl w v ds) (hk : Kn zs w w') (hz : ∀ z ∈ zs, z < w.heap.size → Zb w z) : Sl w' v ds := by
  rcases h with h | ⟨b, cap, h1, h2, h3, h4, h5⟩
  · exact .inl h
  · refine .inr ⟨b, cap, h1, h2, h3, Nat.lt_of_lt_of_le h4 hk.size, fun i d hd => ?_⟩
    have hb : b ∉ zs := by
      intro e
      obtain ⟨ng, sl, hzb⟩ := hz b e h4
      obtain ⟨x, hx⟩ : ∃ x, ds[0]? = some x := by
        cases ds with
        | nil => simp at hd
        | cons x xs => exact ⟨x, rfl⟩
      have := h5 0 x hx
      simp [World.cell?, hzb] at this
    rw [World.cell?_of_block (w := w) (a := ⟨b, i, none⟩) (hk.block b h4 hb)]
    exact h5 i d hd
theorem Kn.int {zs : List Nat} {w w' : World} {y : Nat} {x : Int} (h : IntAt w y x) (hk : Kn zs w w') (hz : ∀ z ∈ zs, z < w.heap.size → Zb w z) (hy : y ∉ zs) : IntAt w' y x := by
  obtain ⟨v, ds, h1, h2, h3, h4⟩ := h
  exact ⟨v, ds, by rw [hk.block y (lt_of_block h1) hy]; exact h1, Kn.sl h2 hk hz, h3, h4⟩
theorem Zb.lt {w : World} {z : Nat} (h : Zb w z) : z < w.heap.size := by
  obtain ⟨_, _, h⟩ := h
  exact lt_of_block h
theorem IntAt.lt {w : World} {z : Nat} {x : Int} (h : IntAt w z x) : z < w.heap.size := h.zb.lt

/-- a quotient that is rounded down. -/
theorem fl_pos (x y : Int) (hy : 0 < y) (h : 0 ≤ x.tmod y) : x.tdiv y = x / y := by
  have h1 := Int.mul_tdiv_add_tmod x y
  have h2 := Int.tmod_lt_of_pos x hy
  symm
  have a := (Int.le_ediv_iff_mul_le (a := x.tdiv y) (b := x) hy).2 (by rw [Int.mul_comm]; omega)
  have b : x / y < x.tdiv y + 1 := (Int.ediv_lt_iff_lt_mul hy).2 (by rw [Int.add_mul, Int.mul_comm]; omega)
  omega
theorem fl_neg (x y : Int) (hy : 0 < y) (h : x.tmod y < 0) : x.tdiv y - 1 = x / y ∧ x.tdiv y ≤ 0 ∧ -(x.tmod y) < y := by
  have h1 := Int.mul_tdiv_add_tmod x y
  have hx : x < 0 := by
    rcases Int.lt_or_le x 0 with hx | hx
    · exact hx
    · have := Int.tmod_nonneg y hx
      omega
  have h3 : 0 ≤ (-x).tdiv y := Int.tdiv_nonneg (by omega) (by omega)
  have h4 := Int.tmod_lt_of_pos (-x) hy
  rw [Int.neg_tdiv] at h3
  rw [Int.neg_tmod] at h4
  refine ⟨?_, by omega, h4⟩
  symm
  have a := (Int.le_ediv_iff_mul_le (a := x.tdiv y - 1) (b := x) hy).2 (by rw [Int.sub_mul, Int.mul_comm]; omega)
  have b : x / y < x.tdiv y := (Int.ediv_lt_iff_lt_mul hy).2 (by rw [Int.mul_comm]; omega)
  omega
end Go.Proofs.YthdpafcodmlenaaDoor
