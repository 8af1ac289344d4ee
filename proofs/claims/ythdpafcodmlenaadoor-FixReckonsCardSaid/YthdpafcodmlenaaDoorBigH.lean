/- Whole numbers of any size: what sum does. -/
import Derived.Test.YthdpafcodmlenaaDoorBigE
namespace Go.Proofs.YthdpafcodmlenaaDoor
open Go.RowKit

/-- where signs part, and the first is no less. -/
theorem sum_sub (xn yn : Bool) (u v : Value) (ds es : List Int) (w : World) (hu : Sl w u ds) (hv : Sl w v es) (hd : Bg.Nrm ds) (he : Bg.Nrm es) (ld : ds.length ≤ 2) (d0 : ds ≠ []) (e0 : es = [] → ds.length = 1) (hs : xn ≠ yn) (h : Bg.val es ≤ Bg.val ds) :
    Calls Tryd.prog 45 #[.bool xn, u, .bool yn, v] w fun e w' => ∃ t fs, e = .returned (.tuple #[.bool xn, t]) ∧ Sl w' t fs ∧ Bg.Nrm fs ∧ Bg.val fs = Bg.val ds - Bg.val es ∧ Below w.heap.size w w' := by
  have le : es.length ≤ ds.length := by
    rcases Nat.lt_or_ge ds.length es.length with hl | hl
    · have := Bg.lt_of_len ds es hd he hl
      omega
    · exact hl
  have ho : 0 ≤ ord (Bg.val ds) (Bg.val es) := by unfold ord; rw [if_neg (by omega)]; split <;> omega
  have Cm : Hid (Calls Tryd.prog 37 #[u, v] w fun e w' => e = .returned (.int .i64 (ord (Bg.val ds) (Bg.val es))) ∧ Below w.heap.size w w') := cmp_any u v ds es w hu hv hd he (by omega) (by omega)
  have Sb : Hid (∀ W, Below w.heap.size w W → Calls Tryd.prog 55 #[u, v] W fun e w' => ∃ t fs, e = .returned t ∧ Sl w' t fs ∧ Bg.Nrm fs ∧ Bg.val fs = Bg.val ds - Bg.val es ∧ Below W.heap.size W w') := fun W hb => sub_sl u v ds es W (hu.below hb) (hv.below hb) hd he ld d0 e0 h
  have hb : (xn == yn) = false := beq_eq_false_iff_ne.2 hs
  clear hu hv hd he ld d0 e0 hs h le
  generalize ord (Bg.val ds) (Bg.val es) = o at *
  go_enter Tryd.func45, Tryd.ntmps45
  go_wp2_with fail
  refine Calls.mono Cm.out ?_
  rintro e w1 ⟨rfl, hb1⟩
  have Hb1 : Hid (Below w.heap.size w w1) := hb1
  clear hb1
  go_wp2_with fail
  refine Calls.mono (Sb.out w1 Hb1) ?_
  rintro e w2 ⟨t, fs, rfl, hs2, hn2, hv2, hb2⟩
  have Hs2 : Hid (Sl w2 t fs) := hs2
  have Hn2 : Hid (Bg.Nrm fs) := hn2
  have Hv2 : Hid (Bg.val fs = Bg.val ds - Bg.val es) := hv2
  have Hb2 : Hid (Below w1.heap.size w1 w2) := hb2
  clear hs2 hn2 hv2 hb2
  go_wp2
  go_ret2
  exact ⟨t, fs, rfl, Hs2, Hn2, Hv2, Hb1.out.trans (Hb2.out.mono Hb1.out.size)⟩

/-- where signs part, and the first is less. -/
theorem sum_bus (xn yn : Bool) (u v : Value) (ds es : List Int) (w : World) (hu : Sl w u ds) (hv : Sl w v es) (hd : Bg.Nrm ds) (he : Bg.Nrm es) (le : es.length ≤ 2) (d0 : ds = [] → es.length = 1) (e0 : es ≠ []) (hs : xn ≠ yn) (h : Bg.val ds < Bg.val es) :
    Calls Tryd.prog 45 #[.bool xn, u, .bool yn, v] w fun e w' => ∃ t fs, e = .returned (.tuple #[.bool yn, t]) ∧ Sl w' t fs ∧ Bg.Nrm fs ∧ Bg.val fs = Bg.val es - Bg.val ds ∧ Below w.heap.size w w' := by
  have ld : ds.length ≤ es.length := by
    rcases Nat.lt_or_ge es.length ds.length with hl | hl
    · have := Bg.lt_of_len es ds he hd hl
      omega
    · exact hl
  have Cm : Hid (Calls Tryd.prog 37 #[u, v] w fun e w' => e = .returned (.int .i64 (-1)) ∧ Below w.heap.size w w') := by
    have c := cmp_any u v ds es w hu hv hd he (by omega) (by omega)
    have e : ord (Bg.val ds) (Bg.val es) = -1 := by simp [ord, h]
    rw [e] at c
    exact c
  have Sb : Hid (∀ W, Below w.heap.size w W → Calls Tryd.prog 55 #[v, u] W fun e w' => ∃ t fs, e = .returned t ∧ Sl w' t fs ∧ Bg.Nrm fs ∧ Bg.val fs = Bg.val es - Bg.val ds ∧ Below W.heap.size W w') := fun W hb => sub_sl v u es ds W (hv.below hb) (hu.below hb) he hd le e0 d0 (by omega)
  have hb : (xn == yn) = false := beq_eq_false_iff_ne.2 hs
  clear hu hv hd he ld d0 e0 hs h le
  go_enter Tryd.func45, Tryd.ntmps45
  go_wp2_with fail
  refine Calls.mono Cm.out ?_
  rintro e w1 ⟨rfl, hb1⟩
  have Hb1 : Hid (Below w.heap.size w w1) := hb1
  clear hb1
  go_wp2_with fail
  refine Calls.mono (Sb.out w1 Hb1) ?_
  rintro e w2 ⟨t, fs, rfl, hs2, hn2, hv2, hb2⟩
  have Hs2 : Hid (Sl w2 t fs) := hs2
  have Hn2 : Hid (Bg.Nrm fs) := hn2
  have Hv2 : Hid (Bg.val fs = Bg.val es - Bg.val ds) := hv2
  have Hb2 : Hid (Below w1.heap.size w1 w2) := hb2
  clear hs2 hn2 hv2 hb2
  go_wp2
  go_ret2
  exact ⟨t, fs, rfl, Hs2, Hn2, Hv2, Hb1.out.trans (Hb2.out.mono Hb1.out.size)⟩

/-- where signs are the same. -/
theorem sum_add (xn : Bool) (u v : Value) (ds es : List Int) (w : World) (hu : Sl w u ds) (hv : Sl w v es) (hd : Bg.Nrm ds) (he : Bg.Nrm es) (ld : ds.length ≤ 2) (d0 : ds ≠ []) (le : es.length = 1) :
    Calls Tryd.prog 45 #[.bool xn, u, .bool xn, v] w fun e w' => ∃ t fs, e = .returned (.tuple #[.bool xn, t]) ∧ Sl w' t fs ∧ Bg.Nrm fs ∧ Bg.val fs = Bg.val ds + Bg.val es ∧ Below w.heap.size w w' := by
  have Sb : Hid (Calls Tryd.prog 54 #[u, v] w fun e w' => ∃ t fs, e = .returned t ∧ Sl w' t fs ∧ Bg.Nrm fs ∧ Bg.val fs = Bg.val ds + Bg.val es ∧ Below w.heap.size w w') := add_sl u v ds es w hu hv hd he ld d0 le
  clear hu hv hd he ld d0 le
  go_enter Tryd.func45, Tryd.ntmps45
  go_wp2_with fail
  refine Calls.mono Sb.out ?_
  rintro e w2 ⟨t, fs, rfl, hs2, hn2, hv2, hb2⟩
  have Hs2 : Hid (Sl w2 t fs) := hs2
  have Hn2 : Hid (Bg.Nrm fs) := hn2
  have Hv2 : Hid (Bg.val fs = Bg.val ds + Bg.val es) := hv2
  have Hb2 : Hid (Below w.heap.size w w2) := hb2
  clear hs2 hn2 hv2 hb2
  go_wp2
  go_ret2
  exact ⟨t, fs, rfl, Hs2, Hn2, Hv2, Hb2⟩
end Go.Proofs.YthdpafcodmlenaaDoor
