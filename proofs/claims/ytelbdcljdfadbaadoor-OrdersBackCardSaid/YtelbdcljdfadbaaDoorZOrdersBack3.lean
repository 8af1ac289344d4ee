/- The program's orders: a line that is read. -/
import Derived.Test.YtelbdcljdfadbaaDoorZOrdersBack1
import Derived.Test.YtelbdcljdfadbaaDoorZOrdersBack2
import Derived.Laws.ResultCell
namespace Go.Proofs.YtelbdcljdfadbaaDoor
open Go.RowKit
set_option linter.unusedVariables false

theorem zero_int (w : World) : (zeroValue 3).run Tryd.prog w = .ok (.int .i64 0) w := by kernel_rfl
theorem Wm.below {w w' : World} {b n B : Nat} {D : DataW Unit} (h : Wm w b n D) (hb : Below B w w') (hB : b < B) : Wm w' b n D := by
  obtain ⟨es, clock, h1, h2⟩ := h
  exact ⟨es, clock, by rw [hb.block b hB]; exact h1, h2⟩
theorem Wm.lt {w : World} {b n : Nat} {D : DataW Unit} (h : Wm w b n D) : b < w.heap.size := World.ownsMap.lt h
theorem wm_look {w : World} {b n : Nat} (h : Wm w b n W4) (s : ByteArray) (hs : s.size ≤ maxLen) : ∃ c : Int, (Instr.lookup 93 (.map (some b)) (.string s) true).run Tryd.prog w = .ok (.tuple #[.int .i64 c, .bool (Od.unname s.data.toList).isSome]) w ∧ ∀ m, Od.unname s.data.toList = some m → c = m := by
  obtain ⟨v, ps, hr, hv⟩ := World.ownsMap.look_ok h (Maps.string_keyed Tryd.underlying9) Tryd.underlying93 (zero_int w) (elem_int 0 (by decide)) (WideMaps.keyOf_string_mk Tryd.underlying9 hs)
  rw [w4_has] at hr
  obtain ⟨c, rfl, hc, -⟩ := plainElem_int_inv Tryd.underlying3 hv
  refine ⟨c, hr, fun m hm => ?_⟩
  rw [w4_at hm] at hc
  simp at hc
  exact hc.1.symm

/-- block b is an order. -/
def Orb (w : World) (b : Nat) (k : OrV) : Prop := w.heap[b]? = some (.cells #[.int .i64 k.player, .int .i64 k.unit, .int .i64 k.what, .int .i64 k.arg] 63 (0, 0))
theorem Orb.mk' (w : World) (k : OrV) : Orb (w.alloc (.cells #[.int .i64 k.player, .int .i64 k.unit, .int .i64 k.what, .int .i64 k.arg] 63)) w.heap.size k := by
  unfold Orb
  rw [heap_alloc_new]
theorem Orb.cells {w : World} {b : Nat} {k : OrV} (h : Orb w b k) : w.cell? ⟨b, 0, none⟩ = some (.int .i64 k.player) ∧ w.cell? ⟨b, 1, none⟩ = some (.int .i64 k.unit) ∧ w.cell? ⟨b, 2, none⟩ = some (.int .i64 k.what) ∧ w.cell? ⟨b, 3, none⟩ = some (.int .i64 k.arg) := by
  unfold Orb at h
  refine ⟨?_, ?_, ?_, ?_⟩ <;> simp [World.cell?, h]
theorem Orb.thaw {w : World} {b : Nat} {k : OrV} (h : Orb w b k) (i : Nat) : w.frozen? ⟨b, i, none⟩ = false := by
  unfold Orb at h
  simp [World.frozen?, h]
theorem Orb.put {w : World} {b : Nat} {k : OrV} (h : Orb w b k) (x y z a : Int) : Orb ((((w.setCell ⟨b, 0, none⟩ (.int .i64 x)).setCell ⟨b, 1, none⟩ (.int .i64 y)).setCell ⟨b, 2, none⟩ (.int .i64 z)).setCell ⟨b, 3, none⟩ (.int .i64 a)) b ⟨x, y, z, a⟩ := by
  unfold Orb at *
  have h1 := heap_setCell_same w b 0 _ _ (.int .i64 x) h
  have h2 := heap_setCell_same _ b 1 _ _ (.int .i64 y) h1
  have h3 := heap_setCell_same _ b 2 _ _ (.int .i64 z) h2
  have h4 := heap_setCell_same _ b 3 _ _ (.int .i64 a) h3
  exact h4
theorem Orb.below {w w' : World} {b B : Nat} {k : OrV} (h : Orb w b k) (hb : Below B w w') (hB : b < B) : Orb w' b k := by
  unfold Orb at *
  rw [hb.block b hB]; exact h
theorem Orb.grown {w w' : World} {b : Nat} {k : OrV} {row : Option Nat} (h : Orb w b k) (g : w.grownBy w' row) (hne : row ≠ some b) : Orb w' b k := by
  unfold Orb at *
  rw [← h]
  exact g.block _ (lt_of_block h) (fun e => hne e.symm)
theorem Orb.lt {w : World} {b : Nat} {k : OrV} (h : Orb w b k) : b < w.heap.size := lt_of_block h
theorem put_below {B b : Nat} {w W : World} (x y z a : Int) (h : Below B w W) (hb : B ≤ b) : Below B w ((((W.setCell ⟨b, 0, none⟩ (.int .i64 x)).setCell ⟨b, 1, none⟩ (.int .i64 y)).setCell ⟨b, 2, none⟩ (.int .i64 z)).setCell ⟨b, 3, none⟩ (.int .i64 a)) :=
  (((h.setCell (p := ⟨b, 0, none⟩) hb _).setCell (p := ⟨b, 1, none⟩) hb _).setCell (p := ⟨b, 2, none⟩) hb _).setCell (p := ⟨b, 3, none⟩) hb _

theorem len_few {ws : List (List UInt8)} (h : ws.length < 3) : Od.ofWords ws = none := by
  match ws, h with
  | [], _ => rfl
  | [a], _ => rfl
  | [a, b], _ => rfl
theorem len_many {ws : List (List UInt8)} (h : 4 < ws.length) : Od.ofWords ws = none := by
  match ws, h with
  | a :: b :: c :: d :: e :: r, _ => rfl
theorem un_none {a b c : List UInt8} {r : List (List UInt8)} (h : Od.unname c = none) : Od.ofWords (a :: b :: c :: r) = none := by
  match r with
  | [] => simp [Od.ofWords, h]
  | [d] => simp [Od.ofWords, h]
  | d :: e :: r => rfl
theorem of4 {a b c d : List UInt8} {n x y z : Int} {b1 b2 b3 : Bool} (h : Od.unname c = some n) (hn : n ≠ 0) (r1 : Rnum 7 a x b1) (r2 : Rnum 7 b y b2) (r3 : Rnum 7 d z b3) :
    ((b1 && b2 && b3) = true ∧ Od.ofWords [a, b, c, d] = some ⟨x, y, n, z⟩) ∨ ((b1 && b2 && b3) = false ∧ Od.ofWords [a, b, c, d] = none) := by
  rcases r1 with ⟨rfl, m1, rfl, -, e1⟩ | ⟨rfl, e1⟩ <;> rcases r2 with ⟨rfl, m2, rfl, -, e2⟩ | ⟨rfl, e2⟩ <;> rcases r3 with ⟨rfl, m3, rfl, -, e3⟩ | ⟨rfl, e3⟩ <;> simp [Od.ofWords, h, hn, e1, e2, e3]
theorem of3 {a b c : List UInt8} {x y : Int} {b1 b2 : Bool} (h : Od.unname c = some 0) (r1 : Rnum 7 a x b1) (r2 : Rnum 7 b y b2) :
    ((b1 && b2) = true ∧ Od.ofWords [a, b, c] = some ⟨x, y, 0, 0⟩) ∨ ((b1 && b2) = false ∧ Od.ofWords [a, b, c] = none) := by
  rcases r1 with ⟨rfl, m1, rfl, -, e1⟩ | ⟨rfl, e1⟩ <;> rcases r2 with ⟨rfl, m2, rfl, -, e2⟩ | ⟨rfl, e2⟩ <;> simp [Od.ofWords, h, e1, e2]
theorem of3x {a b c d : List UInt8} (h : Od.unname c = some 0) : Od.ofWords [a, b, c, d] = none := by
  cases h1 : Tx.whole 7 a <;> cases h2 : Tx.whole 7 b <;> cases h3 : Tx.whole 7 d <;> simp [Od.ofWords, h, h1, h2, h3]
theorem of4x {a b c : List UInt8} {n : Int} (h : Od.unname c = some n) (hn : n ≠ 0) : Od.ofWords [a, b, c] = none := by
  cases h1 : Tx.whole 7 a <;> cases h2 : Tx.whole 7 b <;> simp [Od.ofWords, h, h1, h2, hn]

theorem list3 {R : List ByteArray} {a0 a1 a2 : ByteArray} (h0 : R[0]? = some a0) (h1 : R[1]? = some a1) (h2 : R[2]? = some a2) : ∃ r, R = a0 :: a1 :: a2 :: r := by
  match R, h0, h1, h2 with
  | [], h, _, _ => simp at h
  | [x], _, h, _ => simp at h
  | [x, y], _, _, h => simp at h
  | x :: y :: z :: r, h0, h1, h2 =>
    simp at h0 h1 h2
    subst h0 h1 h2
    exact ⟨r, rfl⟩
def OreadSays (l : List UInt8) (w : World) (e : Ending) (w' : World) : Prop := ∃ (o : OrV) (ok : Bool), e = .returned (.tuple #[o.val, .bool ok]) ∧ ((ok = true ∧ Od.ofLine l = some o) ∨ (ok = false ∧ Od.ofLine l = none)) ∧ Below w.heap.size w w'

set_option maxRecDepth 100000 in
set_option maxHeartbeats 8000000 in
theorem oread_any (b : Nat) (s : ByteArray) (w : World) (hsx : s.size ≤ 9223372036854775806) (hm : Wm w b 4 W4) (hp : Pw w) (hy : Sy w) :
    Calls Tryd.prog 82 #[.map (some b), .string s] w (OreadSays s.data.toList w) := by
  have P0 : Hid (Pw w ∧ Sy w ∧ Wm w b 4 W4) := ⟨hp, hy, hm⟩
  obtain ⟨t, eb, ⟨hts, hend⟩, CS⟩ := cutend_any s (by omega)
  have CS' : Hid (∀ w : World, Calls Tryd.prog 117 #[.string s, .string ⟨#[10]⟩] w fun e w' => e = .returned (.tuple #[.string t, .bool eb]) ∧ w' = w) := CS
  have B0 : Hid (Below w.heap.size w (w.alloc (Obj.cells #[.int .i64 0, .int .i64 0, .int .i64 0, .int .i64 0] 63))) := (Below.refl _ _).alloc (Nat.le_refl _) _
  have Z0 : Hid (Orb (w.alloc (Obj.cells #[.int .i64 0, .int .i64 0, .int .i64 0, .int .i64 0] 63)) w.heap.size ⟨0, 0, 0, 0⟩) := Orb.mk' w ⟨0, 0, 0, 0⟩
  clear hp hy hm CS
  go_enter Tryd.func82, Tryd.ntmps82
  go_wp2_with fail
  refine (CS'.out _).mono ?_
  rintro e w' ⟨rfl, hw⟩
  obtain rfl := hw.symm
  clear CS'
  go_wp2_with fail
  generalize hw1 : w.alloc (Obj.cells #[.int .i64 0, .int .i64 0, .int .i64 0, .int .i64 0] 63) = w1 at *
  have Hz : Hid (w1.heap.size = w.heap.size + 1) := by unfold Hid; rw [← hw1]; simp
  clear hw1
  refine (splitn5_any t _ (by omega)).mono ?_
  rintro e w2 ⟨R, N, rfl, r1, r2, r3, r4, r5, r6, r8, b2⟩
  have B2 : Hid (Below w.heap.size w w2) := B0.out.trans (b2.mono B0.out.size)
  have Z2 : Hid (Orb w2 w.heap.size ⟨0, 0, 0, 0⟩) := Z0.out.below b2 Z0.out.lt
  have O2 : Hid (Os w2 w1.heap.size (.slice (some ⟨w1.heap.size, 0, none⟩) R.length N) R) := r8
  have R5 : Hid (∀ (j : Nat) x, R[j]? = some x → w2.cell? ⟨w1.heap.size, j, none⟩ = some (.string x)) := r5
  have R6 : Hid (∀ x ∈ R, x.size ≤ t.size) := r6
  have C5 : Hid (Cut5 t.data.toList R) := r4
  have L1 : Hid (w1.heap.size ≤ w2.heap.size) := b2.size
  clear r1 r4 r5 r6 r8 b2 B0 Z0
  rcases hend with ⟨rfl, he⟩ | ⟨rfl, he⟩
  · have HE : Hid (Od.ofLine s.data.toList = Od.ofWords (Tx.cut 32 t.data.toList)) := by unfold Hid; rw [he, Od.ofLine_end]
    clear he
    have CL : Hid (R.length ≤ 4 → R.map (·.data.toList) = Tx.cut 32 t.data.toList) := fun h => by
      rcases C5.out with h1 | ⟨h1, h2⟩
      · exact h1
      · omega
    have CM : Hid (4 < R.length → Od.ofWords (Tx.cut 32 t.data.toList) = none) := fun h => by
      rcases C5.out with h1 | ⟨h1, h2⟩
      · exact len_many (by rw [← h1, List.length_map]; exact h)
      · exact len_many (by omega)
    clear C5
    by_cases h3 : R.length < 3
    · have h3i : (R.length : Int) < 3 := by omega
      have NO : Hid (Od.ofLine s.data.toList = none) := by
        unfold Hid
        rw [HE.out, ← CL.out (by omega)]
        exact len_few (by rw [List.length_map]; exact h3)
      have z9 := Z2.out.put 0 0 0 0
      have B9 : Hid (Below w.heap.size w ((((w2.setCell ⟨w.heap.size, 0, none⟩ (.int .i64 0)).setCell ⟨w.heap.size, 1, none⟩ (.int .i64 0)).setCell ⟨w.heap.size, 2, none⟩ (.int .i64 0)).setCell ⟨w.heap.size, 3, none⟩ (.int .i64 0))) := put_below 0 0 0 0 B2.out (Nat.le_refl _)
      obtain ⟨y0, y1, y2, y3⟩ := Z2.out.cells
      have f0 := Z2.out.thaw 0
      have f1 := Z2.out.thaw 1
      have f2 := Z2.out.thaw 2
      have f3 := Z2.out.thaw 3
      simp only at y0 y1 y2 y3
      go_wp2
      generalize ((((w2.setCell ⟨w.heap.size, 0, none⟩ (.int .i64 0)).setCell ⟨w.heap.size, 1, none⟩ (.int .i64 0)).setCell ⟨w.heap.size, 2, none⟩ (.int .i64 0)).setCell ⟨w.heap.size, 3, none⟩ (.int .i64 0)) = w9 at *
      clear y0 y1 y2 y3 f0 f1 f2 f3
      obtain ⟨x0, x1, x2, x3⟩ := z9.cells
      refine bodyPost_ret (v := .tuple #[OrV.val ⟨0, 0, 0, 0⟩, .bool false]) (by simp [results, Tryd.results82, go_sem, x0, x1, x2, x3, OrV.val]) rfl ?_
      exact ⟨⟨0, 0, 0, 0⟩, false, rfl, .inr ⟨rfl, NO.out⟩, B9⟩
    · obtain ⟨a0, a1, a2, ra0, ra1, ra2⟩ : ∃ a0 a1 a2, R[0]? = some a0 ∧ R[1]? = some a1 ∧ R[2]? = some a2 :=
        ⟨_, _, _, List.getElem?_eq_getElem (by omega), List.getElem?_eq_getElem (by omega), List.getElem?_eq_getElem (by omega)⟩
      have RA : Hid (R[0]? = some a0 ∧ R[1]? = some a1 ∧ R[2]? = some a2) := ⟨ra0, ra1, ra2⟩
      have k2 : w2.cell? ⟨w1.heap.size, 2, none⟩ = some (.string a2) := R5.out 2 a2 ra2
      have s2 : a2.size ≤ maxLen := by
        have := R6.out a2 (List.mem_of_getElem? ra2)
        unfold maxLen
        omega
      obtain ⟨c, hlook, hc⟩ := wm_look (P0.out.2.2.below B2.out P0.out.2.2.lt) a2 s2
      have n3 : ¬ ((R.length : Nat) : Int) < 3 := by omega
      have l2 : (2 : Int) < ((R.length : Nat) : Int) := by omega
      clear ra0 ra1 ra2
      cases hu : Od.unname a2.data.toList with
      | none =>
        rw [hu] at hlook
        simp only [Option.isSome_none] at hlook
        have NO : Hid (Od.ofLine s.data.toList = none) := by
          unfold Hid
          rw [HE.out]
          by_cases h4 : R.length ≤ 4
          · rw [← CL.out h4]
            obtain ⟨r, hR⟩ := list3 RA.out.1 RA.out.2.1 RA.out.2.2
            rw [hR]
            exact un_none hu
          · exact CM.out (by omega)
        clear hc hu
        have z9 := Z2.out.put 0 0 0 0
        have B9 : Hid (Below w.heap.size w ((((w2.setCell ⟨w.heap.size, 0, none⟩ (.int .i64 0)).setCell ⟨w.heap.size, 1, none⟩ (.int .i64 0)).setCell ⟨w.heap.size, 2, none⟩ (.int .i64 0)).setCell ⟨w.heap.size, 3, none⟩ (.int .i64 0))) := put_below 0 0 0 0 B2.out (Nat.le_refl _)
        obtain ⟨y0, y1, y2, y3⟩ := Z2.out.cells
        have f0 := Z2.out.thaw 0
        have f1 := Z2.out.thaw 1
        have f2 := Z2.out.thaw 2
        have f3 := Z2.out.thaw 3
        simp only at y0 y1 y2 y3
        go_wp2
        generalize ((((w2.setCell ⟨w.heap.size, 0, none⟩ (.int .i64 0)).setCell ⟨w.heap.size, 1, none⟩ (.int .i64 0)).setCell ⟨w.heap.size, 2, none⟩ (.int .i64 0)).setCell ⟨w.heap.size, 3, none⟩ (.int .i64 0)) = w9 at *
        clear y0 y1 y2 y3 f0 f1 f2 f3
        obtain ⟨x0, x1, x2, x3⟩ := z9.cells
        refine bodyPost_ret (v := .tuple #[OrV.val ⟨0, 0, 0, 0⟩, .bool false]) (by simp [results, Tryd.results82, go_sem, x0, x1, x2, x3, OrV.val]) rfl ?_
        exact ⟨⟨0, 0, 0, 0⟩, false, rfl, .inr ⟨rfl, NO.out⟩, B9⟩
      | some n =>
        rw [hu] at hlook
        simp only [Option.isSome_some] at hlook
        obtain rfl := hc n hu
        have Hu : Hid (Od.unname a2.data.toList = some c) := hu
        clear hc hu
        have z0 : a0.size ≤ 9223372036854775806 := by have := R6.out a0 (List.mem_of_getElem? RA.out.1); omega
        have z1 : a1.size ≤ 9223372036854775806 := by have := R6.out a1 (List.mem_of_getElem? RA.out.2.1); omega
        by_cases hc0 : c = 0
        · subst hc0
          by_cases hr : R.length = 3
          · have OW : Hid (Od.ofLine s.data.toList = Od.ofWords [a0.data.toList, a1.data.toList, a2.data.toList]) := by
              unfold Hid
              rw [HE.out, ← CL.out (by omega)]
              obtain ⟨r, hR⟩ := list3 RA.out.1 RA.out.2.1 RA.out.2.2
              rw [hR] at hr ⊢
              have : r = [] := List.length_eq_zero_iff.1 (by simpa using hr)
              subst this
              rfl
            have R3 : Hid ((R ++ [(⟨#[48]⟩ : ByteArray)])[0]? = some a0 ∧ (R ++ [(⟨#[48]⟩ : ByteArray)])[1]? = some a1 ∧ (R ++ [(⟨#[48]⟩ : ByteArray)])[3]? = some ⟨#[48]⟩) :=
              ⟨by rw [List.getElem?_append_left (by omega)]; exact RA.out.1, by rw [List.getElem?_append_left (by omega)]; exact RA.out.2.1, by rw [List.getElem?_append_right (by omega), hr]; rfl⟩
            have n4 : ((R.length : Nat) : Int) + 1 = 4 := by omega
            have n4b : (((R.length : Nat) : Int) + 1 == 4) = true := by rw [n4]; rfl
            have HR3 : Hid (R.length = 3) := hr
            clear hr
            have ba : Below w2.heap.size w2 (w2.alloc (Obj.cells #[.string ⟨#[48]⟩] 9)) := (Below.refl _ _).alloc (Nat.le_refl _) _
            have O3 : Hid (Os (w2.alloc (Obj.cells #[.string ⟨#[48]⟩] 9)) w1.heap.size (.slice (some ⟨w1.heap.size, 0, none⟩) R.length N) R) := O2.out.alloc _
            have B3 : Hid (Below w.heap.size w (w2.alloc (Obj.cells #[.string ⟨#[48]⟩] 9))) := B2.out.trans (ba.mono B2.out.size)
            have Z3 : Hid (Orb (w2.alloc (Obj.cells #[.string ⟨#[48]⟩] 9)) w.heap.size ⟨0, 0, 0, 0⟩) := Z2.out.below ba Z2.out.lt
            have Cd : Hid ((w2.alloc (Obj.cells #[.string ⟨#[48]⟩] 9)).cell? ⟨w2.heap.size, 0, none⟩ = some (.string ⟨#[48]⟩)) := by unfold Hid; simp
            have Lb : Hid (w1.heap.size ≤ (w2.alloc (Obj.cells #[.string ⟨#[48]⟩] 9)).heap.size) := by unfold Hid; rw [World.size_alloc]; have := L1.out; omega
            clear ba
            go_wp2_with (at_builtin; refine app_str _ rfl _ _ rfl w1.heap.size _ R rfl O3.out ⟨w2.heap.size, 0, none⟩ _ rfl Cd.out (by omega) Lb.out ?_)
            intro g cap w6 o6 g6 a6 l6
            have O6 : Hid (Os w6 w1.heap.size (.slice (some ⟨g, 0, none⟩) (R.length + 1) cap) (R ++ [⟨#[48]⟩])) := o6
            have B6 : Hid (Below w.heap.size w w6) := B3.out.trans ((Below.refl _ _).grown g6 B3.out.size (fun k hk => Nat.le_trans (by have := Hz.out; omega) (O3.out.block k hk).1))
            have Z6 : Hid (Orb w6 w.heap.size ⟨0, 0, 0, 0⟩) := Z3.out.grown g6 (fun hk => by
              have h1 := (O3.out.block w.heap.size hk).1
              have h2 := Hz.out
              omega)
            clear o6 g6 O3 B3 Z3 Cd Lb
            obtain ⟨ax, cx, hv, hcx1, hcx2, hcell⟩ := O6.out.cells
            obtain ⟨gg, hgg, -, hcells⟩ := hcell (by simp)
            injection hv with hv1 hv2 hv3
            rw [hgg] at hv1
            injection hv1 with hv1
            injection hv1 with hv1
            subst hv1
            have d0 : w6.cell? ⟨g, 0, none⟩ = some (.string a0) := hcells 0 a0 R3.out.1
            have d1 : w6.cell? ⟨g, 1, none⟩ = some (.string a1) := hcells 1 a1 R3.out.2.1
            have d3 : w6.cell? ⟨g, 3, none⟩ = some (.string ⟨#[48]⟩) := hcells 3 _ R3.out.2.2
            have hG := l6
            have PW : Hid (Pw w6 ∧ Sy w6) := ⟨P0.out.1.below B6.out, P0.out.2.1.below B6.out⟩
            have ZW := Z6
            have BW := B6
            have i0 : (0 : Int) < ((R.length : Nat) : Int) + 1 := by omega
            have i1 : (1 : Int) < ((R.length : Nat) : Int) + 1 := by omega
            have i3 : (3 : Int) < ((R.length : Nat) : Int) + 1 := by omega
            clear hcells hgg hv2 hv3 a6 l6 k2 hlook O6 Z6 B6 hcell
            have RN0 : Hid (Calls Tryd.prog 119 #[.string a0, .int .i64 7] w6 (RnumSays 7 a0.data.toList w6)) := rnum_any 7 (by decide) (by decide) a0 w6 (by omega) PW.out.1 PW.out.2
            go_wp2_with fail
            refine RN0.out.mono ?_
            rintro e w7 ⟨x0, b0, rfl, q0, b7⟩
            have Q0 : Hid (Rnum 7 a0.data.toList x0 b0) := q0
            have P7 : Hid (Pw w7 ∧ Sy w7) := ⟨PW.out.1.below b7, PW.out.2.below b7⟩
            have Z7 : Hid (Orb w7 w.heap.size ⟨0, 0, 0, 0⟩) := ZW.out.below b7 ZW.out.lt
            have B7 : Hid (Below w.heap.size w w7) := BW.out.trans (b7.mono BW.out.size)
            have e1 : w7.cell? ⟨g, 1, none⟩ = some (.string a1) := by rw [b7.cell (p := ⟨g, 1, none⟩) hG]; exact d1
            have e3 : w7.cell? ⟨g, 3, none⟩ = some (.string ⟨#[48]⟩) := by rw [b7.cell (p := ⟨g, 3, none⟩) hG]; exact d3
            have hG7 : g < w7.heap.size := Nat.lt_of_lt_of_le hG b7.size
            clear q0 b7 RN0 PW ZW BW d0 d1 d3 hG
            have RN1 : Hid (Calls Tryd.prog 119 #[.string a1, .int .i64 7] w7 (RnumSays 7 a1.data.toList w7)) := rnum_any 7 (by decide) (by decide) a1 w7 (by omega) P7.out.1 P7.out.2
            go_wp2_with fail
            refine RN1.out.mono ?_
            rintro e w8 ⟨x1, b1, rfl, q1, b8⟩
            have Q1 : Hid (Rnum 7 a1.data.toList x1 b1) := q1
            have P8 : Hid (Pw w8 ∧ Sy w8) := ⟨P7.out.1.below b8, P7.out.2.below b8⟩
            have Z8 : Hid (Orb w8 w.heap.size ⟨0, 0, 0, 0⟩) := Z7.out.below b8 Z7.out.lt
            have B8 : Hid (Below w.heap.size w w8) := B7.out.trans (b8.mono B7.out.size)
            have g3 : w8.cell? ⟨g, 3, none⟩ = some (.string ⟨#[48]⟩) := by rw [b8.cell (p := ⟨g, 3, none⟩) hG7]; exact e3
            clear q1 b8 RN1 P7 Z7 B7 e1 e3 hG7
            have RN3 : Hid (Calls Tryd.prog 119 #[.string ⟨#[48]⟩, .int .i64 7] w8 (RnumSays 7 (⟨#[48]⟩ : ByteArray).data.toList w8)) := rnum_any 7 (by decide) (by decide) ⟨#[48]⟩ w8 (by decide) P8.out.1 P8.out.2
            go_wp2_with fail
            refine RN3.out.mono ?_
            rintro e w9 ⟨x3, b3, rfl, q3, b9⟩
            have Z9 : Hid (Orb w9 w.heap.size ⟨0, 0, 0, 0⟩) := Z8.out.below b9 Z8.out.lt
            have B9 : Hid (Below w.heap.size w w9) := B8.out.trans (b9.mono B8.out.size)
            obtain ⟨rfl, rfl⟩ : b3 = true ∧ x3 = 0 := by
              have e : Tx.whole 7 [48] = some 0 := by decide
              rcases q3 with ⟨h1, m, h2, -, h3⟩ | ⟨h1, h3⟩
              · have h3' : Tx.whole 7 [48] = some m := h3
                rw [e] at h3'
                injection h3' with h3
                subst h3
                exact ⟨h1, h2⟩
              · have h3' : Tx.whole 7 [48] = none := h3
                rw [e] at h3'
                cases h3'
            have HH : Hid (((b0 && b1 && true) = true ∧ Od.ofLine s.data.toList = some ⟨x0, x1, 0, 0⟩) ∨ ((b0 && b1 && true) = false ∧ Od.ofLine s.data.toList = none)) := by
              have h1 := of3 Hu.out Q0.out Q1.out
              rw [← OW.out] at h1
              unfold Hid
              simpa using h1
            have z10 := Z9.out.put x0 x1 0 0
            have B10 : Hid (Below w.heap.size w ((((w9.setCell ⟨w.heap.size, 0, none⟩ (.int .i64 x0)).setCell ⟨w.heap.size, 1, none⟩ (.int .i64 x1)).setCell ⟨w.heap.size, 2, none⟩ (.int .i64 0)).setCell ⟨w.heap.size, 3, none⟩ (.int .i64 0))) := put_below x0 x1 0 0 B9.out (Nat.le_refl _)
            obtain ⟨y0, y1, y2, y3⟩ := Z9.out.cells
            have f0 := Z9.out.thaw 0
            have f1 := Z9.out.thaw 1
            have f2 := Z9.out.thaw 2
            have f3 := Z9.out.thaw 3
            simp only at y0 y1 y2 y3
            clear q3 b9 RN3 P8 Z8 B8 g3
            cases b0 <;> cases b1
            all_goals (
              go_wp2
              generalize ((((w9.setCell ⟨w.heap.size, 0, none⟩ (.int .i64 x0)).setCell ⟨w.heap.size, 1, none⟩ (.int .i64 x1)).setCell ⟨w.heap.size, 2, none⟩ (.int .i64 0)).setCell ⟨w.heap.size, 3, none⟩ (.int .i64 0)) = w10 at *
              clear y0 y1 y2 y3 f0 f1 f2 f3
              obtain ⟨x00, x01, x02, x03⟩ := z10.cells
              first
              | (refine bodyPost_ret (v := .tuple #[OrV.val ⟨x0, x1, 0, 0⟩, .bool true]) (by simp [results, Tryd.results82, go_sem, x00, x01, x02, x03, OrV.val]) rfl ?_; exact ⟨_, _, rfl, HH.out, B10⟩)
              | (refine bodyPost_ret (v := .tuple #[OrV.val ⟨x0, x1, 0, 0⟩, .bool false]) (by simp [results, Tryd.results82, go_sem, x00, x01, x02, x03, OrV.val]) rfl ?_; exact ⟨_, _, rfl, HH.out, B10⟩))
          · have NO : Hid (Od.ofLine s.data.toList = none) := by
              unfold Hid
              rw [HE.out]
              by_cases h4 : R.length ≤ 4
              · rw [← CL.out h4]
                obtain ⟨r, hR⟩ := list3 RA.out.1 RA.out.2.1 RA.out.2.2
                rw [hR] at hr h4 ⊢
                obtain ⟨d, rfl⟩ : ∃ d, r = [d] := by
                  match r, hr, h4 with
                  | [], h, _ => simp at h
                  | [d], _, _ => exact ⟨d, rfl⟩
                  | d :: e :: r, _, h => simp at h
                exact of3x Hu.out
              · exact CM.out (by omega)
            have n4 : ¬ ((R.length : Nat) : Int) + 1 = 4 := by omega
            have n4b : (((R.length : Nat) : Int) + 1 == 4) = false := beq_eq_false_iff_ne.2 n4
            have ba : Below w2.heap.size w2 (w2.alloc (Obj.cells #[.string ⟨#[48]⟩] 9)) := (Below.refl _ _).alloc (Nat.le_refl _) _
            have O3 : Hid (Os (w2.alloc (Obj.cells #[.string ⟨#[48]⟩] 9)) w1.heap.size (.slice (some ⟨w1.heap.size, 0, none⟩) R.length N) R) := O2.out.alloc _
            have B3 : Hid (Below w.heap.size w (w2.alloc (Obj.cells #[.string ⟨#[48]⟩] 9))) := B2.out.trans (ba.mono B2.out.size)
            have Z3 : Hid (Orb (w2.alloc (Obj.cells #[.string ⟨#[48]⟩] 9)) w.heap.size ⟨0, 0, 0, 0⟩) := Z2.out.below ba Z2.out.lt
            have Cd : Hid ((w2.alloc (Obj.cells #[.string ⟨#[48]⟩] 9)).cell? ⟨w2.heap.size, 0, none⟩ = some (.string ⟨#[48]⟩)) := by unfold Hid; simp
            have Lb : Hid (w1.heap.size ≤ (w2.alloc (Obj.cells #[.string ⟨#[48]⟩] 9)).heap.size) := by unfold Hid; rw [World.size_alloc]; have := L1.out; omega
            clear ba
            go_wp2_with (at_builtin; refine app_str _ rfl _ _ rfl w1.heap.size _ R rfl O3.out ⟨w2.heap.size, 0, none⟩ _ rfl Cd.out (by omega) Lb.out ?_)
            intro g cap w6 o6 g6 a6 l6
            have O6 : Hid (Os w6 w1.heap.size (.slice (some ⟨g, 0, none⟩) (R.length + 1) cap) (R ++ [⟨#[48]⟩])) := o6
            have B6 : Hid (Below w.heap.size w w6) := B3.out.trans ((Below.refl _ _).grown g6 B3.out.size (fun k hk => Nat.le_trans (by have := Hz.out; omega) (O3.out.block k hk).1))
            have Z6 : Hid (Orb w6 w.heap.size ⟨0, 0, 0, 0⟩) := Z3.out.grown g6 (fun hk => by
              have h1 := (O3.out.block w.heap.size hk).1
              have h2 := Hz.out
              omega)
            clear o6 g6 O3 B3 Z3 Cd Lb
            have z9 := Z6.out.put 0 0 0 0
            have B9 : Hid (Below w.heap.size w ((((w6.setCell ⟨w.heap.size, 0, none⟩ (.int .i64 0)).setCell ⟨w.heap.size, 1, none⟩ (.int .i64 0)).setCell ⟨w.heap.size, 2, none⟩ (.int .i64 0)).setCell ⟨w.heap.size, 3, none⟩ (.int .i64 0))) := put_below 0 0 0 0 B6.out (Nat.le_refl _)
            obtain ⟨y0, y1, y2, y3⟩ := Z6.out.cells
            have f0 := Z6.out.thaw 0
            have f1 := Z6.out.thaw 1
            have f2 := Z6.out.thaw 2
            have f3 := Z6.out.thaw 3
            simp only at y0 y1 y2 y3
            go_wp2
            generalize ((((w6.setCell ⟨w.heap.size, 0, none⟩ (.int .i64 0)).setCell ⟨w.heap.size, 1, none⟩ (.int .i64 0)).setCell ⟨w.heap.size, 2, none⟩ (.int .i64 0)).setCell ⟨w.heap.size, 3, none⟩ (.int .i64 0)) = w9 at *
            clear y0 y1 y2 y3 f0 f1 f2 f3
            obtain ⟨x0, x1, x2, x3⟩ := z9.cells
            refine bodyPost_ret (v := .tuple #[OrV.val ⟨0, 0, 0, 0⟩, .bool false]) (by simp [results, Tryd.results82, go_sem, x0, x1, x2, x3, OrV.val]) rfl ?_
            exact ⟨⟨0, 0, 0, 0⟩, false, rfl, .inr ⟨rfl, NO.out⟩, B9⟩
        · have hc0b : (c == 0) = false := beq_eq_false_iff_ne.2 hc0
          by_cases hr : R.length = 4
          · obtain ⟨a3, ra3⟩ : ∃ a3, R[3]? = some a3 := ⟨_, List.getElem?_eq_getElem (by omega)⟩
            have z3 : a3.size ≤ 9223372036854775806 := by have := R6.out a3 (List.mem_of_getElem? ra3); omega
            have OW : Hid (Od.ofLine s.data.toList = Od.ofWords [a0.data.toList, a1.data.toList, a2.data.toList, a3.data.toList]) := by
              unfold Hid
              rw [HE.out, ← CL.out (by omega)]
              obtain ⟨r, hR⟩ := list3 RA.out.1 RA.out.2.1 RA.out.2.2
              rw [hR] at hr ra3 ⊢
              match r, hr, ra3 with
              | [d], _, h =>
                simp at h
                subst h
                rfl
            have d0 : w2.cell? ⟨w1.heap.size, 0, none⟩ = some (.string a0) := R5.out 0 a0 RA.out.1
            have d1 : w2.cell? ⟨w1.heap.size, 1, none⟩ = some (.string a1) := R5.out 1 a1 RA.out.2.1
            have d3 : w2.cell? ⟨w1.heap.size, 3, none⟩ = some (.string a3) := R5.out 3 a3 ra3
            have hG : w1.heap.size < w2.heap.size := cell_lt k2
            have PW : Hid (Pw w2 ∧ Sy w2) := ⟨P0.out.1.below B2.out, P0.out.2.1.below B2.out⟩
            have ZW := Z2
            have BW := B2
            have n4 : ((R.length : Nat) : Int) = 4 := by omega
            have n4b : (((R.length : Nat) : Int) == 4) = true := by rw [n4]; rfl
            have i0 : (0 : Int) < ((R.length : Nat) : Int) := by omega
            have i1 : (1 : Int) < ((R.length : Nat) : Int) := by omega
            have i3 : (3 : Int) < ((R.length : Nat) : Int) := by omega
            have HR3 : Hid (R.length = 4) := hr
            clear ra3 hr
            generalize w1.heap.size = G1 at *
            have RN0 : Hid (Calls Tryd.prog 119 #[.string a0, .int .i64 7] w2 (RnumSays 7 a0.data.toList w2)) := rnum_any 7 (by decide) (by decide) a0 w2 (by omega) PW.out.1 PW.out.2
            go_wp2_with fail
            refine RN0.out.mono ?_
            rintro e w7 ⟨x0, b0, rfl, q0, b7⟩
            have Q0 : Hid (Rnum 7 a0.data.toList x0 b0) := q0
            have P7 : Hid (Pw w7 ∧ Sy w7) := ⟨PW.out.1.below b7, PW.out.2.below b7⟩
            have Z7 : Hid (Orb w7 w.heap.size ⟨0, 0, 0, 0⟩) := ZW.out.below b7 ZW.out.lt
            have B7 : Hid (Below w.heap.size w w7) := BW.out.trans (b7.mono BW.out.size)
            have e1 : w7.cell? ⟨G1, 1, none⟩ = some (.string a1) := by rw [b7.cell (p := ⟨G1, 1, none⟩) hG]; exact d1
            have e3 : w7.cell? ⟨G1, 3, none⟩ = some (.string a3) := by rw [b7.cell (p := ⟨G1, 3, none⟩) hG]; exact d3
            have hG7 : G1 < w7.heap.size := Nat.lt_of_lt_of_le hG b7.size
            clear q0 b7 RN0 PW ZW BW d0 d1 d3 hG
            have RN1 : Hid (Calls Tryd.prog 119 #[.string a1, .int .i64 7] w7 (RnumSays 7 a1.data.toList w7)) := rnum_any 7 (by decide) (by decide) a1 w7 (by omega) P7.out.1 P7.out.2
            go_wp2_with fail
            refine RN1.out.mono ?_
            rintro e w8 ⟨x1, b1, rfl, q1, b8⟩
            have Q1 : Hid (Rnum 7 a1.data.toList x1 b1) := q1
            have P8 : Hid (Pw w8 ∧ Sy w8) := ⟨P7.out.1.below b8, P7.out.2.below b8⟩
            have Z8 : Hid (Orb w8 w.heap.size ⟨0, 0, 0, 0⟩) := Z7.out.below b8 Z7.out.lt
            have B8 : Hid (Below w.heap.size w w8) := B7.out.trans (b8.mono B7.out.size)
            have g3 : w8.cell? ⟨G1, 3, none⟩ = some (.string a3) := by rw [b8.cell (p := ⟨G1, 3, none⟩) hG7]; exact e3
            clear q1 b8 RN1 P7 Z7 B7 e1 e3 hG7
            have RN3 : Hid (Calls Tryd.prog 119 #[.string a3, .int .i64 7] w8 (RnumSays 7 (a3 : ByteArray).data.toList w8)) := rnum_any 7 (by decide) (by decide) a3 w8 (by omega) P8.out.1 P8.out.2
            go_wp2_with fail
            refine RN3.out.mono ?_
            rintro e w9 ⟨x3, b3, rfl, q3, b9⟩
            have Z9 : Hid (Orb w9 w.heap.size ⟨0, 0, 0, 0⟩) := Z8.out.below b9 Z8.out.lt
            have B9 : Hid (Below w.heap.size w w9) := B8.out.trans (b9.mono B8.out.size)
            have HH : Hid (((b0 && b1 && b3) = true ∧ Od.ofLine s.data.toList = some ⟨x0, x1, c, x3⟩) ∨ ((b0 && b1 && b3) = false ∧ Od.ofLine s.data.toList = none)) := by
              have h1 := of4 Hu.out hc0 Q0.out Q1.out q3
              rw [← OW.out] at h1
              exact h1
            have z10 := Z9.out.put x0 x1 c x3
            have B10 : Hid (Below w.heap.size w ((((w9.setCell ⟨w.heap.size, 0, none⟩ (.int .i64 x0)).setCell ⟨w.heap.size, 1, none⟩ (.int .i64 x1)).setCell ⟨w.heap.size, 2, none⟩ (.int .i64 c)).setCell ⟨w.heap.size, 3, none⟩ (.int .i64 x3))) := put_below x0 x1 c x3 B9.out (Nat.le_refl _)
            obtain ⟨y0, y1, y2, y3⟩ := Z9.out.cells
            have f0 := Z9.out.thaw 0
            have f1 := Z9.out.thaw 1
            have f2 := Z9.out.thaw 2
            have f3 := Z9.out.thaw 3
            simp only at y0 y1 y2 y3
            clear q3 b9 RN3 P8 Z8 B8 g3
            cases b0 <;> cases b1 <;> cases b3
            all_goals (
              go_wp2
              generalize ((((w9.setCell ⟨w.heap.size, 0, none⟩ (.int .i64 x0)).setCell ⟨w.heap.size, 1, none⟩ (.int .i64 x1)).setCell ⟨w.heap.size, 2, none⟩ (.int .i64 c)).setCell ⟨w.heap.size, 3, none⟩ (.int .i64 x3)) = w10 at *
              clear y0 y1 y2 y3 f0 f1 f2 f3
              obtain ⟨x00, x01, x02, x03⟩ := z10.cells
              first
              | (refine bodyPost_ret (v := .tuple #[OrV.val ⟨x0, x1, c, x3⟩, .bool true]) (by simp [results, Tryd.results82, go_sem, x00, x01, x02, x03, OrV.val]) rfl ?_; exact ⟨_, _, rfl, HH.out, B10⟩)
              | (refine bodyPost_ret (v := .tuple #[OrV.val ⟨x0, x1, c, x3⟩, .bool false]) (by simp [results, Tryd.results82, go_sem, x00, x01, x02, x03, OrV.val]) rfl ?_; exact ⟨_, _, rfl, HH.out, B10⟩))
          · have NO : Hid (Od.ofLine s.data.toList = none) := by
              unfold Hid
              rw [HE.out]
              by_cases h4 : R.length ≤ 4
              · rw [← CL.out h4]
                obtain ⟨r, hR⟩ := list3 RA.out.1 RA.out.2.1 RA.out.2.2
                rw [hR] at hr h4 ⊢
                match r, hr, h4 with
                | [], _, _ => exact of4x Hu.out hc0
                | [d], h, _ => exact absurd rfl h
                | d :: e :: r, _, h => simp at h
              · exact CM.out (by omega)
            have n4 : ¬ ((R.length : Nat) : Int) = 4 := by omega
            have n4b : (((R.length : Nat) : Int) == 4) = false := beq_eq_false_iff_ne.2 n4
            have z9 := Z2.out.put 0 0 0 0
            have B9 : Hid (Below w.heap.size w ((((w2.setCell ⟨w.heap.size, 0, none⟩ (.int .i64 0)).setCell ⟨w.heap.size, 1, none⟩ (.int .i64 0)).setCell ⟨w.heap.size, 2, none⟩ (.int .i64 0)).setCell ⟨w.heap.size, 3, none⟩ (.int .i64 0))) := put_below 0 0 0 0 B2.out (Nat.le_refl _)
            obtain ⟨y0, y1, y2, y3⟩ := Z2.out.cells
            have f0 := Z2.out.thaw 0
            have f1 := Z2.out.thaw 1
            have f2 := Z2.out.thaw 2
            have f3 := Z2.out.thaw 3
            simp only at y0 y1 y2 y3
            go_wp2
            generalize ((((w2.setCell ⟨w.heap.size, 0, none⟩ (.int .i64 0)).setCell ⟨w.heap.size, 1, none⟩ (.int .i64 0)).setCell ⟨w.heap.size, 2, none⟩ (.int .i64 0)).setCell ⟨w.heap.size, 3, none⟩ (.int .i64 0)) = w9 at *
            clear y0 y1 y2 y3 f0 f1 f2 f3
            obtain ⟨x0, x1, x2, x3⟩ := z9.cells
            refine bodyPost_ret (v := .tuple #[OrV.val ⟨0, 0, 0, 0⟩, .bool false]) (by simp [results, Tryd.results82, go_sem, x0, x1, x2, x3, OrV.val]) rfl ?_
            exact ⟨⟨0, 0, 0, 0⟩, false, rfl, .inr ⟨rfl, NO.out⟩, B9⟩
  · have NO : Hid (Od.ofLine s.data.toList = none) := by
      unfold Hid Od.ofLine
      rw [if_neg he]
    clear he
    have z9 := Z2.out.put 0 0 0 0
    have B9 : Hid (Below w.heap.size w ((((w2.setCell ⟨w.heap.size, 0, none⟩ (.int .i64 0)).setCell ⟨w.heap.size, 1, none⟩ (.int .i64 0)).setCell ⟨w.heap.size, 2, none⟩ (.int .i64 0)).setCell ⟨w.heap.size, 3, none⟩ (.int .i64 0))) := put_below 0 0 0 0 B2.out (Nat.le_refl _)
    obtain ⟨y0, y1, y2, y3⟩ := Z2.out.cells
    have f0 := Z2.out.thaw 0
    have f1 := Z2.out.thaw 1
    have f2 := Z2.out.thaw 2
    have f3 := Z2.out.thaw 3
    simp only at y0 y1 y2 y3
    go_wp2
    generalize ((((w2.setCell ⟨w.heap.size, 0, none⟩ (.int .i64 0)).setCell ⟨w.heap.size, 1, none⟩ (.int .i64 0)).setCell ⟨w.heap.size, 2, none⟩ (.int .i64 0)).setCell ⟨w.heap.size, 3, none⟩ (.int .i64 0)) = w9 at *
    clear y0 y1 y2 y3 f0 f1 f2 f3
    obtain ⟨x0, x1, x2, x3⟩ := z9.cells
    refine bodyPost_ret (v := .tuple #[OrV.val ⟨0, 0, 0, 0⟩, .bool false]) (by simp [results, Tryd.results82, go_sem, x0, x1, x2, x3, OrV.val]) rfl ?_
    exact ⟨⟨0, 0, 0, 0⟩, false, rfl, .inr ⟨rfl, NO.out⟩, B9⟩
end Go.Proofs.YtelbdcljdfadbaaDoor

