/- The walk of PathShort. -/
import Derived.Test.YtogdaegnpoknlaaDoorPsL
import Derived.Test.YtogdaegnpoknlaaDoorPwP
import Derived.Test.YtogdaegnpoknlaaDoorPwZ
import Derived.Test.YtogdaegnpoknlaaDoorLitN
import Derived.Test.YtogdaegnpoknlaaDoorFdArgs
import Derived.Test.YtogdaegnpoknlaaDoorFdLaid
import Derived.ProofKit
import Derived.OpenShut
import Derived.IntWalk
import Derived.Deep.RegionHeld3
namespace Go.Proofs.YtogdaegnpoknlaaDoor.pathShort
open Go.RowKit Wy
set_option linter.unusedVariables false

set_option maxRecDepth 100000 in
set_option maxHeartbeats 16000000 in
theorem walk_any (v : Value) (W H : Int) (gs os : List Int) (a t : Int) (fl : Bool) (w : World) (hf : Fl w v W H gs os) (hs : Sd w) :
    Calls Tryd.prog 4 #[v, .int .i64 a, .int .i64 t, .bool fl] w fun e w' => e = .returned (.bool true) ∧ Below w.heap.size w w' := by
  have F0 : Hid (Fl w v W H gs os) := hf
  have S0 : Hid (Sd w) := hs
  obtain ⟨u1, u2, rfl, ⟨a1, c, rfl, c1, c2, -⟩, ⟨b1, d, rfl, d1, d2, -⟩⟩ := hf
  clear hs
  go_enter Tryd.func4, Tryd.ntmps4
  go_wp2_with fail
  have b0 : Below w.heap.size w (w.alloc (Obj.cells #[Value.int IntKind.i64 W, Value.int IntKind.i64 H, Value.slice a1 gs.length c, Value.slice b1 os.length d] 24)) := (Below.refl _ _).alloc (Nat.le_refl _) _
  have X0 := Bf.mk' (w := w) W H (Value.slice a1 gs.length c) (Value.slice b1 os.length d) rfl
  have z0 : (w.alloc (Obj.cells #[Value.int IntKind.i64 W, Value.int IntKind.i64 H, Value.slice a1 gs.length c, Value.slice b1 os.length d] 24)).heap.size = w.heap.size + 1 := by simp
  generalize w.alloc (Obj.cells #[Value.int IntKind.i64 W, Value.int IntKind.i64 H, Value.slice a1 gs.length c, Value.slice b1 os.length d] 24) = w0 at *
  have k1 := (Below.refl w0.heap.size w0).alloc (Nat.le_refl _) (Obj.cells #[Value.int IntKind.i64 0, Value.int IntKind.i64 1, Value.int IntKind.i64 0, Value.int IntKind.i64 0, Value.int IntKind.i64 3, Value.int IntKind.i64 0] 3)
  have l1 : Ro _ (.slice (some ⟨w.heap.size + 1, 0, none⟩) 6 6) [0, 1, 0, 0, 3, 0] := Ro.lit (w := w0) (z := w.heap.size + 1) [0, 1, 0, 0, 3, 0] #[Value.int IntKind.i64 0, Value.int IntKind.i64 1, Value.int IntKind.i64 0, Value.int IntKind.i64 0, Value.int IntKind.i64 3, Value.int IntKind.i64 0] rfl (by decide) z0
  have z1 : (w0.alloc (Obj.cells #[Value.int IntKind.i64 0, Value.int IntKind.i64 1, Value.int IntKind.i64 0, Value.int IntKind.i64 0, Value.int IntKind.i64 3, Value.int IntKind.i64 0] 3)).heap.size = w.heap.size + 1 + 1 := by simp [z0]
  have X1 := X0.below k1 X0.lt
  have b1' := b0.trans (k1.mono b0.size)
  clear b0 X0 z0 k1
  generalize w0.alloc (Obj.cells #[Value.int IntKind.i64 0, Value.int IntKind.i64 1, Value.int IntKind.i64 0, Value.int IntKind.i64 0, Value.int IntKind.i64 3, Value.int IntKind.i64 0] 3) = w1 at *
  have k2 := (Below.refl w1.heap.size w1).alloc (Nat.le_refl _) (Obj.cells #[Value.int IntKind.i64 0, Value.int IntKind.i64 0, Value.int IntKind.i64 0, Value.int IntKind.i64 0, Value.int IntKind.i64 0, Value.int IntKind.i64 0] 3)
  have l2 : Ro _ (.slice (some ⟨w.heap.size + 1 + 1, 0, none⟩) 6 6) [0, 0, 0, 0, 0, 0] := Ro.lit (w := w1) (z := w.heap.size + 1 + 1) [0, 0, 0, 0, 0, 0] #[Value.int IntKind.i64 0, Value.int IntKind.i64 0, Value.int IntKind.i64 0, Value.int IntKind.i64 0, Value.int IntKind.i64 0, Value.int IntKind.i64 0] rfl (by decide) z1
  have l3 := l1.below k2
  have X2 := X1.below k2 X1.lt
  have b2' := b1'.trans (k2.mono b1'.size)
  clear b1' l1 z1 X1 k2
  generalize w1.alloc (Obj.cells #[Value.int IntKind.i64 0, Value.int IntKind.i64 0, Value.int IntKind.i64 0, Value.int IntKind.i64 0, Value.int IntKind.i64 0, Value.int IntKind.i64 0] 3) = w2 at *
  have k3 := (Below.refl w2.heap.size w2).alloc (Nat.le_refl _) (Obj.cells #[Value.int IntKind.i64 3, Value.int IntKind.i64 2, Value.slice (some { block := w.heap.size + 1, off := 0 }) 6 6, Value.slice (some { block := w.heap.size + 1 + 1, off := 0 }) 6 6] 24)
  have B3 : Hid (Below w.heap.size w _) := b2'.trans (k3.mono b2'.size)
  have Fo : Hid (Fl _ (.agg #[Value.int IntKind.i64 3, Value.int IntKind.i64 2, Value.slice (some { block := w.heap.size + 1, off := 0 }) 6 6, Value.slice (some { block := w.heap.size + 1 + 1, off := 0 }) 6 6]) 3 2 [0, 1, 0, 0, 3, 0] [0, 0, 0, 0, 0, 0]) := ⟨_, _, rfl, l3.below k3, l2.below k3⟩
  have X3 : Hid (Bf _ w.heap.size W H (Value.slice a1 gs.length c) (Value.slice b1 os.length d)) := X2.below k3 X2.lt
  clear b2' l2 l3 X2 k3
  generalize w2.alloc (Obj.cells #[Value.int IntKind.i64 3, Value.int IntKind.i64 2, Value.slice (some { block := w.heap.size + 1, off := 0 }) 6 6, Value.slice (some { block := w.heap.size + 1 + 1, off := 0 }) 6 6] 24) = w3 at *
  refine (one_far _ _ Fo.out (S0.out.below B3.out)).mono ?_
  rintro e w4 ⟨u, rfl, hu, k4⟩
  have B4 : Hid (Below w.heap.size w w4) := B3.out.trans (k4.mono B3.out.size)
  have X4 : Hid (Bf w4 w.heap.size W H (.slice a1 gs.length c) (.slice b1 os.length d)) := X3.out.below k4 X3.out.lt
  obtain ⟨pu, qu, rfl, o1, o2, hc⟩ := hu
  obtain ⟨y, rfl, yl, hy⟩ := hc (by simp)
  have y0 : w4.cell? y = some (.int .i64 5) := hy 0 5 rfl
  have y2 : w4.cell? ⟨y.block, y.off + 2, none⟩ = some (.int .i64 0) := hy 2 0 rfl
  simp only [List.length_cons, List.length_nil, Nat.zero_add, Nat.reduceAdd] at o1 ⊢
  obtain ⟨x0, x1, x2, x3⟩ := X4.out
  clear k4 hc hy Fo B3 X3 yl
  go_wp2_with fail
  clear y0 y2 o1 o2 x0 x1 x2 x3
  by_cases hT : Fd.askFault (Fd.fault W H gs os) gs.length [t] = 0
  · obtain ⟨W', H', t', rfl, rfl, rfl, hG, ht⟩ := ask_ok hT
    have G0 : Hid (Fd.Good W' H' gs os) := hG
    have T0 : Hid (t' < W' * H') := ht
    refine (Far_ok _ W' H' gs os t' fl _ (F0.out.below B4.out) (S0.out.below B4.out) G0.out T0.out).mono ?_
    rintro e w5 ⟨uf, l, rfl, hu, hfar, k5⟩
    have B5 : Hid (Below w.heap.size w w5) := B4.out.trans (k5.mono B4.out.size)
    have X5 : Hid (Bf w5 w.heap.size W' H' (.slice a1 gs.length c) (.slice b1 os.length d)) := X4.out.below k5 X4.out.lt
    obtain ⟨n, hn⟩ : ∃ n, W' * H' = n := ⟨_, rfl⟩
    have Hn : Hid (W' * H' = n) := hn
    have n1 : n ≤ 144 := by rw [← hn]; exact hG.pos.2
    have Gl : Hid (gs.length = n) := by unfold Hid; rw [← hn]; exact hG.gl
    obtain ⟨ss, hss⟩ : ∃ ss, (gs.map fun g => Fd.onto g fl) = ss := ⟨_, rfl⟩
    have Hss : Hid ((gs.map fun g => Fd.onto g fl) = ss) := hss
    have E0 : Hid (Even (Fd.near W' H') (fun _ j => ss.getD j 0) n) := by have := even_to (H := H') hG.w1 gs fl; rw [hss, hn] at this; exact this
    rw [hn, hss] at hfar
    have HF : Hid (IsFar (Fd.near W' H') (fun _ j => ss.getD j 0) t' n l) := hfar.1
    have LB : Hid (∀ j, l.getD j 0 ≤ 288) := flat_le hfar.2 hfar.1.1 n1
    have ll : l.length = n := hfar.1.1
    have tn : Hid (t' < n) := by unfold Hid; rw [← hn]; exact ht
    have R5 : Hid (Ro w5 uf l) := hu
    have n0 : 0 < n := by have := tn.out; omega
    obtain ⟨af, cf, rfl, f1, f2, hc⟩ := hu
    obtain ⟨yf, rfl, yfl, hyf⟩ := hc (by intro e; rw [e] at ll; simp at ll; omega)
    have Yf : Hid (yf.block < w5.heap.size ∧ ∀ j, j < n → w5.cell? (yf.add j) = some (.int .i64 (l.getD j 0))) := ⟨yfl, fun j hj => hyf j _ (get_some ll hj)⟩
    rw [ll] at f1 R5 ⊢
    have Ll : Hid (l.length = n) := ll
    clear k5 hfar hG ht hT hn hss hc hyf ll yfl B4 X4
    go_wp2_with fail
    go_loopw [14] (fun i W' => ∃ j : Nat, j ≤ n ∧ i = .int .i64 (j : Nat) ∧ Below w5.heap.size w5 W') (fun i _ => n - (intOf i).toNat)
    case atStart => exact ⟨0, Nat.zero_le _, rfl, Below.refl _ _⟩
    case round =>
      obtain ⟨j, hj, rfl, hb⟩ := hrel
      have BB : Hid (Below w5.heap.size w5 wr) := hb
      have B6 : Hid (Below w.heap.size w wr) := B5.out.trans (hb.mono B5.out.size)
      have X6 : Hid (Bf wr w.heap.size W' H' (.slice a1 gs.length c) (.slice b1 os.length d)) := X5.out.below hb X5.out.lt
      clear hb
      by_cases h0 : j = n
      · subst h0
        obtain ⟨x0, x1, x2, x3⟩ := X6.out
        go_wp2_with fail
        clear x0 x1 x2 x3
        by_cases hA : Fd.askFault (Fd.fault W' H' gs os) gs.length [a, (t' : Int)] = 0
        · obtain ⟨a', ha', han⟩ : ∃ a' : Nat, a = a' ∧ a' < W' * H' := by
            rw [ask_two] at hA
            split at hA
            · rename_i h9
              exact absurd hA h9
            · obtain ⟨W2, H2, a', -, -, h3, -, -⟩ := ask_ok hA
              rw [ask_one_or] at hA
              subst h3
              refine ⟨a', rfl, ?_⟩
              rw [Fd.fault_good G0.out, if_neg (by decide)] at hA
              split at hA
              · rename_i h9
                rw [← G0.out.gl]
                omega
              · omega
          subst ha'
          have HA : Hid (a' < W' * H') := han
          have an : a' < j := by rw [← Hn.out]; exact han
          clear hA han
          refine (Path_ok _ W' H' gs os a' t' fl _ (F0.out.below B6.out) (S0.out.below B6.out) G0.out HA.out T0.out).mono ?_
          rintro e w7 ⟨lp, hlp, he, k7⟩
          rw [Hss.out, Hn.out] at hlp
          rw [Hss.out] at he
          have el := HF.out.uniq hlp.1
          subst el
          have B7 : Hid (Below w.heap.size w w7) := B6.out.trans (k7.mono B6.out.size)
          have X7 : Hid (Bf w7 w.heap.size W' H' (.slice a1 gs.length c) (.slice b1 os.length d)) := X6.out.below k7 X6.out.lt
          have C7 : Hid (Below w5.heap.size w5 w7) := BB.out.trans (k7.mono BB.out.size)
          clear k7 B6 X6 BB hlp
          rcases he with ⟨_, rfl⟩ | ⟨hd0, up, p, rfl, hup, hpp, hpl⟩
          · go_wp2
            go_ret
            exact ⟨rfl, B7⟩
          · have D0 : Hid (0 ≤ l.getD a' 0) := hd0
            have PP : Hid (Pth (Fd.near W' H') ss l t' a' p) := hpp
            have P7 : Hid (Ro w7 up p) := hup
            have pos := hpp.pos
            obtain ⟨ap, cp, rfl, f3, f4, hc⟩ := hup
            obtain ⟨yp, rfl, ypl, hyp⟩ := hc (by intro e; rw [e] at pos; simp at pos)
            have Yp : Hid (yp.block < w7.heap.size ∧ ∀ (k : Nat) x, p[k]? = some x → w7.cell? (yp.add k) = some (.int .i64 x)) := ⟨ypl, hyp⟩
            have Ya : Hid (l.getD a' 0 ≤ 288) := LB.out a'
            clear hd0 hpp hc ypl hyp
            go_wp2_with fail
            go_loopw [22, 23] (fun sv i V => ∃ (k x : Nat) (sm : Int), k + 1 ≤ p.length ∧ i = .int .i64 ((k : Int) + 1) ∧ sv = .int .i64 sm ∧ p[k]? = some (x : Int) ∧ x < j ∧ 0 ≤ l.getD x 0 ∧ 0 ≤ sm ∧ sm + l.getD x 0 = l.getD a' 0 ∧ Below w7.heap.size w7 V) (fun _ i _ => p.length - (intOf i).toNat)
            case atStart => exact ⟨0, a', 0, pos, rfl, rfl, PP.out.head, an, D0, by omega, by omega, Below.refl _ _⟩
            case round =>
              obtain ⟨k, x, sm, hk, rfl, rfl, hx, hxj, hx0, hs0, hsm, hb⟩ := hrel
              have Cx : Hid (p[k]? = some (x : Int)) := hx
              have Sm : Hid (sm + l.getD x 0 = l.getD a' 0 ∧ 0 ≤ l.getD x 0) := ⟨hsm, hx0⟩
              have sb : sm ≤ 288 := by have := Ya.out; omega
              have D8 : Hid (Below w7.heap.size w7 wr) := hb
              have C8 : Hid (Below w5.heap.size w5 wr) := C7.out.trans (hb.mono C7.out.size)
              have B8 : Hid (Below w.heap.size w wr) := B7.out.trans (hb.mono B7.out.size)
              have X8 : Hid (Bf wr w.heap.size W' H' (.slice a1 gs.length c) (.slice b1 os.length d)) := X7.out.below hb X7.out.lt
              clear hx hx0 hsm hb
              by_cases h1 : k + 1 = p.length
              · have ex : x = t' := by
                  have h2 := PP.out.last
                  rw [List.getLast?_eq_getElem?, ← h1, Nat.add_sub_cancel, Cx.out] at h2
                  injection h2 with h2
                  omega
                have Se : Hid (sm = l.getD a' 0) := by
                  have := Sm.out
                  rw [ex, getD_of (HF.out.here tn.out)] at this
                  unfold Hid
                  omega
                clear Sm D8
                obtain ⟨x0, x1, x2, x3⟩ := X8.out
                have h1' : (k : Int) + 1 = (p.length : Int) := by omega
                go_wp2_with fail
                refine (Far_ok _ W' H' gs os t' true _ (F0.out.below B8.out) (S0.out.below B8.out) G0.out T0.out).mono ?_
                rintro e w9 ⟨ua, lt, rfl, hua, hfa, k9⟩
                have E9 : Below w5.heap.size w5 w9 := C8.out.trans (k9.mono C8.out.size)
                have B9 : Hid (Below w.heap.size w w9) := B8.out.trans (k9.mono B8.out.size)
                have ca : w9.cell? (yf.add a') = some (.int .i64 (l.getD a' 0)) := by rw [E9.cell (p := yf.add a') (by rw [add_block]; exact Yf.out.1)]; exact Yf.out.2 a' an
                rw [Hn.out] at hfa
                have hair := far_air (fl := fl) (by rw [Hss.out]; exact HF.out) hfa.1 an D0.out
                have lt1 : lt.length = j := hfa.1.1
                obtain ⟨ac, cc, rfl, f5, f6, hc⟩ := hua
                obtain ⟨ya, rfl, -, hya⟩ := hc (by intro e; rw [e] at lt1; simp at lt1; omega)
                have cb := hya a' _ (get_some lt1 an)
                rw [lt1] at f5 ⊢
                have se := Se.out
                subst se
                clear k9 E9 hfa hc hya lt1 x0 x1 x2 x3 C8 B8 X8 h1 h1' hk Cx ex
                generalize l.getD a' 0 = yv at *
                generalize lt.getD a' 0 = xv at *
                obtain ⟨q1, q2⟩ := hair
                go_wp2
                go_quiet (fail)
                go_wp2
                go_ret
                exact ⟨rfl, below_drewN B9.out _⟩
              · have hk1 : k + 1 < p.length := by omega
                obtain ⟨x', z, p1, p2, hN⟩ := PP.out.two k hk1
                have exx : x' = x := by
                  rw [Cx.out] at p1
                  injection p1 with p1
                  omega
                subst exx
                have is := hN.is
                have zn : z < j := E0.out.lt x' z hxj is.1
                have Cz : Hid (p[k + 1]? = some (z : Int)) := p2
                have Mem : Hid ((z : Int) ∈ Fd.near W' H' x') := is.1
                obtain ⟨m, hm⟩ : ∃ m, ss.getD z 0 = m := ⟨_, rfl⟩
                rw [hm] at is
                have m0 : 0 < m := is.2.1
                have Sn : Hid (sm + m + l.getD z 0 = l.getD a' 0 ∧ 0 ≤ l.getD z 0) := by
                  have := Sm.out
                  have h3 := is.2.2
                  exact ⟨by omega, h3.1⟩
                have m2 : m ≤ 2 := by have := E0.out.two x' z; rw [← hm]; exact this
                have hgl : z < gs.length := by rw [Gl.out]; exact zn
                obtain ⟨g, hg⟩ : ∃ g, gs[z]? = some g := ⟨_, List.getElem?_eq_getElem hgl⟩
                have hon : Fd.onto g fl = m := by rw [← hm, ← Hss.out, List.getD_eq_getElem?_getD, List.getElem?_map, hg]; rfl
                have cz : wr.cell? ⟨yp.block, yp.off + (k + 1), none⟩ = some (.int .i64 (z : Nat)) := by rw [D8.out.cell (p := ⟨yp.block, yp.off + (k + 1), none⟩) Yp.out.1]; exact Yp.out.2 (k + 1) _ p2
                have Ypl : Hid (yp.block < wr.heap.size) := Nat.lt_of_lt_of_le Yp.out.1 D8.out.size
                have CO : Hid (Calls Tryd.prog 16 #[.agg #[.int .i64 W', .int .i64 H', .slice a1 gs.length c, .slice b1 os.length d], .int .i64 (z : Nat), .bool fl] wr.drew fun e w' => e = .returned (.tuple #[.int .i64 m, .nilIface]) ∧ Below wr.heap.size wr w' ∧ w'.cell? ⟨w.heap.size, 0, none⟩ = some (.int .i64 W') ∧ w'.cell? ⟨w.heap.size, 1, none⟩ = some (.int .i64 H') ∧ w'.cell? ⟨w.heap.size, 2, none⟩ = some (.slice a1 gs.length c) ∧ w'.cell? ⟨w.heap.size, 3, none⟩ = some (.slice b1 os.length d) ∧ w'.cell? ⟨yp.block, yp.off + (k + 1), none⟩ = some (.int .i64 (z : Nat))) := by
                  refine (Step_ok _ W' H' gs os z g fl wr.drew ((F0.out.below B8.out).below (Below.refl _ _).drew) G0.out (by rw [Hn.out]; exact zn) hg).mono ?_
                  rintro e w' ⟨h1, h2⟩
                  have h4 : Below wr.heap.size wr w' := ((Below.refl _ _).drew).trans h2
                  obtain ⟨y0, y1, y2, y3⟩ := X8.out.below h4 X8.out.lt
                  exact ⟨by rw [h1, hon], h4, y0, y1, y2, y3, by rw [h4.cell (p := ⟨yp.block, yp.off + (k + 1), none⟩) Ypl.out]; exact cz⟩
                have hk1' : (k : Int) + 1 < (p.length : Int) := by omega
                have k0 : (0 : Int) ≤ (k : Int) + 1 := by omega
                have ktn : ((k : Int) + 1).toNat = k + 1 := by omega
                obtain ⟨x0, x1, x2, x3⟩ := X8.out
                clear hg hon hm hgl p1 p2 hN is Sm h1
                go_wp2_with fail
                go_region_held3 (fun w' => w'.cell? ⟨w.heap.size, 0, none⟩ = some (.int .i64 W') ∧ w'.cell? ⟨w.heap.size, 1, none⟩ = some (.int .i64 H') ∧ w'.cell? ⟨w.heap.size, 2, none⟩ = some (.slice a1 gs.length c) ∧ w'.cell? ⟨w.heap.size, 3, none⟩ = some (.slice b1 os.length d) ∧ w'.cell? ⟨yp.block, yp.off + (k + 1), none⟩ = some (.int .i64 (z : Nat)))
                  (go_keep)
                  ((go_at_call 16; refine Calls.mono CO.out ?_; rintro e w9 ⟨rfl, k9, y0, y1, y2, y3, y4⟩))
                have D9 : Hid (Below w7.heap.size w7 w9) := D8.out.trans (k9.mono D8.out.size)
                have B9 : Hid (Below w.heap.size w w9) := B8.out.trans (k9.mono B8.out.size)
                have X9 : Hid (Bf w9 w.heap.size W' H' (.slice a1 gs.length c) (.slice b1 os.length d)) := X8.out.below k9 X8.out.lt
                have Yp9 : Hid (yp.block < w9.heap.size) := Nat.lt_of_lt_of_le Ypl.out k9.size
                have cx : w9.cell? (yp.add k) = some (.int .i64 (x' : Nat)) := by rw [D9.out.cell (p := yp.add k) (by rw [add_block]; exact Yp.out.1)]; exact Yp.out.2 k _ Cx.out
                clear k9 D8 B8 C8 X8 CO Ypl y0 y1 y2 y3 y4 x0 x1 x2 x3 cz
                have CN : Hid (Calls Tryd.prog 15 #[.agg #[.int .i64 W', .int .i64 H', .slice a1 gs.length c, .slice b1 os.length d], .int .i64 (x' : Nat)] w9.drew fun e w' => ∃ u, e = .returned (.tuple #[u, .nilIface]) ∧ Ro w' u (Fd.near W' H' x') ∧ Below w9.heap.size w9 w' ∧ w'.cell? ⟨w.heap.size, 0, none⟩ = some (.int .i64 W') ∧ w'.cell? ⟨w.heap.size, 1, none⟩ = some (.int .i64 H') ∧ w'.cell? ⟨w.heap.size, 2, none⟩ = some (.slice a1 gs.length c) ∧ w'.cell? ⟨w.heap.size, 3, none⟩ = some (.slice b1 os.length d) ∧ w'.cell? (yp.add k) = some (.int .i64 (x' : Nat))) := by
                  refine (Near_ok _ W' H' gs os x' w9.drew ((F0.out.below B9.out).below (Below.refl _ _).drew) G0.out (by rw [Hn.out]; exact hxj) ((S0.out.below B9.out).below (Below.refl _ _).drew)).mono ?_
                  rintro e w' ⟨u, h1, h2, h3⟩
                  have h4 : Below w9.heap.size w9 w' := ((Below.refl _ _).drew).trans h3
                  obtain ⟨y0, y1, y2, y3⟩ := X9.out.below h4 X9.out.lt
                  exact ⟨u, h1, h2, h4, y0, y1, y2, y3, by rw [h4.cell (p := yp.add k) (by rw [add_block]; exact Yp9.out)]; exact cx⟩
                obtain ⟨x0, x1, x2, x3⟩ := X9.out
                have k00 : (0 : Int) ≤ (k : Int) := by omega
                have k01 : (k : Int) < (p.length : Int) := by omega
                have ksub : (k : Int) + 1 - 1 = (k : Int) := by omega
                have kb : k ≤ 1000 := by omega
                have kwr : IntKind.i64.wrap (k : Int) = (k : Int) := by rw [IntKind.wrap_i64]; omega
                go_wp2_with fail
                go_region_held3 (fun w' => w'.cell? ⟨w.heap.size, 0, none⟩ = some (.int .i64 W') ∧ w'.cell? ⟨w.heap.size, 1, none⟩ = some (.int .i64 H') ∧ w'.cell? ⟨w.heap.size, 2, none⟩ = some (.slice a1 gs.length c) ∧ w'.cell? ⟨w.heap.size, 3, none⟩ = some (.slice b1 os.length d) ∧ w'.cell? (yp.add k) = some (.int .i64 (x' : Nat)))
                  (go_keep)
                  ((go_at_call 15; refine Calls.mono CN.out ?_; rintro e v1 ⟨u, rfl, hu, k10, y0, y1, y2, y3, y4⟩))
                have D10 : Hid (Below w7.heap.size w7 v1) := D9.out.trans (k10.mono D9.out.size)
                have U10 : Hid (Ro v1 u (Fd.near W' H' x')) := hu
                have cz : v1.cell? ⟨yp.block, yp.off + (k + 1), none⟩ = some (.int .i64 (z : Nat)) := by rw [D10.out.cell (p := ⟨yp.block, yp.off + (k + 1), none⟩) Yp.out.1]; exact Yp.out.2 (k + 1) _ Cz.out
                obtain ⟨an', cn, rfl, e1, e2, -⟩ := hu
                have L4 : (Fd.near W' H' x').length ≤ 4 := Fd.near_len W' H' x'
                clear k10 D9 B9 X9 CN Yp9 y0 y1 y2 y3 y4 x0 x1 x2 x3 cx
                generalize Fd.near W' H' x' = ms at *
                go_wp2_with fail
                go_loopw [28, 29] (fun b i V => ∃ q r : Nat, q ≤ ms.length ∧ i = .int .i64 (q : Nat) ∧ b = .bool ((ms.take q).any (· == (z : Int))) ∧ V = v1.drewN r) (fun _ i _ => ms.length - (intOf i).toNat)
                case atStart => exact ⟨0, 0, Nat.zero_le _, rfl, rfl, rfl⟩
                case round =>
                  obtain ⟨q, r, hq, rfl, rfl, rfl⟩ := hrel
                  by_cases h1 : q = ms.length
                  · subst h1
                    have e1 : (List.take ms.length ms).any (· == (z : Int)) = true := by
                      rw [List.take_of_length_le (Nat.le_refl _), List.any_eq_true]
                      exact ⟨_, Mem.out, by simp⟩
                    rw [e1]
                    clear e1
                    have m1 : ¬ m < 1 := by omega
                    have D11 : Hid (Below w7.heap.size w7 (v1.drewN r)) := below_drewN D10.out _
                    generalize v1.drewN r = v2 at *
                    clear D10 U10 cz
                    go_wp2
                    go_round
                    case rel => exact ⟨k + 1, z, sm + m, by omega, by go_num, rfl, Cz, zn, Sn.out.2, by omega, Sn.out.1, D11⟩
                    case measure => simp [intOf]; omega
                  · have hql : q < ms.length := by omega
                    obtain ⟨a4, c4, e4, -, -, ca⟩ := U10.out
                    injection e4 with e5 e6 e7
                    subst e5
                    obtain ⟨yn, rfl, -, hy⟩ := ca (by intro h; rw [h] at hql; simp at hql)
                    have cq : (v1.drewN r).cell? (yn.add q) = some (.int .i64 ms[q]) := hy q _ (List.getElem?_eq_getElem hql)
                    have cz' : (v1.drewN r).cell? ⟨yp.block, yp.off + (k + 1), none⟩ = some (.int .i64 (z : Nat)) := cz
                    have As : Hid ((ms.take (q + 1)).any (· == (z : Int)) = ((ms.take q).any (· == (z : Int)) || (ms[q] == (z : Int)))) := any_next (p := (· == (z : Int))) hql
                    have Q : Hid (∀ n, (v1.drewN r).drewN n = v1.drewN (r + n)) := fun n => by rw [World.drewN_drewN]
                    generalize ms[q] = mq at *
                    generalize v1.drewN r = v2 at *
                    clear hy ca e6 e7 cz
                    cases hb : (ms.take q).any (· == (z : Int)) with
                    | true =>
                      rw [hb] at As
                      have As' : Hid ((ms.take (q + 1)).any (· == (z : Int)) = true) := by unfold Hid; rw [As.out]; rfl
                      clear As
                      go_wp2
                      go_quiet (fail)
                      go_wp2
                      go_round
                      case rel => exact ⟨q + 1, r + nq, by omega, by go_num, by rw [As'.out], Q.out _⟩
                      case measure => simp [intOf]; omega
                    | false =>
                      rw [hb] at As
                      have As' : Hid ((ms.take (q + 1)).any (· == (z : Int)) = (mq == (z : Int))) := by unfold Hid; rw [As.out]; rfl
                      clear As
                      go_wp2
                      go_quiet (fail)
                      go_wp2
                      go_round
                      case rel => exact ⟨q + 1, r + nq, by omega, by go_num, by rw [As'.out], Q.out _⟩
                      case measure => simp [intOf]; omega
        · have HA : Hid (Fd.askFault (Fd.fault W' H' gs os) gs.length [a, (t' : Int)] ≠ 0) := hA
          clear hA
          refine (Path_bad _ W' H' gs os a (t' : Int) _ fl _ (F0.out.below B6.out) (S0.out.below B6.out) rfl HA.out).mono ?_
          rintro e w7 ⟨rfl, k7⟩
          have B7 : Hid (Below w.heap.size w w7) := B6.out.trans (k7.mono B6.out.size)
          clear k7
          go_wp2
          go_ret
          exact ⟨rfl, B7⟩
      · have hjn : j < n := by omega
        obtain ⟨x0, x1, x2, x3⟩ := X6.out
        go_wp2_with fail
        refine (Near_ok _ W' H' gs os j _ (F0.out.below B6.out) G0.out (by rw [Hn.out]; exact hjn) (S0.out.below B6.out)).mono ?_
        rintro e w7 ⟨u, rfl, hu, k7⟩
        have C7 : Hid (Below w5.heap.size w5 w7) := BB.out.trans (k7.mono BB.out.size)
        have B7 : Hid (Below w.heap.size w w7) := B6.out.trans (k7.mono B6.out.size)
        have X7 : Hid (Bf w7 w.heap.size W' H' (.slice a1 gs.length c) (.slice b1 os.length d)) := X6.out.below k7 X6.out.lt
        have U7 : Hid (Ro w7 u (Fd.near W' H' j)) := hu
        obtain ⟨an, cn, rfl, e1, e2, -⟩ := hu
        have L4 : (Fd.near W' H' j).length ≤ 4 := Fd.near_len W' H' j
        clear k7 B6 X6 BB x0 x1 x2 x3
        go_wp2_with fail
        go_loopw [17] (fun i V => ∃ q : Nat, q ≤ (Fd.near W' H' j).length ∧ i = .int .i64 (q : Nat) ∧ Below w7.heap.size w7 V) (fun i _ => (Fd.near W' H' j).length - (intOf i).toNat)
        case atStart => exact ⟨0, Nat.zero_le _, rfl, Below.refl _ _⟩
        case round =>
          obtain ⟨q, hq, rfl, hb⟩ := hrel
          have D : Hid (Below w7.heap.size w7 wr) := hb
          have C8 : Hid (Below w5.heap.size w5 wr) := C7.out.trans (hb.mono C7.out.size)
          have B8 : Hid (Below w.heap.size w wr) := B7.out.trans (hb.mono B7.out.size)
          have X8 : Hid (Bf wr w.heap.size W' H' (.slice a1 gs.length c) (.slice b1 os.length d)) := X7.out.below hb X7.out.lt
          have U8 : Hid (Ro wr (.slice an (Fd.near W' H' j).length cn) (Fd.near W' H' j)) := U7.out.below hb
          clear hb
          by_cases h1 : q = (Fd.near W' H' j).length
          · subst h1
            go_wp2
            go_round
            case rel => exact ⟨j + 1, by omega, by go_num, C8⟩
            case measure => simp [intOf]; omega
          · have hql : q < (Fd.near W' H' j).length := by omega
            obtain ⟨z, hz, zn, -⟩ := E0.out.cell j _ hjn (List.getElem_mem hql)
            have Hz : Hid ((Fd.near W' H' j)[q]? = some (z : Int)) := by unfold Hid; rw [List.getElem?_eq_getElem hql, hz]
            clear hz
            obtain ⟨a4, c4, e4, -, -, ca⟩ := U8.out
            injection e4 with e5 e6 e7
            subst e5
            obtain ⟨yn, rfl, hyl, hy⟩ := ca (by intro h; rw [h] at hql; simp at hql)
            have cj := hy q _ Hz.out
            have Yl : Hid (yn.block < wr.heap.size) := hyl
            clear hy e6 e7 ca hyl
            have hgl : z < gs.length := by rw [Gl.out]; exact zn
            obtain ⟨g, hg⟩ : ∃ g, gs[z]? = some g := ⟨_, List.getElem?_eq_getElem hgl⟩
            obtain ⟨m, hm⟩ : ∃ m, ss.getD z 0 = m := ⟨_, rfl⟩
            have hon : Fd.onto g fl = m := by rw [← hm, ← Hss.out, List.getD_eq_getElem?_getD, List.getElem?_map, hg]; rfl
            have HD : Hid (ss.getD z 0 = m) := hm
            have l2 : m ≤ 2 := by have := E0.out.two j z; rw [← hm]; exact this
            have CO : Hid (Calls Tryd.prog 16 #[.agg #[.int .i64 W', .int .i64 H', .slice a1 gs.length c, .slice b1 os.length d], .int .i64 (z : Nat), .bool fl] wr.drew fun e w' => e = .returned (.tuple #[.int .i64 m, .nilIface]) ∧ Below wr.heap.size wr w' ∧ w'.cell? ⟨w.heap.size, 0, none⟩ = some (.int .i64 W') ∧ w'.cell? ⟨w.heap.size, 1, none⟩ = some (.int .i64 H') ∧ w'.cell? ⟨w.heap.size, 2, none⟩ = some (.slice a1 gs.length c) ∧ w'.cell? ⟨w.heap.size, 3, none⟩ = some (.slice b1 os.length d) ∧ w'.cell? (yn.add q) = some (.int .i64 (z : Nat))) := by
              refine (Step_ok _ W' H' gs os z g fl wr.drew ((F0.out.below B8.out).below (Below.refl _ _).drew) G0.out (by rw [Hn.out]; exact zn) hg).mono ?_
              rintro e w' ⟨h1, h2⟩
              have h4 : Below wr.heap.size wr w' := ((Below.refl _ _).drew).trans h2
              obtain ⟨y0, y1, y2, y3⟩ := X8.out.below h4 X8.out.lt
              exact ⟨by rw [h1, hon], h4, y0, y1, y2, y3, by rw [h4.cell (p := yn.add q) (by rw [add_block]; exact Yl.out)]; exact cj⟩
            obtain ⟨x0, x1, x2, x3⟩ := X8.out
            have Sh : Hid (0 < m → 0 ≤ l.getD z 0 → 0 ≤ l.getD j 0 ∧ l.getD j 0 ≤ m + l.getD z 0) := fun p0 p1 => by
              have h9 : 0 ≤ l.getD j 0 ∧ l.getD j 0 ≤ ss.getD z 0 + l.getD z 0 := HF.out.shut j z _ _ (get_some Ll.out hjn) (get_some Ll.out zn) (List.mem_of_getElem? Hz.out) (by show 0 < ss.getD z 0; rw [HD.out]; exact p0) p1
              rw [HD.out] at h9
              exact h9
            clear hg hon hm hgl U8
            go_wp2_with fail
            go_region_held3 (fun w' => w'.cell? ⟨w.heap.size, 0, none⟩ = some (.int .i64 W') ∧ w'.cell? ⟨w.heap.size, 1, none⟩ = some (.int .i64 H') ∧ w'.cell? ⟨w.heap.size, 2, none⟩ = some (.slice a1 gs.length c) ∧ w'.cell? ⟨w.heap.size, 3, none⟩ = some (.slice b1 os.length d) ∧ w'.cell? (yn.add q) = some (.int .i64 (z : Nat)))
              (go_keep)
              ((go_at_call 16; refine Calls.mono CO.out ?_; rintro e w9 ⟨rfl, k9, y0, y1, y2, y3, y4⟩))
            have C9 : Hid (Below w7.heap.size w7 w9) := D.out.trans (k9.mono D.out.size)
            have E9 : Below w5.heap.size w5 w9 := C8.out.trans (k9.mono C8.out.size)
            have cd : w9.cell? (yf.add z) = some (.int .i64 (l.getD z 0)) := by rw [E9.cell (p := yf.add z) (by rw [add_block]; exact Yf.out.1)]; exact Yf.out.2 z zn
            have ce : w9.cell? (yf.add j) = some (.int .i64 (l.getD j 0)) := by rw [E9.cell (p := yf.add j) (by rw [add_block]; exact Yf.out.1)]; exact Yf.out.2 j hjn
            have yb := LB.out z
            have xb := LB.out j
            clear k9 E9 D C8 B8 X8 CO Yl x0 x1 x2 x3 y0 y1 y2 y3 HD
            generalize l.getD z 0 = yv at *
            generalize l.getD j 0 = xv at *
            by_cases h2 : 0 < m
            · by_cases h3 : 0 ≤ yv
              · obtain ⟨s1, s2⟩ := Sh.out h2 h3
                have s1' : ¬ xv < 0 := by omega
                have s2' : ¬ m + yv < xv := by omega
                clear Sh
                go_wp2
                go_round
                case rel => exact ⟨q + 1, by omega, by go_num, C9⟩
                case measure => simp [intOf]; omega
              · clear Sh
                go_wp2
                go_round
                case rel => exact ⟨q + 1, by omega, by go_num, C9⟩
                case measure => simp [intOf]; omega
            · clear Sh
              go_wp2
              go_round
              case rel => exact ⟨q + 1, by omega, by go_num, C9⟩
              case measure => simp [intOf]; omega
  · refine (Far_bad _ W H gs os t _ fl _ (F0.out.below B4.out) (S0.out.below B4.out) rfl hT).mono ?_
    rintro e w5 ⟨rfl, k5⟩
    have B5 : Hid (Below w.heap.size w w5) := B4.out.trans (k5.mono B4.out.size)
    clear k5 hT
    go_wp2
    go_ret
    exact ⟨rfl, B5⟩

theorem walk (v0 : Value) (W0 H0 : Int) (gs0 os0 : List Int) (a1 a2 : Int) (a3 : Bool) (w : World) (f0 : Fl w v0 W0 H0 gs0 os0) (_ : (Lit.int .i64 a1).wf = true) (_ : (Lit.int .i64 a2).wf = true) (hs : Sd w) :
    Calls Tryd.prog 4 #[v0, .int .i64 a1, .int .i64 a2, .bool a3] w fun e w' => e = .returned (.bool true) ∧ Below w.heap.size w w' := walk_any v0 W0 H0 gs0 os0 a1 a2 a3 w f0 hs
end Go.Proofs.YtogdaegnpoknlaaDoor.pathShort
