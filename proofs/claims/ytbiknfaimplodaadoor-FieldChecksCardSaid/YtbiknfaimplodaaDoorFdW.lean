/- Fields: Print. -/
import Derived.Test.YtbiknfaimplodaaDoorFdText
import Derived.Test.YtbiknfaimplodaaDoorFdC
import Derived.Test.YtbiknfaimplodaaDoorFdOwn
import Derived.Deep.RegionHeld3
import Derived.Deep.AppendLies
import Derived.StillTactics
import Derived.Laws.Pointers
import Derived.Laws.IdiomStrings
namespace Go.Proofs.YtbiknfaimplodaaDoor
open Go.RowKit
set_option linter.unusedVariables false

/-- the bytes of a list, as cells. -/
def byteCells (l : List UInt8) : List Value := l.map fun b => .int .u8 (b.toNat : Nat)
theorem info_byte : (Tryd.prog.info? 5).map (fun i => (i.zero, i.size, i.bytes)) = some (some (.int .u8 0), 1, 1) := by kernel_rfl
/-- v is a slice of the bytes l, in a block of its own from base on. -/
def Ob (w : World) (base : Nat) (v : Value) (l : List UInt8) : Prop := w.ownsRow base 5 1 v l.length (byteCells l)
theorem Ob.nil (w : World) (base : Nat) : Ob w base (.slice none 0 0) [] := World.ownsRow_nil _ _ _ _
theorem Ob.alloc {w : World} {base : Nat} {v : Value} {l : List UInt8} (h : Ob w base v l) (o : Obj) : Ob (w.alloc o) base v l := World.ownsRow.alloc h o
theorem Ob.drew {w : World} {base : Nat} {v : Value} {l : List UInt8} (h : Ob w base v l) : Ob w.drew base v l := h
theorem Ob.block {w : World} {base : Nat} {v : Value} {l : List UInt8} (h : Ob w base v l) : ∀ k, v.ownBlock = some k → base ≤ k ∧ k < w.heap.size := World.ownsRow.lt h

set_option maxHeartbeats 1000000 in
/-- the sign of a cell. -/
theorem sign_any (g o : Int) (w : World) (g0 : 0 ≤ g) (g3 : g ≤ 3) (o0 : 0 ≤ o) (o1 : o ≤ 1000000) :
    Calls Tryd.prog 20 #[.int .i64 g, .int .i64 o] w fun e w' => e = .returned (.int .u8 ((Fd.sgn g o).toNat : Nat)) ∧ w' = w := by
  by_cases h0 : o = 0
  · subst h0
    have E : Hid (Fd.sgn g 0 = Fd.gsign g) := rfl
    have hg : g = 0 ∨ g = 1 ∨ g = 2 ∨ g = 3 := by omega
    rcases hg with rfl | rfl | rfl | rfl
    all_goals
      go_enter Tryd.func20, Tryd.ntmps20
      go_wp2
      go_ret
      exact ⟨rfl, rfl⟩
  · by_cases h1 : o % 10 = 0 ∧ o ≤ 90
    · obtain ⟨h1a, h1b⟩ := h1
      have ho : o = 10 ∨ o = 20 ∨ o = 30 ∨ o = 40 ∨ o = 50 ∨ o = 60 ∨ o = 70 ∨ o = 80 ∨ o = 90 := by omega
      clear h1a h1b h0
      rcases ho with rfl | rfl | rfl | rfl | rfl | rfl | rfl | rfl | rfl
      all_goals
        go_enter Tryd.func20, Tryd.ntmps20
        go_wp2
        go_ret
        exact ⟨rfl, rfl⟩
    · have E : Hid (Fd.sgn g o = 43) := by unfold Hid Fd.sgn; rw [if_neg h0, if_neg h1]
      by_cases h2 : o % 10 = 0
      · have h3 : ¬ o ≤ 90 := fun h => h1 ⟨h2, h⟩
        clear h1
        go_enter Tryd.func20, Tryd.ntmps20
        go_wp2
        go_ret
        exact ⟨by rw [E.out]; rfl, rfl⟩
      · clear h1
        go_enter Tryd.func20, Tryd.ntmps20
        go_wp2
        go_ret
        exact ⟨by rw [E.out]; rfl, rfl⟩

theorem ask0 (F : Int) (n : Nat) : Fd.askFault F n [] = F := by
  unfold Fd.askFault
  by_cases h : F ≠ 0
  · rw [if_pos h]
  · rw [if_neg h]
    simp
    omega
theorem ro_none (w : World) : Ro w (.slice none 0 0) [] := ⟨none, 0, rfl, Nat.le_refl _, by omega, fun h => absurd rfl h⟩

set_option maxHeartbeats 1000000 in
theorem print_bad (v : Value) (W H : Int) (gs os : List Int) (F : Int) (w : World) (h : Fl w v W H gs os) (hF : Fd.fault W H gs os = F) (h0 : F ≠ 0) :
    Calls Tryd.prog 9 #[v] w fun e w' => e = .returned (.tuple #[.string ⟨#[]⟩, .iface 43 (.int .i64 F)]) ∧ Below w.heap.size w w' := by
  have F0 : Hid (Fl w v W H gs os) := h
  have HF : Hid (Fd.fault W H gs os = F) := hF
  have H0 : Hid (F ≠ 0) := h0
  obtain ⟨u1, u2, rfl, ⟨a1, c, rfl, c1, c2, ca⟩, ⟨b1, d, rfl, d1, d2, cb⟩⟩ := h
  clear hF h0 ca cb
  go_enter Tryd.func9, Tryd.ntmps9
  go_wp2_with fail
  refine (ask_any _ _ W H gs os [] _ (F0.out.below ((Below.refl _ _).alloc (Nat.le_refl _) _)) (ro_none _)).mono ?_
  rintro e w1 ⟨v1, rfl, hv, hb⟩
  have B1 : Hid (Below w.heap.size w w1) := ((Below.refl _ _).alloc (Nat.le_refl _) _).trans (hb.mono (by simp))
  rw [ask0, HF.out] at hv
  clear hb
  rcases hv with ⟨hz, rfl⟩ | ⟨hz, rfl⟩
  · exact absurd hz H0.out
  · clear hz
    go_wp2
    go_ret2
    exact ⟨rfl, B1⟩

theorem byteCells_snoc (l : List UInt8) (b : UInt8) : byteCells (l ++ [b]) = byteCells l ++ [.int .u8 (b.toNat : Nat)] := by simp [byteCells]

theorem Ob.len {w : World} {base : Nat} {v : Value} {l : List UInt8} (h : Ob w base v l) : ∃ a c, v = .slice a l.length c := by
  rcases h.2 with ⟨hv, h0⟩ | ⟨g, cap, cur, hv, _⟩
  · exact ⟨none, 0, by rw [hv, h0]⟩
  · exact ⟨_, _, hv⟩
theorem Ob.text {w : World} {base : Nat} {v : Value} {l : List UInt8} (h : Ob w base v l) (hl : 0 < l.length) :
    ∃ g cap, v = .slice (some ⟨g, 0, none⟩) l.length cap ∧ ∀ j (hj : j < l.length), w.cell? ((⟨g, 0, none⟩ : Addr).add j) = some (.int .u8 (l[j].toNat : Int)) := by
  obtain ⟨g, cap, hv, -, -⟩ := World.ownsRow.form h hl
  refine ⟨g, cap, hv, fun j hj => ?_⟩
  subst hv
  rw [Addr.add_lit, Nat.zero_add, World.ownsRow.cellAt h j (by omega)]
  simp [byteCells, List.getElem?_eq_getElem hj]
theorem kept_inv {w wr W2 w5 : World} {v : Value} {l : List UInt8} {W H : Int} {u1 u2 : Value} (O : Ob wr (w.heap.size + 1) v l) (X : Bf wr w.heap.size W H u1 u2) (B : Below w.heap.size w wr) (h2 : Below wr.heap.size wr W2) (hg : W2.grownBy w5 v.ownBlock) :
    Bf w5 w.heap.size W H u1 u2 ∧ Below w.heap.size w w5 := by
  have hob : ∀ k, v.ownBlock = some k → w.heap.size + 1 ≤ k := fun k hk => (O.block k hk).1
  have z := X.lt
  have z2 := h2.size
  have X2 : Bf W2 w.heap.size W H u1 u2 := X.below h2 z
  have hne : some w.heap.size ≠ v.ownBlock := fun e => by have := hob _ e.symm; omega
  refine ⟨⟨?_, ?_, ?_, ?_⟩, (B.trans (h2.mono (by omega))).grown hg (by omega) (fun k hk => by have := hob k hk; omega)⟩
  · rw [hg.cell_far ⟨w.heap.size, 0, none⟩ (by show w.heap.size < _; omega) hne]; exact X2.c0
  · rw [hg.cell_far ⟨w.heap.size, 1, none⟩ (by show w.heap.size < _; omega) hne]; exact X2.c1
  · rw [hg.cell_far ⟨w.heap.size, 2, none⟩ (by show w.heap.size < _; omega) hne]; exact X2.c2
  · rw [hg.cell_far ⟨w.heap.size, 3, none⟩ (by show w.heap.size < _; omega) hne]; exact X2.c3
theorem step_app_byte {ops : Array Oper} {o : Oper} {a : Act} {K : Act → World → Prop} {Q : Exit → Act → World → Prop} {E : Prop} (w : World) (hgd : o.guard = none) (s x : Operand)
    (ho : o.op = .call { callee := .builtin .append, args := #[s, x], argTypes := #[48, 48] }) (base : Nat) (v : Value) (l : List UInt8) (hs : a.eval s = v) (hown : Ob w base v l)
    (ad : Addr) (b : UInt8) (hx : a.eval x = .slice (some ad) 1 1) (hd : w.cell? ad = some (.int .u8 (b.toNat : Nat))) (hl : l.length ≤ 1000000) (hbase : base ≤ w.heap.size)
    (h : ∀ g cap w', Ob w' base (.slice (some ⟨g, 0, none⟩) (l.length + 1) cap) (l ++ [b]) → w.grownBy w' v.ownBlock → g < w'.heap.size → K (a.put o.dst (.slice (some ⟨g, 0, none⟩) (l.length + 1) cap)) w') :
    if Region.wanted o (yielded ops a.tmps) = true then Oper.wp Tryd.prog o a w K Q else E := by
  obtain ⟨i0, hi, hz0, hz1, hz2⟩ := info_parts info_byte
  refine step_append_lies w hgd s x 48 ho base 5 i0 (.int .u8 0) 1 1 Tryd.underlying48 hi hz0 hz1 hz2 rfl (by decide) v l.length _ hs hown ad 1 1 [.int .u8 (b.toNat : Nat)] hx rfl ?_ ?_ (by decide) (by unfold maxLen; omega) (by omega) hbase _ rfl ?_
  · intro j u hj
    match j, hj with
    | 0, hj => simp at hj; subst hj; exact hd
  · intro u hu
    simp at hu
    subst hu
    rfl
  · intro g cap w' h1 h2 h3 h4
    refine h g cap w' ?_ h2 h4
    unfold Ob
    rw [List.length_append, byteCells_snoc]
    exact h1
theorem app_byte {ops : Array Oper} {rest : List Oper} {o : Oper} {a : Act} {Q : Exit → Act → World → Prop} (w : World) (hgd : o.guard = none) (s x : Operand)
    (ho : o.op = .call { callee := .builtin .append, args := #[s, x], argTypes := #[48, 48] }) (base : Nat) (v : Value) (l : List UInt8) (hs : a.eval s = v) (hown : Ob w base v l)
    (ad : Addr) (b : UInt8) (hx : a.eval x = .slice (some ad) 1 1) (hd : w.cell? ad = some (.int .u8 (b.toNat : Nat))) (hl : l.length ≤ 1000000) (hbase : base ≤ w.heap.size)
    (h : ∀ g cap w', Ob w' base (.slice (some ⟨g, 0, none⟩) (l.length + 1) cap) (l ++ [b]) → w.grownBy w' v.ownBlock → g < w'.heap.size → wpList Tryd.prog ops Q rest (a.put o.dst (.slice (some ⟨g, 0, none⟩) (l.length + 1) cap)) w') :
    wpList Tryd.prog ops Q (o :: rest) a w := by
  obtain ⟨i0, hi, hz0, hz1, hz2⟩ := info_parts info_byte
  refine wpList_append_lies w hgd s x 48 ho base 5 i0 (.int .u8 0) 1 1 Tryd.underlying48 hi hz0 hz1 hz2 rfl (by decide) v l.length _ hs hown ad 1 1 [.int .u8 (b.toNat : Nat)] hx rfl ?_ ?_ (by decide) (by unfold maxLen; omega) (by omega) hbase _ rfl ?_
  · intro j u hj
    match j, hj with
    | 0, hj => simp at hj; subst hj; exact hd
  · intro u hu
    simp at hu
    subst hu
    rfl
  · intro g cap w' h1 h2 h3 h4
    refine h g cap w' ?_ h2 h4
    unfold Ob
    rw [List.length_append, byteCells_snoc]
    exact h1

set_option maxRecDepth 100000 in
set_option maxHeartbeats 4000000 in
theorem print_ok (v : Value) (W H : Nat) (gs os : List Int) (w : World) (h : Fl w v W H gs os) (G : Fd.Good W H gs os) :
    Calls Tryd.prog 9 #[v] w fun e w' => e = .returned (.tuple #[.string ⟨(Fd.prt W H gs os).toArray⟩, .nilIface]) ∧ Below w.heap.size w w' := by
  have F0 : Hid (Fl w v W H gs os) := h
  have HG : Hid (Fd.Good W H gs os) := G
  have W1 := G.w1
  have W2 := G.w2
  have H1 := G.h1
  have H2 := G.h2
  have gl : Hid (gs.length = W * H) := G.gl
  have ol : Hid (os.length = W * H) := G.ol
  have gp := G.pos
  have HF : Hid (Fd.fault W H gs os = 0) := Fd.fault_good G
  obtain ⟨u1, u2, rfl, ⟨a1, c, rfl, c1, c2, ca⟩, ⟨b1, d, rfl, d1, d2, cb⟩⟩ := h
  obtain ⟨x, rfl, xl, hx⟩ := ca (by intro e; have := gl.out; rw [e] at this; simp only [List.length_nil] at this; omega)
  obtain ⟨y, rfl, yl, hy⟩ := cb (by intro e; have := ol.out; rw [e] at this; simp only [List.length_nil] at this; omega)
  have Cx : Hid (x.block < w.heap.size ∧ ∀ i d, gs[i]? = some d → w.cell? (x.add i) = some (.int .i64 d)) := ⟨xl, hx⟩
  have Cy : Hid (y.block < w.heap.size ∧ ∀ i d, os[i]? = some d → w.cell? (y.add i) = some (.int .i64 d)) := ⟨yl, hy⟩
  clear ca cb hx hy xl yl G
  go_enter Tryd.func9, Tryd.ntmps9
  go_wp2_with fail
  refine (ask_any _ _ W H gs os [] _ (F0.out.below ((Below.refl _ _).alloc (Nat.le_refl _) _)) (ro_none _)).mono ?_
  rintro e w1 ⟨v1, rfl, hv, hb⟩
  have B1 : Hid (Below w.heap.size w w1) := ((Below.refl _ _).alloc (Nat.le_refl _) _).trans (hb.mono (by simp))
  have X1 : Hid (Bf w1 w.heap.size W H (Value.slice (some x) gs.length c) (Value.slice (some y) os.length d)) := (Bf.mk' (w := w) W H (Value.slice (some x) gs.length c) (Value.slice (some y) os.length d) rfl).below hb (by simp)
  rw [ask0, HF.out] at hv
  clear hb F0 HF
  rcases hv with ⟨hz, rfl⟩ | ⟨hz, rfl⟩
  · clear hz
    obtain ⟨x0, x1, x2, x3⟩ := X1.out
    go_wp2_with fail
    clear x0 x1 x2 x3
    go_loopw [5, 16] (fun v i W' => ∃ r : Nat, r ≤ H ∧ i = .int .i64 (r : Nat) ∧ Ob W' (w.heap.size + 1) v (Fd.rowsTo W gs os r) ∧ Bf W' w.heap.size W H (Value.slice (some x) gs.length c) (Value.slice (some y) os.length d) ∧ Below w.heap.size w W') (fun _ i _ => H - (intOf i).toNat)
    case atStart => exact ⟨0, Nat.zero_le _, rfl, Ob.nil _ _, X1, B1⟩
    case round =>
      obtain ⟨r, hr, rfl, ho, hX, hB⟩ := hrel
      have O : Hid (Ob wr (w.heap.size + 1) u5 (Fd.rowsTo W gs os r)) := ho
      have X : Hid (Bf wr w.heap.size W H (Value.slice (some x) gs.length c) (Value.slice (some y) os.length d)) := hX
      have B : Hid (Below w.heap.size w wr) := hB
      clear ho hX hB X1 B1
      obtain ⟨x0, x1, x2, x3⟩ := X.out
      by_cases h0 : r = H
      · subst h0
        have hlen : Hid (0 < (Fd.rowsTo W gs os r).length) := by
          unfold Hid
          rw [Fd.rowsTo_len]
          exact Nat.mul_pos (by omega) (by omega)
        obtain ⟨g, cap, rfl, hc⟩ := O.out.text hlen.out
        have hcv := run_convert_bytes_back (P := Tryd.prog) wr 48 9 5 ⟨g, 0, none⟩ cap _ Tryd.underlying48 Tryd.underlying5 Tryd.underlying9 hc
        have P : Hid (Fd.prt W r gs os = Fd.rowsTo W gs os r) := rfl
        generalize Fd.rowsTo W gs os r = tx at *
        clear x0 x1 x2 x3 hc
        go_wp2
        go_ret2
        refine ⟨?_, B⟩
        rw [P.out]
        rfl
      · have hrH : r < H := by omega
        go_wp2_with fail
        clear x0 x1 x2 x3
        have E0 : Hid (Fd.rowsTo W gs os r = Fd.rowsTo W gs os r ++ Fd.cellsTo W gs os r 0) := by simp [Hid, Fd.cellsTo]
        go_loopw [5, 21] (fun v i W' => ∃ k : Nat, k ≤ W ∧ i = .int .i64 (k : Nat) ∧ Ob W' (w.heap.size + 1) v (Fd.rowsTo W gs os r ++ Fd.cellsTo W gs os r k) ∧ Bf W' w.heap.size W H (Value.slice (some x) gs.length c) (Value.slice (some y) os.length d) ∧ Below w.heap.size w W') (fun _ i _ => W - (intOf i).toNat)
        case atStart => exact ⟨0, Nat.zero_le _, rfl, by rw [← E0.out]; exact O, X, B⟩
        case round =>
          clear O X B E0
          obtain ⟨k, hk, rfl, ho, hX, hB⟩ := hrel
          have rl : Hid ((Fd.rowsTo W gs os r ++ Fd.cellsTo W gs os r k).length ≤ 1000) := by
            unfold Hid
            rw [List.length_append, Fd.rowsTo_len, Fd.cellsTo_len]
            have : r * (W + 1) ≤ 12 * 13 := Nat.mul_le_mul (by omega) (by omega)
            omega
          have O : Hid (Ob wr (w.heap.size + 1) u5 (Fd.rowsTo W gs os r ++ Fd.cellsTo W gs os r k)) := ho
          have X : Hid (Bf wr w.heap.size W H (Value.slice (some x) gs.length c) (Value.slice (some y) os.length d)) := hX
          have B : Hid (Below w.heap.size w wr) := hB
          clear ho hX hB
          have zs : Hid (w.heap.size < wr.heap.size) := X.out.lt
          by_cases h1 : k = W
          · have ES : Hid (Fd.rowsTo W gs os (r + 1) = (Fd.rowsTo W gs os r ++ Fd.cellsTo W gs os r k) ++ [10]) := by unfold Hid; rw [h1, List.append_assoc]; rfl
            subst h1
            generalize Fd.rowsTo k gs os r ++ Fd.cellsTo k gs os r k = tx at *
            go_wp2_with (at_builtin; refine app_byte _ rfl _ _ rfl (w.heap.size + 1) _ tx rfl (O.out.alloc _) ⟨wr.heap.size, 0, none⟩ 10 rfl (by simp) (by have := rl.out; omega) (by have := zs.out; simp; omega) ?_)
            intro g cap w5 o5 g5 l5
            have O5 : Hid (Ob w5 (w.heap.size + 1) (.slice (some ⟨g, 0, none⟩) (tx.length + 1) cap) (tx ++ [10])) := o5
            have K5 := kept_inv O.out X.out B.out ((Below.refl _ _).alloc (Nat.le_refl _) _) g5
            have K6 : Hid (Bf w5 w.heap.size k H (Value.slice (some x) gs.length c) (Value.slice (some y) os.length d)) := K5.1
            have K7 : Hid (Below w.heap.size w w5) := K5.2
            clear o5 g5 l5 K5
            go_wp2
            go_round
            case rel => exact ⟨r + 1, by omega, by go_num, by rw [ES.out]; exact O5, K6, K7⟩
            case measure => simp [intOf]; omega
          · have hkW : k < W := by omega
            have ES : Hid (Fd.rowsTo W gs os r ++ Fd.cellsTo W gs os r (k + 1) = (Fd.rowsTo W gs os r ++ Fd.cellsTo W gs os r k) ++ [Fd.sgn (gs.getD (r * W + k) 0) (os.getD (r * W + k) 0)]) := by unfold Hid; rw [Fd.cellsTo_succ, List.append_assoc]
            generalize Fd.rowsTo W gs os r ++ Fd.cellsTo W gs os r k = tx at *
            have m0 : 0 ≤ (r : Int) * (W : Int) := Int.mul_nonneg (by omega) (by omega)
            have m1 : (r : Int) * (W : Int) ≤ 11 * 12 := Int.mul_le_mul (by omega) (by omega) (by omega) (by omega)
            have hat : r * W + k < W * H := by
              have e1 : (r + 1) * W ≤ H * W := Nat.mul_le_mul_right _ (by omega)
              rw [Nat.add_mul, Nat.one_mul, Nat.mul_comm H W] at e1
              omega
            have g1 : r * W + k < gs.length := by rw [gl.out]; exact hat
            have o1 : r * W + k < os.length := by rw [ol.out]; exact hat
            have Eg : gs[r * W + k]? = some (gs.getD (r * W + k) 0) := by rw [List.getD_eq_getElem?_getD, List.getElem?_eq_getElem g1]; rfl
            have Eo : os[r * W + k]? = some (os.getD (r * W + k) 0) := by rw [List.getD_eq_getElem?_getD, List.getElem?_eq_getElem o1]; rfl
            obtain ⟨x0, x1, x2, x3⟩ := X.out
            go_wp2_with fail
            rw [show (r : Int) * W + k = ((r * W + k : Nat) : Int) by push_cast; rfl]
            clear m0 m1 hat
            generalize r * W + k = t at *
            have hp := HG.out.cell t _ _ Eg Eo
            generalize gs.getD t 0 = gv at *
            generalize os.getD t 0 = ov at *
            have SN : Hid (∀ W1 : World, Calls Tryd.prog 20 #[.int .i64 gv, .int .i64 ov] W1 fun e w' => e = .returned (.int .u8 ((Fd.sgn gv ov).toNat : Nat)) ∧ w' = W1) := fun W1 => sign_any gv ov W1 hp.1 hp.2.1 hp.2.2.1 hp.2.2.2.1
            generalize Fd.sgn gv ov = sg at *
            have y2 : wr.cell? (x.add t) = some (.int .i64 gv) := by rw [B.out.cell (p := x.add t) (by rw [add_block]; exact Cx.out.1)]; exact Cx.out.2 t gv Eg
            have y3 : wr.cell? (y.add t) = some (.int .i64 ov) := by rw [B.out.cell (p := y.add t) (by rw [add_block]; exact Cy.out.1)]; exact Cy.out.2 t ov Eo
            have Eg : Hid (w.cell? (x.add t) = some (.int .i64 gv)) := Cx.out.2 t gv Eg
            have Eo : Hid (w.cell? (y.add t) = some (.int .i64 ov)) := Cy.out.2 t ov Eo
            clear hp
            have j0 : (0 : Int) ≤ (t : Int) := by omega
            have j1 : (t : Int) < (gs.length : Int) := by omega
            have j2 : (t : Int) < (os.length : Int) := by omega
            go_region_held3 (fun w' => w'.cell? ⟨w.heap.size, 2, none⟩ = some (.slice (some x) gs.length c) ∧ w'.cell? ⟨w.heap.size, 3, none⟩ = some (.slice (some y) os.length d) ∧ w'.cell? (x.add t) = some (.int .i64 gv) ∧ w'.cell? (y.add t) = some (.int .i64 ov))
              (first
                | go_keep
                | (have K5 := kept_inv O.out X.out B.out (by first | exact (Below.refl _ _).alloc (Nat.le_refl _) _ | exact ((Below.refl _ _).alloc (Nat.le_refl _) _).drew | exact ((Below.refl _ _).drew).alloc (by simp) _) g5
                   exact ⟨K5.1.c2, K5.1.c3, by rw [K5.2.cell (p := x.add t) (by rw [add_block]; exact Cx.out.1)]; exact Eg.out, by rw [K5.2.cell (p := y.add t) (by rw [add_block]; exact Cy.out.1)]; exact Eo.out⟩))
              (first
                | (refine step_app_byte _ (by rfl) _ _ (by rfl) (w.heap.size + 1) u5 tx (by rfl) (O.out.alloc _) ⟨wr.heap.size, 0, none⟩ sg (by rfl) (by simp) (by have := rl.out; omega) (by have := zs.out; simp; omega) ?_; intro g cap w5 o5 g5 l5)
                | (go_at_call 20; refine Calls.mono (SN.out _) ?_; rintro e w6 ⟨rfl, rfl⟩))
            have O5 : Hid (Ob w5 (w.heap.size + 1) (.slice (some ⟨g, 0, none⟩) (tx.length + 1) cap) (tx ++ [sg])) := o5
            have K5 := kept_inv O.out X.out B.out (by first | exact (Below.refl _ _).alloc (Nat.le_refl _) _ | exact ((Below.refl _ _).alloc (Nat.le_refl _) _).drew | exact ((Below.refl _ _).drew).alloc (by simp) _) g5
            have K6 : Hid (Bf w5 w.heap.size W H (Value.slice (some x) gs.length c) (Value.slice (some y) os.length d)) := K5.1
            have K7 : Hid (Below w.heap.size w w5) := K5.2
            clear o5 g5 l5 K5
            go_wp2
            go_round
            case rel => exact ⟨k + 1, by omega, by go_num, by rw [ES.out]; exact O5, K6, K7⟩
            case measure => simp [intOf]; omega
  · exact absurd rfl hz
end Go.Proofs.YtbiknfaimplodaaDoor
