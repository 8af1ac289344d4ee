/- Bytes that came in. · Numbers in bytes: fold. · Bytes that the call itself makes, by append. · Numbers in bytes: Write. · Worlds: Encode. · Bytes: a whole list behind another one; a part of one. · Worlds: sums, and a unit by its id. · The reference: numbers behind bytes. · The reference: lists of numbers behind bytes. · The reference: Encode. -/
import Derived.Test.YthccneiafofakaaDoorZWorldChecks1
import Derived.Lib.Bytealg
import Derived.OwnWalk
import Derived.Deep.AppendLies
import Derived.Laws.IdiomStrings
import Derived.Deep.DeepCutAuto
namespace Go.Proofs.YthccneiafofakaaDoor
open Go.RowKit
set_option linter.unusedVariables false

/-- v is a slice of the bytes l. -/
def By (w : World) (v : Value) (l : List UInt8) : Prop := ∃ (a : Option Addr) (c : Nat), v = .slice a l.length c ∧ l.length ≤ c ∧ c ≤ maxLen ∧ (l ≠ [] → ∃ x, a = some x ∧ x.block < w.heap.size ∧ ∀ (i : Nat) d, l[i]? = some d → w.cell? (x.add i) = some (.int .u8 (d.toNat : Int)))
theorem By.below {w w' : World} {v : Value} {l : List UInt8} (h : By w v l) (hb : Below w.heap.size w w') : By w' v l := by
  obtain ⟨a, c, h1, h2, h3, h4⟩ := h
  refine ⟨a, c, h1, h2, h3, fun hn => ?_⟩
  obtain ⟨x, e, hx, hk⟩ := h4 hn
  refine ⟨x, e, Nat.lt_of_lt_of_le hx hb.size, fun i d hi => ?_⟩
  rw [hb.cell (p := x.add i) (by rw [add_block]; exact hx)]
  exact hk i d hi
end Go.Proofs.YthccneiafofakaaDoor

namespace Go.Proofs.YthccneiafofakaaDoor
open Go.RowKit
set_option linter.unusedVariables false

set_option maxHeartbeats 1000000 in
theorem fold_any (n : Int) (w : World) (h : Wd.In64 n) : Calls Tryd.prog 92 #[.int .i64 n] w fun e w' => e = .returned (.int .u64 (Wd.zz n : Nat)) ∧ w' = w := by
  unfold Wd.In64 at h
  by_cases h0 : n < 0
  · obtain ⟨m, hm⟩ : ∃ m : Nat, n = -((m : Int) + 1) := ⟨(-(n + 1)).toNat, by omega⟩
    subst hm
    have E : Hid (Wd.zz (-((m : Int) + 1)) = m * 2 + 1) := by unfold Hid Wd.zz; rw [if_pos h0]; omega
    have e1 : -((m : Int) + 1) + 1 = -(m : Int) := by omega
    have e2 : - -(m : Int) = m := by omega
    have w1 : IntKind.i64.wrap (-(m : Int)) = -(m : Int) := by rw [IntKind.wrap_i64]; omega
    have w2 : IntKind.i64.wrap (m : Int) = (m : Int) := by rw [IntKind.wrap_i64]; omega
    have hm : (m : Int) < 9223372036854775808 := by omega
    clear h
    go_enter Tryd.func92, Tryd.ntmps92
    go_wp2
    go_ret
    refine ⟨?_, rfl⟩
    rw [E.out]
    show Ending.returned (.int .u64 _) = _
    congr 2
    try simp only [w2]
    omega
  · obtain ⟨m, rfl⟩ : ∃ m : Nat, n = m := ⟨n.toNat, by omega⟩
    have E : Hid (Wd.zz (m : Int) = m * 2) := by unfold Hid Wd.zz; rw [if_neg h0]; omega
    have hm : (m : Int) < 9223372036854775808 := by omega
    clear h
    go_enter Tryd.func92, Tryd.ntmps92
    go_wp2
    go_ret
    refine ⟨?_, rfl⟩
    rw [E.out]
    show Ending.returned (.int .u64 _) = _
    congr 2
    try simp only [w2]
    omega
end Go.Proofs.YthccneiafofakaaDoor

namespace Go.Proofs.YthccneiafofakaaDoor
open Go.RowKit
set_option linter.unusedVariables false

/-- the bytes of a list, as cells. -/
def byteCells (l : List UInt8) : List Value := l.map fun b => .int .u8 (b.toNat : Nat)
theorem info_byte : (Tryd.prog.info? 5).map (fun i => (i.zero, i.size, i.bytes)) = some (some (.int .u8 0), 1, 1) := by kernel_rfl
/-- v is a slice of the bytes l, in a block of its own from base on. -/
def Ob (w : World) (base : Nat) (v : Value) (l : List UInt8) : Prop := w.ownsRow base 5 1 v l.length (byteCells l)
theorem Ob.nil (w : World) (base : Nat) : Ob w base (.slice none 0 0) [] := World.ownsRow_nil _ _ _ _
theorem Ob.alloc {w : World} {base : Nat} {v : Value} {l : List UInt8} (h : Ob w base v l) (o : Obj) : Ob (w.alloc o) base v l := World.ownsRow.alloc h o
theorem Ob.drew {w : World} {base : Nat} {v : Value} {l : List UInt8} (h : Ob w base v l) : Ob w.drew base v l := h
theorem Ob.block {w : World} {base : Nat} {v : Value} {l : List UInt8} (h : Ob w base v l) : ∀ k, v.ownBlock = some k → base ≤ k ∧ k < w.heap.size := World.ownsRow.lt h

theorem byteCells_snoc (l : List UInt8) (b : UInt8) : byteCells (l ++ [b]) = byteCells l ++ [.int .u8 (b.toNat : Nat)] := by simp [byteCells]

theorem Ob.len {w : World} {base : Nat} {v : Value} {l : List UInt8} (h : Ob w base v l) : ∃ a c, v = .slice a l.length c := by
  rcases h.2 with ⟨hv, h0⟩ | ⟨g, cap, cur, hv, _⟩
  · exact ⟨none, 0, by rw [hv, h0]⟩
  · exact ⟨_, _, hv⟩
theorem Ob.text {w : World} {base : Nat} {v : Value} {l : List UInt8} (h : Ob w base v l) (hl : 0 < l.length) :
    ∃ g cap, v = .slice (some ⟨g, 0, none⟩) l.length cap ∧ ∀ j (hj : j < l.length), w.cell? ((⟨g, 0, none⟩ : Addr).add j) = some (.int .u8 (l[j].toNat : Int)) := by
  obtain ⟨g, cap, hv, -, -⟩ := World.ownsRow.form h hl
  refine ⟨g, cap, hv, fun j hj => ?_⟩
  subst hv
  rw [Addr.add_lit, Nat.zero_add, World.ownsRow.cellAt h j (by omega)]
  simp [byteCells, List.getElem?_eq_getElem hj]
theorem step_app_byte {ops : Array Oper} {o : Oper} {a : Act} {K : Act → World → Prop} {Q : Exit → Act → World → Prop} {E : Prop} (w : World) (hgd : o.guard = none) (s x : Operand)
    (ho : o.op = .call { callee := .builtin .append, args := #[s, x], argTypes := #[66, 66] }) (base : Nat) (v : Value) (l : List UInt8) (hs : a.eval s = v) (hown : Ob w base v l)
    (ad : Addr) (b : UInt8) (hx : a.eval x = .slice (some ad) 1 1) (hd : w.cell? ad = some (.int .u8 (b.toNat : Nat))) (hl : l.length ≤ 2000000000) (hbase : base ≤ w.heap.size)
    (h : ∀ g cap w', Ob w' base (.slice (some ⟨g, 0, none⟩) (l.length + 1) cap) (l ++ [b]) → w.grownBy w' v.ownBlock → g < w'.heap.size → K (a.put o.dst (.slice (some ⟨g, 0, none⟩) (l.length + 1) cap)) w') :
    if Region.wanted o (yielded ops a.tmps) = true then Oper.wp Tryd.prog o a w K Q else E := by
  obtain ⟨i0, hi, hz0, hz1, hz2⟩ := info_parts info_byte
  refine step_append_lies w hgd s x 66 ho base 5 i0 (.int .u8 0) 1 1 Tryd.underlying66 hi hz0 hz1 hz2 rfl (by decide) v l.length _ hs hown ad 1 1 [.int .u8 (b.toNat : Nat)] hx rfl ?_ ?_ (by decide) (by unfold maxLen; omega) (by omega) hbase _ rfl ?_
  · intro j u hj
    match j, hj with
    | 0, hj => simp at hj; subst hj; exact hd
  · intro u hu
    simp at hu
    subst hu
    rfl
  · intro g cap w' h1 h2 h3 h4
    refine h g cap w' ?_ h2 h4
    unfold Ob
    rw [List.length_append, byteCells_snoc]
    exact h1
theorem app_byte {ops : Array Oper} {rest : List Oper} {o : Oper} {a : Act} {Q : Exit → Act → World → Prop} (w : World) (hgd : o.guard = none) (s x : Operand)
    (ho : o.op = .call { callee := .builtin .append, args := #[s, x], argTypes := #[66, 66] }) (base : Nat) (v : Value) (l : List UInt8) (hs : a.eval s = v) (hown : Ob w base v l)
    (ad : Addr) (b : UInt8) (hx : a.eval x = .slice (some ad) 1 1) (hd : w.cell? ad = some (.int .u8 (b.toNat : Nat))) (hl : l.length ≤ 2000000000) (hbase : base ≤ w.heap.size)
    (h : ∀ g cap w', Ob w' base (.slice (some ⟨g, 0, none⟩) (l.length + 1) cap) (l ++ [b]) → w.grownBy w' v.ownBlock → g < w'.heap.size → wpList Tryd.prog ops Q rest (a.put o.dst (.slice (some ⟨g, 0, none⟩) (l.length + 1) cap)) w') :
    wpList Tryd.prog ops Q (o :: rest) a w := by
  obtain ⟨i0, hi, hz0, hz1, hz2⟩ := info_parts info_byte
  refine wpList_append_lies w hgd s x 66 ho base 5 i0 (.int .u8 0) 1 1 Tryd.underlying66 hi hz0 hz1 hz2 rfl (by decide) v l.length _ hs hown ad 1 1 [.int .u8 (b.toNat : Nat)] hx rfl ?_ ?_ (by decide) (by unfold maxLen; omega) (by omega) hbase _ rfl ?_
  · intro j u hj
    match j, hj with
    | 0, hj => simp at hj; subst hj; exact hd
  · intro u hu
    simp at hu
    subst hu
    rfl
  · intro g cap w' h1 h2 h3 h4
    refine h g cap w' ?_ h2 h4
    unfold Ob
    rw [List.length_append, byteCells_snoc]
    exact h1

end Go.Proofs.YthccneiafofakaaDoor

namespace Go.Proofs.YthccneiafofakaaDoor
open Go.RowKit
set_option linter.unusedVariables false

theorem vl_len {x : Nat} (h : x < 18446744073709551616) : (Wd.vl x).length ≤ 10 := by
  have h1 := Wd.rd_vl x x 0 0 [] (Nat.le_refl _) (by omega) (by simpa using h) (.inl rfl)
  have h2 := (Wd.rd_le _ 0 0 _ _ (by omega) (by decide) h1).2.2.1
  omega
theorem num_len {n : Int} (h : Wd.In64 n) : (Wd.num n).length ≤ 10 := vl_len (Wd.zz_lt h)
theorem wr_len : ∀ {xs : List Int}, (∀ n ∈ xs, Wd.In64 n) → (Wd.wr xs).length ≤ 10 * xs.length
  | [], _ => by simp [Wd.wr]
  | x :: xs, h => by
    have h1 := num_len (h x (by simp))
    have h2 := wr_len (xs := xs) (fun n hn => h n (by simp [hn]))
    have : Wd.wr (x :: xs) = Wd.num x ++ Wd.wr xs := by simp [Wd.wr]
    rw [this, List.length_append, List.length_cons]
    omega
theorem wr_next {xs : List Int} {k : Nat} {n : Int} (h : xs[k]? = some n) : Wd.wr (xs.take (k + 1)) = Wd.wr (xs.take k) ++ Wd.num n := by
  obtain ⟨hi, e⟩ := List.getElem?_eq_some_iff.1 h
  rw [List.take_succ_eq_append_getElem hi, Wd.wr_append, e, Wd.wr_one]
set_option maxRecDepth 100000 in
set_option maxHeartbeats 4000000 in
theorem write_any (v : Value) (xs : List Int) (w : World) (h : Ro w v xs) (hi : ∀ n ∈ xs, Wd.In64 n) (hl : xs.length ≤ 100000000) :
    Calls Tryd.prog 60 #[v] w fun e w' => ∃ u, e = .returned u ∧ Ob w' w.heap.size u (Wd.wr xs) ∧ Below w.heap.size w w' := by
  have R : Hid (Ro w v xs) := h
  have HI : Hid (∀ n ∈ xs, Wd.In64 n) := hi
  obtain ⟨ad, cap, rfl, h1, h2, h3⟩ := h
  clear h3 hi
  go_enter Tryd.func60, Tryd.ntmps60
  go_wp2
  go_loopw [3, 9] (fun bv iv W => ∃ (k : Nat), iv = .int .i64 (k : Nat) ∧ k ≤ xs.length ∧ Ob W w.heap.size bv (Wd.wr (xs.take k)) ∧ Below w.heap.size w W) (fun _ iv _ => xs.length - (intOf iv).toNat)
  case atStart => exact ⟨0, rfl, Nat.zero_le _, Ob.nil _ _, Below.refl _ _⟩
  case round =>
    obtain ⟨k, rfl, hk, ho, hb⟩ := hrel
    have O : Hid (Ob wr w.heap.size u3 (Wd.wr (xs.take k))) := ho
    have B : Hid (Below w.heap.size w wr) := hb
    clear ho hb
    by_cases he : k = xs.length
    · subst he
      go_wp2
      go_ret
      exact ⟨_, rfl, by have := O.out; rwa [List.take_length] at this, B.out⟩
    · have hlt : k < xs.length := by omega
      have hli : (k : Int) < (xs.length : Int) := by omega
      obtain ⟨n, hn⟩ : ∃ n, xs[k]? = some n := ⟨_, List.getElem?_eq_getElem hlt⟩
      have HN : Hid (xs[k]? = some n) := hn
      have IN : Hid (Wd.In64 n) := HI.out n (List.mem_of_getElem? hn)
      obtain ⟨ad', cap', e, -, -, hc⟩ := R.out.below B.out
      injection e with e1 e2 e3
      subst e1 e3
      obtain ⟨y, rfl, hy, hcell⟩ := hc (by intro e; subst e; simp at hlt)
      have c1 : wr.cell? (y.add k) = some (.int .i64 n) := hcell k n hn
      clear hc hcell hy hn
      go_wp2_with fail
      refine (fold_any n _ IN.out).mono ?_
      rintro e w1 ⟨rfl, rfl⟩
      have PL : Hid ((Wd.wr (xs.take k)).length ≤ 1000000000) := by
        unfold Hid
        have := wr_len (xs := xs.take k) (fun n hn => HI.out n (List.mem_of_mem_take hn))
        rw [List.length_take] at this
        omega
      obtain ⟨P, hP⟩ : ∃ P, Wd.wr (xs.take k) = P := ⟨_, rfl⟩
      have HP : Hid (Wd.wr (xs.take (k + 1)) = P ++ Wd.num n) := by unfold Hid; rw [wr_next HN.out, hP]
      rw [hP] at O PL
      obtain ⟨x, hx⟩ : ∃ x, Wd.zz n = x := ⟨_, rfl⟩
      have HX : Hid (Wd.num n = Wd.vl x ∧ x < 18446744073709551616) := ⟨by unfold Wd.num; rw [hx], by rw [← hx]; exact Wd.zz_lt IN.out⟩
      rw [hx]
      clear hx hP c1
      go_wp2
      go_loopw [3, 6] (fun bv xv W => ∃ (y : Nat) (D : List UInt8), xv = .int .u64 (y : Nat) ∧ y < 18446744073709551616 ∧ D ++ Wd.vl y = Wd.vl x ∧ Ob W w.heap.size bv (P ++ D) ∧ Below w.heap.size w W) (fun _ xv _ => (intOf xv).toNat)
      case atStart => exact ⟨x, [], rfl, HX.out.2, rfl, by rw [List.append_nil]; exact O.out, B.out⟩
      case round =>
        obtain ⟨y, D, rfl, hy, hv, ho, hb⟩ := hrel
        have O2 : Hid (Ob wr w.heap.size u3 (P ++ D)) := ho
        have B2 : Hid (Below w.heap.size w wr) := hb
        have HV : Hid (D ++ Wd.vl y = Wd.vl x) := hv
        have DL : Hid ((P ++ D).length ≤ 1000000010) := by
          unfold Hid
          have h1 := vl_len HX.out.2
          have h2 := congrArg List.length hv
          have h3 := PL.out
          rw [List.length_append] at h2 ⊢
          omega
        clear ho hb hv
        obtain ⟨L, hL⟩ : ∃ L, P ++ D = L := ⟨_, rfl⟩
        have HL : Hid (P ++ D = L) := hL
        rw [hL] at O2 DL
        clear hL
        by_cases h128 : 128 ≤ y
        · obtain ⟨m, hm⟩ : ∃ m, y % 128 = m := ⟨_, rfl⟩
          obtain ⟨d, hd⟩ : ∃ d, y / 128 = d := ⟨_, rfl⟩
          have hmi : (y : Int) % 128 = m := by omega
          have hdi : (y : Int) / 128 = d := by omega
          have m1 : m < 128 := by omega
          have hgi : (128 : Int) ≤ (y : Int) := by omega
          obtain ⟨c, hc⟩ : ∃ c, UInt8.ofNat (m + 128) = c := ⟨_, rfl⟩
          have em : c.toNat = m + 128 := by rw [← hc, UInt8.toNat_ofNat']; omega
          have HE : Hid (Wd.vl y = c :: Wd.vl d) := by unfold Hid; rw [Wd.vl_great h128, hm, hd, hc]
          have hdl : Hid (d < y) := by unfold Hid; omega
          clear hm hd h128 hc
          go_wp2_with (at_builtin; refine app_byte _ rfl _ _ rfl w.heap.size _ L rfl (O2.out.alloc _) ⟨wr.heap.size, 0, none⟩ c rfl (by rw [em]; simp) (by have := DL.out; omega) (by have := B2.out.size; simp; omega) ?_)
          intro g cap2 w5 o5 g5 l5
          have O5 : Hid (Ob w5 w.heap.size (.slice (some ⟨g, 0, none⟩) (L.length + 1) cap2) (P ++ (D ++ [c]))) := by unfold Hid; rw [← List.append_assoc, HL.out]; exact o5
          have B5 : Hid (Below w.heap.size w w5) := (B2.out.alloc B2.out.size _).grown g5 (by have := B2.out.size; simp; omega) (fun b hb => (O2.out.block b hb).1)
          clear o5 g5 l5
          go_wp2
          go_roundw
          case rel =>
            refine ⟨d, D ++ [c], rfl, by have := hdl.out; omega, ?_, O5.out, B5.out⟩
            rw [List.append_assoc, ← HV.out, HE.out]
            rfl
          case measure => have := hdl.out; simp [intOf]; omega
        · have hgi : ¬ (128 : Int) ≤ (y : Int) := by omega
          obtain ⟨c, hc⟩ : ∃ c, UInt8.ofNat y = c := ⟨_, rfl⟩
          have em : c.toNat = y := by rw [← hc, UInt8.toNat_ofNat']; omega
          have wy : IntKind.u8.wrap (y : Int) = (y : Int) := by rw [IntKind.wrap_u8]; omega
          have HE : Hid (D ++ [c] = Wd.num n) := by unfold Hid; rw [HX.out.1, ← HV.out, Wd.vl_small (by omega), hc]
          clear h128 hc
          go_wp2_with (at_builtin; refine app_byte _ rfl _ _ rfl w.heap.size _ L rfl (O2.out.alloc _) ⟨wr.heap.size, 0, none⟩ c rfl (by rw [em]; simp) (by have := DL.out; omega) (by have := B2.out.size; simp; omega) ?_)
          intro g cap2 w5 o5 g5 l5
          have O5 : Hid (Ob w5 w.heap.size (.slice (some ⟨g, 0, none⟩) (L.length + 1) cap2) (Wd.wr (xs.take (k + 1)))) := by unfold Hid; rw [HP.out, ← HE.out, ← List.append_assoc, HL.out]; exact o5
          have B5 : Hid (Below w.heap.size w w5) := (B2.out.alloc B2.out.size _).grown g5 (by have := B2.out.size; simp; omega) (fun b hb => (O2.out.block b hb).1)
          clear o5 g5 l5
          go_wp2
          go_roundw
          case rel => exact ⟨k + 1, rfl, by omega, O5.out, B5.out⟩
          case measure => simp [intOf]; omega
end Go.Proofs.YthccneiafofakaaDoor

namespace Go.Proofs.YthccneiafofakaaDoor
open Go.RowKit
set_option linter.unusedVariables false

set_option maxHeartbeats 2000000 in
theorem encode_any (v : Value) (W : WV) (w : World) (h : Wl w v W) (hs : WSmall W) (hi : ∀ n ∈ Wd.nums W, Wd.In64 n) :
    Calls Tryd.prog 27 #[v] w fun e w' => ∃ u, e = .returned u ∧ Ob w' w.heap.size u (Wd.enc W) ∧ Below w.heap.size w w' := by
  have H : Hid (Wl w v W) := h
  have S : Hid (WSmall W) := hs
  have I : Hid (∀ n ∈ Wd.nums W, Wd.In64 n) := hi
  obtain ⟨u1, u2, u3, u4, u5, rfl, h1, h2, h3, h4, h5⟩ := h
  clear h1 h2 h3 h4 h5 hs hi
  go_enter Tryd.func27, Tryd.ntmps27
  go_wp2_with fail
  have B0 : Hid (Below w.heap.size w (w.alloc (Obj.cells #[.int .i64 W.turn, .int .i64 W.next, .int .i64 W.wide, .int .i64 W.high, u1, u2, u3, u4, u5] 49))) := (Below.refl _ _).alloc (Nat.le_refl _) _
  generalize w.alloc (Obj.cells #[.int .i64 W.turn, .int .i64 W.next, .int .i64 W.wide, .int .i64 W.high, u1, u2, u3, u4, u5] 49) = w0 at *
  refine (numbers_any _ W w0 (H.out.below B0.out) S.out).mono ?_
  rintro e w1 ⟨u, rfl, ho, hb⟩
  have O : Hid (Ow w1 (w0.heap.size + 2) u (Wd.nums W)) := ho
  have B1 : Hid (Below w.heap.size w w1) := B0.out.trans (hb.mono B0.out.size)
  clear ho hb
  go_wp2_with fail
  have L : (Wd.nums W).length ≤ 100000000 := by rw [← nums3_all]; have := nums3_len S.out W.qs.length; omega
  refine (write_any _ (Wd.nums W) w1 O.out.ro I.out L).mono ?_
  rintro e w2 ⟨b, rfl, ho, hb⟩
  have F : Hid (Ob w2 w.heap.size b (Wd.enc W) ∧ Below w.heap.size w w2) := by
    refine ⟨⟨ho.1, ?_⟩, B1.out.trans (hb.mono B1.out.size)⟩
    rcases ho.2 with h1 | ⟨g, cap, cur, h1, h2, h3⟩
    · exact .inl h1
    · exact .inr ⟨g, cap, cur, h1, Nat.le_trans B1.out.size h2, h3⟩
  clear ho hb L
  go_wp2
  go_ret
  exact ⟨_, rfl, F.out.1, F.out.2⟩
end Go.Proofs.YthccneiafofakaaDoor

namespace Go.Proofs.YthccneiafofakaaDoor
open Go.RowKit
set_option linter.unusedVariables false

theorem Ob.by_ {w : World} {base : Nat} {v : Value} {l : List UInt8} (h : Ob w base v l) : By w v l := by
  rcases h.2 with ⟨hv, h0⟩ | ⟨g, cap, cur, hv, hb, hg, h1, h2, h3, h4⟩
  · exact ⟨none, 0, by rw [hv, h0], by omega, by omega, fun hn => absurd (List.length_eq_zero_iff.1 h0) hn⟩
  · refine ⟨_, cap, hv, h1, h2, fun hn => ⟨_, rfl, lt_of_block hg, fun i d hd => ?_⟩⟩
    have hi : i < l.length := (List.getElem?_eq_some_iff.1 hd).1
    rw [Addr.add_lit, Nat.zero_add]
    have h5 : w.ownsRow base 5 1 (.slice (some ⟨g, 0, none⟩) l.length cap) l.length (byteCells l) := by rw [← hv]; exact h
    rw [h5.cellAt i (by omega), byteCells, List.getElem?_map, hd]
    rfl
theorem By.take {w : World} {ad : Option Addr} {n c k : Nat} {l : List UInt8} (h : By w (.slice ad n c) l) (hk : k ≤ l.length) : By w (.slice ad k c) (l.take k) := by
  obtain ⟨a, c', e, h1, h2, h3⟩ := h
  injection e with e1 e2 e3
  subst e1 e3
  have hl : (l.take k).length = k := by rw [List.length_take]; omega
  refine ⟨ad, c, by rw [hl], by omega, h2, fun hn => ?_⟩
  obtain ⟨x, e, hx, hc⟩ := h3 (by intro h; subst h; simp at hn)
  refine ⟨x, e, hx, fun i d hd => hc i d ?_⟩
  rw [List.getElem?_take] at hd
  split at hd
  · exact hd
  · cases hd
set_option maxRecDepth 100000 in
theorem By.conv {w : World} {ad : Option Addr} {n c : Nat} {l : List UInt8} (h : By w (.slice ad n c) l) : (convert 66 9 (.slice ad n c)).run Tryd.prog w = .ok (.string ⟨l.toArray⟩) w := by
  obtain ⟨a, c', e, h1, h2, h3⟩ := h
  injection e with e1 e2 e3
  subst e1 e2 e3
  by_cases hn : l = []
  · subst hn
    cases ad with
    | none => rw [show ([] : List UInt8).length = 0 from rfl, run_convert_bytes_string w 66 9 5 none 0 c Tryd.underlying66 Tryd.underlying5 Tryd.underlying9]; rfl
    | some a => exact run_convert_bytes_back (P := Tryd.prog) w 66 9 5 a c [] Tryd.underlying66 Tryd.underlying5 Tryd.underlying9 (fun j hj => by simp at hj)
  · obtain ⟨x, rfl, hx, hc⟩ := h3 hn
    exact run_convert_bytes_back (P := Tryd.prog) w 66 9 5 x c l Tryd.underlying66 Tryd.underlying5 Tryd.underlying9 (fun j hj => hc j _ (List.getElem?_eq_getElem hj))
theorem app_bytes {ops : Array Oper} {rest : List Oper} {o : Oper} {a : Act} {Q : Exit → Act → World → Prop} (w : World) (hgd : o.guard = none) (s x : Operand)
    (ho : o.op = .call { callee := .builtin .append, args := #[s, x], argTypes := #[66, 66] }) (base : Nat) (v : Value) (xs : List UInt8) (hs : a.eval s = v) (hown : Ob w base v xs)
    (u : Value) (ys : List UInt8) (hx : a.eval x = u) (hu : By w u ys) (hl : xs.length + ys.length ≤ 1000000000) (hbase : base ≤ w.heap.size)
    (h : ∀ v' w', Ob w' base v' (xs ++ ys) → w.grownBy w' v.ownBlock → wpList Tryd.prog ops Q rest (a.put o.dst v') w') :
    wpList Tryd.prog ops Q (o :: rest) a w := by
  obtain ⟨i0, hi, hz0, hz1, hz2⟩ := info_parts info_byte
  obtain ⟨ad, c, rfl, h1, h2, h3⟩ := hu
  by_cases hn : ys = []
  · subst hn
    refine wpList_plain hgd fun K hK => ?_
    have hrun := run_append_no (P := Tryd.prog) (w := w) base 66 o.type 5 i0 1 Tryd.underlying66 hi v xs.length _ hown ad c
    have hx' : a.eval x = .slice ad 0 c := hx
    unfold Oper.wp
    simp [execOp, ho, resolve, invoke, builtin, hs, hx', hrun, Result.andThen]
    exact hK _ _ (h v w (by simpa using hown) (World.grownBy.refl _ _))
  · obtain ⟨y, rfl, hy, hc⟩ := h3 hn
    refine wpList_append_own w hgd s x 66 ho base 5 i0 (.int .u8 0) 1 1 Tryd.underlying66 hi hz0 hz1 hz2 rfl (by decide) v xs.length _ hs hown y ys.length c (byteCells ys) hx (by simp [byteCells]) ?_ ?_ (by unfold maxLen; omega) (by omega) hbase ?_
    · intro j u hj
      rw [byteCells, List.getElem?_map] at hj
      cases hd : ys[j]? with
      | none => rw [hd] at hj; cases hj
      | some d => rw [hd] at hj; cases hj; exact hc j d hd
    · intro u hu
      simp only [byteCells, List.mem_map] at hu
      obtain ⟨b, -, rfl⟩ := hu
      rfl
    · intro v' w' k1 k2 _
      refine h v' w' ?_ k2
      unfold Ob
      rw [List.length_append, byteCells, List.map_append]
      exact k1
theorem enc_one : Wd.enc ⟨1, 0, 0, 0, [], [], [], [], []⟩ = [2, 0, 0, 0, 0, 0, 0, 0, 0] := by
  simp [Wd.enc, Wd.wr, Wd.nums, Wd.num, Wd.zz, Wd.vl_small]
end Go.Proofs.YthccneiafofakaaDoor

namespace Go.Proofs.YthccneiafofakaaDoor
open Go.RowKit
set_option linter.unusedVariables false

namespace Wd
def sum1 (x : Nat) (c : UInt8) : Nat := (x * 257 + c.toNat) % 1000000007
def sum (l : List UInt8) : Nat := l.foldl sum1 1
theorem sum_lt (l : List UInt8) : sum l < 1000000007 := by
  unfold sum
  have : ∀ (l : List UInt8) (x : Nat), x < 1000000007 → l.foldl sum1 x < 1000000007 := by
    intro l
    induction l with
    | nil => intro x h; exact h
    | cons c l ih => intro x h; exact ih _ (Nat.mod_lt _ (by decide))
  exact this l 1 (by decide)
theorem sum_next {l : List UInt8} {k : Nat} {c : UInt8} (h : l[k]? = some c) : sum (l.take (k + 1)) = sum1 (sum (l.take k)) c := by
  obtain ⟨hi, e⟩ := List.getElem?_eq_some_iff.1 h
  unfold sum
  rw [List.take_succ_eq_append_getElem hi, List.foldl_append, e]
  rfl
/-- the index of a unit by its id. -/
def find (us : List UnV) (id : Int) : Int := match us.findIdx? (fun u => u.id == id) with
  | some i => (i : Nat)
  | none => -1
end Wd
set_option maxRecDepth 100000 in
set_option maxHeartbeats 2000000 in
theorem rsum_any (v : Value) (l : List UInt8) (w : World) (h : By w v l) :
    Calls Tryd.prog 31 #[v] w fun e w' => e = .returned (.int .i64 (Wd.sum l : Nat)) ∧ w' = w := by
  obtain ⟨a, cap, rfl, h1, h2, h3⟩ := h
  have H : Hid (l ≠ [] → ∃ x, a = some x ∧ x.block < w.heap.size ∧ ∀ (i : Nat) d, l[i]? = some d → w.cell? (x.add i) = some (.int .u8 (d.toNat : Int))) := h3
  have hml : l.length ≤ 9223372036854775807 := by unfold maxLen at h2; omega
  clear h1 h2 h3
  go_enter Tryd.func31, Tryd.ntmps31
  go_wp2
  go_loopw [3, 4] (fun xv iv W => ∃ (k : Nat), xv = .int .i64 (Wd.sum (l.take k) : Nat) ∧ iv = .int .i64 (k : Nat) ∧ k ≤ l.length ∧ W = w) (fun _ iv _ => l.length - (intOf iv).toNat)
  case atStart => exact ⟨0, rfl, rfl, Nat.zero_le _, rfl⟩
  case round =>
    obtain ⟨k, rfl, rfl, hk, rfl⟩ := hrel
    by_cases he : k = l.length
    · subst he
      rw [List.take_length]
      go_wp2
      go_ret
      exact ⟨rfl, rfl⟩
    · have hlt : k < l.length := by omega
      have hli : (k : Int) < (l.length : Int) := by omega
      obtain ⟨c, hc⟩ : ∃ c, l[k]? = some c := ⟨_, List.getElem?_eq_getElem hlt⟩
      obtain ⟨y, rfl, hy, hcell⟩ := H.out (by intro e; subst e; simp at hlt)
      have cc : wr.cell? (y.add k) = some (.int .u8 (c.toNat : Int)) := hcell k c hc
      have N : Hid (Wd.sum (l.take (k + 1)) = Wd.sum1 (Wd.sum (l.take k)) c) := Wd.sum_next hc
      have sl := Wd.sum_lt (l.take k)
      have cl : c.toNat < 256 := c.toNat_lt
      obtain ⟨x, hx⟩ : ∃ x, Wd.sum (l.take k) = x := ⟨_, rfl⟩
      unfold Wd.sum1 at N
      rw [hx] at N sl ⊢
      obtain ⟨m, hm⟩ : ∃ m, c.toNat = m := ⟨_, rfl⟩
      rw [hm] at N cl cc
      obtain ⟨p, hp⟩ : ∃ p, x * 257 = p := ⟨_, rfl⟩
      obtain ⟨q, hq⟩ : ∃ q, p + m = q := ⟨_, rfl⟩
      obtain ⟨r, hr⟩ : ∃ r, q % 1000000007 = r := ⟨_, rfl⟩
      have e1 : (x : Int) * 257 = (p : Nat) := by omega
      have w1 : IntKind.i64.wrap ((p : Nat) : Int) = (p : Nat) := by rw [IntKind.wrap_i64]; omega
      have e2 : ((p : Nat) : Int) + (m : Nat) = (q : Nat) := by omega
      have w2 : IntKind.i64.wrap ((q : Nat) : Int) = (q : Nat) := by rw [IntKind.wrap_i64]; omega
      have e3 : ((q : Nat) : Int) % 1000000007 = (r : Nat) := by omega
      have NR : Hid (Wd.sum (l.take (k + 1)) = r) := by unfold Hid; rw [N.out, hp, hq, hr]
      have hmi : (m : Int) < 256 := by omega
      clear hcell hy hc N hx hm hp hq hr sl cl
      go_wp2
      go_roundw
      case rel => exact ⟨k + 1, by rw [NR.out, e3], rfl, by omega, trivial⟩
      case measure => simp [intOf]; omega
set_option maxRecDepth 100000 in
set_option maxHeartbeats 2000000 in
theorem sum_any (v : Value) (W : WV) (w : World) (h : Wl w v W) (hs : WSmall W) (hi : ∀ n ∈ Wd.nums W, Wd.In64 n) :
    Calls Tryd.prog 29 #[v] w fun e w' => e = .returned (.int .i64 (Wd.sum (Wd.enc W) : Nat)) ∧ Below w.heap.size w w' := by
  have H : Hid (Wl w v W) := h
  obtain ⟨u1, u2, u3, u4, u5, rfl, h1, h2, h3, h4, h5⟩ := h
  clear h1 h2 h3 h4 h5
  have S : Hid (WSmall W ∧ ∀ n ∈ Wd.nums W, Wd.In64 n) := ⟨hs, hi⟩
  clear hs hi
  go_enter Tryd.func29, Tryd.ntmps29
  go_wp2_with fail
  have B0 : Hid (Below w.heap.size w (w.alloc (Obj.cells #[.int .i64 W.turn, .int .i64 W.next, .int .i64 W.wide, .int .i64 W.high, u1, u2, u3, u4, u5] 49))) := (Below.refl _ _).alloc (Nat.le_refl _) _
  generalize w.alloc (Obj.cells #[.int .i64 W.turn, .int .i64 W.next, .int .i64 W.wide, .int .i64 W.high, u1, u2, u3, u4, u5] 49) = w0 at *
  refine (encode_any _ W w0 (H.out.below B0.out) S.out.1 S.out.2).mono ?_
  rintro e w1 ⟨u, rfl, ho, hb⟩
  obtain ⟨l, hl⟩ : ∃ l, Wd.enc W = l := ⟨_, rfl⟩
  rw [hl] at ho
  have E : Hid (Wd.enc W = l) := hl
  have B1 : Hid (Below w.heap.size w w1) := B0.out.trans (hb.mono B0.out.size)
  obtain ⟨a, cap, rfl, k1, k2, h3⟩ := ho.by_
  have H3 : Hid (l ≠ [] → ∃ x, a = some x ∧ x.block < w1.heap.size ∧ ∀ (i : Nat) d, l[i]? = some d → w1.cell? (x.add i) = some (.int .u8 (d.toNat : Int))) := h3
  have hml : l.length ≤ 9223372036854775807 := by unfold maxLen at k2; omega
  clear ho hb hl k1 k2 h3 B0 H S
  go_wp2
  go_loopw [3, 9] (fun xv iv W' => ∃ (k : Nat), xv = .int .i64 (Wd.sum (l.take k) : Nat) ∧ iv = .int .i64 (k : Nat) ∧ k ≤ l.length ∧ W' = w1) (fun _ iv _ => l.length - (intOf iv).toNat)
  case atStart => exact ⟨0, rfl, rfl, Nat.zero_le _, rfl⟩
  case round =>
    obtain ⟨k, rfl, rfl, hk, rfl⟩ := hrel
    by_cases he : k = l.length
    · subst he
      rw [List.take_length]
      go_wp2
      go_ret
      exact ⟨by rw [E.out]; rfl, B1.out⟩
    · have hlt : k < l.length := by omega
      have hli : (k : Int) < (l.length : Int) := by omega
      obtain ⟨c, hc⟩ : ∃ c, l[k]? = some c := ⟨_, List.getElem?_eq_getElem hlt⟩
      obtain ⟨y, rfl, hy, hcell⟩ := H3.out (by intro e; subst e; simp at hlt)
      have cc : wr.cell? (y.add k) = some (.int .u8 (c.toNat : Int)) := hcell k c hc
      have N : Hid (Wd.sum (l.take (k + 1)) = Wd.sum1 (Wd.sum (l.take k)) c) := Wd.sum_next hc
      have sl := Wd.sum_lt (l.take k)
      have cl : c.toNat < 256 := c.toNat_lt
      obtain ⟨x, hx⟩ : ∃ x, Wd.sum (l.take k) = x := ⟨_, rfl⟩
      unfold Wd.sum1 at N
      rw [hx] at N sl ⊢
      obtain ⟨m, hm⟩ : ∃ m, c.toNat = m := ⟨_, rfl⟩
      rw [hm] at N cl cc
      obtain ⟨p, hp⟩ : ∃ p, x * 257 = p := ⟨_, rfl⟩
      obtain ⟨q, hq⟩ : ∃ q, p + m = q := ⟨_, rfl⟩
      obtain ⟨r, hr⟩ : ∃ r, q % 1000000007 = r := ⟨_, rfl⟩
      have e1 : (x : Int) * 257 = (p : Nat) := by omega
      have w1' : IntKind.i64.wrap ((p : Nat) : Int) = (p : Nat) := by rw [IntKind.wrap_i64]; omega
      have e2 : ((p : Nat) : Int) + (m : Nat) = (q : Nat) := by omega
      have w2' : IntKind.i64.wrap ((q : Nat) : Int) = (q : Nat) := by rw [IntKind.wrap_i64]; omega
      have e3 : ((q : Nat) : Int) % 1000000007 = (r : Nat) := by omega
      have NR : Hid (Wd.sum (l.take (k + 1)) = r) := by unfold Hid; rw [N.out, hp, hq, hr]
      have hmi : (m : Int) < 256 := by omega
      clear hcell hy hc N hx hm hp hq hr sl cl
      go_wp2
      go_roundw
      case rel => exact ⟨k + 1, by rw [NR.out, e3], rfl, by omega, trivial⟩
      case measure => simp [intOf]; omega
end Go.Proofs.YthccneiafofakaaDoor

namespace Go.Proofs.YthccneiafofakaaDoor
open Go.RowKit
set_option linter.unusedVariables false

/-- what stays where the list v grows to u. -/
structure Gb (w : World) (v : Value) (w' : World) (u : Value) : Prop where
  g : w.grownBy w' v.ownBlock
  o : u.ownBlock = v.ownBlock ∨ ∃ k, u.ownBlock = some k ∧ w.heap.size ≤ k
theorem Gb.refl (w : World) (v : Value) : Gb w v w v := ⟨World.grownBy.refl _ _, .inl rfl⟩
theorem Gb.trans {w w1 w2 : World} {v u t : Value} (h : Gb w v w1 u) (k : Gb w1 u w2 t) : Gb w v w2 t := by
  refine ⟨⟨k.g.os.trans h.g.os, k.g.tape.trans h.g.tape, k.g.output.trans h.g.output, Nat.le_trans h.g.size k.g.size, fun i hi hne => ?_⟩, ?_⟩
  · refine (k.g.block i (Nat.lt_of_lt_of_le hi h.g.size) ?_).trans (h.g.block i hi hne)
    rcases h.o with e | ⟨b, e, hb⟩
    · rw [e]; exact hne
    · rw [e]; intro h; injection h with h; omega
  · rcases k.o with e | ⟨b, e, hb⟩
    · rcases h.o with e' | ⟨b, e', hb⟩
      · exact .inl (e.trans e')
      · exact .inr ⟨b, e.trans e', hb⟩
    · exact .inr ⟨b, e, Nat.le_trans h.g.size hb⟩
theorem Gb.below {w w' : World} {v u : Value} {B : Nat} (h : Gb w v w' u) (hB : B ≤ w.heap.size) (hr : ∀ b, v.ownBlock = some b → B ≤ b) : Below B w w' := (Below.refl _ _).grown h.g hB hr
theorem Gb.alloc {w w' : World} {v u : Value} {o : Obj} (h : Gb (w.alloc o) v w' u) : Gb w v w' u := by
  refine ⟨⟨h.g.os, h.g.tape, h.g.output, ?_, fun i hi hne => ?_⟩, ?_⟩
  · have := h.g.size; simp at this; omega
  · rw [h.g.block i (by simp; omega) hne]
    exact heap_alloc_old w o hi
  · rcases h.o with e | ⟨b, e, hb⟩
    · exact .inl e
    · simp at hb
      exact .inr ⟨b, e, by omega⟩
theorem app_byte2 {ops : Array Oper} {rest : List Oper} {o : Oper} {a : Act} {Q : Exit → Act → World → Prop} (w : World) (hgd : o.guard = none) (s x : Operand)
    (ho : o.op = .call { callee := .builtin .append, args := #[s, x], argTypes := #[66, 66] }) (base : Nat) (v : Value) (l : List UInt8) (hs : a.eval s = v) (hown : Ob w base v l)
    (ad : Addr) (b : UInt8) (hx : a.eval x = .slice (some ad) 1 1) (hd : w.cell? ad = some (.int .u8 (b.toNat : Nat))) (hl : l.length ≤ 2000000000) (hbase : base ≤ w.heap.size)
    (h : ∀ v' w', Ob w' base v' (l ++ [b]) → Gb w v w' v' → wpList Tryd.prog ops Q rest (a.put o.dst v') w') :
    wpList Tryd.prog ops Q (o :: rest) a w := by
  obtain ⟨i0, hi, hz0, hz1, hz2⟩ := info_parts info_byte
  refine wpList_append_lies w hgd s x 66 ho base 5 i0 (.int .u8 0) 1 1 Tryd.underlying66 hi hz0 hz1 hz2 rfl (by decide) v l.length _ hs hown ad 1 1 [.int .u8 (b.toNat : Nat)] hx rfl ?_ ?_ (by decide) (by unfold maxLen; omega) (by omega) hbase _ rfl ?_
  · intro j u hj
    match j, hj with
    | 0, hj => simp at hj; subst hj; exact hd
  · intro u hu
    simp at hu
    subst hu
    rfl
  · intro g cap w' h1 h2 h3 h4
    refine h _ w' ?_ ⟨h2, ?_⟩
    · unfold Ob
      rw [List.length_append, byteCells_snoc]
      exact h1
    · rcases h3 with h3 | h3
      · exact .inl (by rw [h3]; rfl)
      · exact .inr ⟨g, rfl, by omega⟩
set_option maxRecDepth 100000 in
set_option maxHeartbeats 4000000 in
theorem rnumb_any (base : Nat) (v : Value) (l : List UInt8) (n : Int) (w : World) (h : Ob w base v l) (hb : base ≤ w.heap.size) (hl : l.length ≤ 1000000000) (hi : Wd.In64 n) :
    Calls Tryd.prog 62 #[v, .int .i64 n] w fun e w' => ∃ u, e = .returned u ∧ Ob w' base u (l ++ Wd.num n) ∧ Gb w v w' u := by
  have O : Hid (Ob w base v l) := h
  have LL : Hid (l.length ≤ 1000000000 ∧ base ≤ w.heap.size) := ⟨hl, hb⟩
  obtain ⟨x, hx⟩ : ∃ x, Wd.zz n = x := ⟨_, rfl⟩
  have HX : Hid (Wd.num n = Wd.vl x ∧ x < 18446744073709551616) := ⟨by unfold Wd.num; rw [hx], by rw [← hx]; exact Wd.zz_lt hi⟩
  unfold Wd.In64 at hi
  have START : ∃ p : Nat, IntKind.u64.wrap n = (p : Nat) ∧ ∃ q : Nat, (p : Int) * 2 = (q : Nat) ∧ ∃ r : Nat, IntKind.u64.wrap (q : Nat) = (r : Nat) ∧ (0 ≤ n → r = x) := by
    refine ⟨(IntKind.u64.wrap n).toNat, ?_, _, rfl, ?_⟩
    · rw [IntKind.wrap_u64]; omega
    · refine ⟨(IntKind.u64.wrap (((IntKind.u64.wrap n).toNat * 2 : Nat) : Int)).toNat, ?_, ?_⟩
      · rw [IntKind.wrap_u64]; omega
      · intro h0
        rw [← hx]
        unfold Wd.zz
        rw [if_neg (by omega), IntKind.wrap_u64, IntKind.wrap_u64]
        omega
  obtain ⟨p, ep, q, eq, r, er, hr⟩ := START
  have LOOP : Hid True := trivial
  clear h hl hb
  by_cases h0 : n < 0
  · obtain ⟨m, hm⟩ : ∃ m : Nat, -(n + 1) = (m : Nat) := ⟨(-(n + 1)).toNat, by omega⟩
    obtain ⟨m1, hm1⟩ : ∃ m1 : Int, n + 1 = m1 := ⟨_, rfl⟩
    rw [hm1] at hm
    have wm1 : IntKind.i64.wrap m1 = m1 := by rw [IntKind.wrap_i64]; omega
    have wm : IntKind.i64.wrap (m : Int) = (m : Int) := by rw [IntKind.wrap_i64]; omega
    obtain ⟨m2, hm2⟩ : ∃ m2, m * 2 = m2 := ⟨_, rfl⟩
    have em2 : (m : Int) * 2 = (m2 : Nat) := by omega
    have wm2 : IntKind.u64.wrap ((m2 : Nat) : Int) = (m2 : Nat) := by rw [IntKind.wrap_u64]; omega
    have wmu : IntKind.u64.wrap ((m : Nat) : Int) = (m : Nat) := by rw [IntKind.wrap_u64]; omega
    have ex : ((m2 : Nat) : Int) + 1 = (x : Nat) := by
      rw [← hx]; unfold Wd.zz; rw [if_pos h0]; omega
    have wx : IntKind.u64.wrap ((x : Nat) : Int) = (x : Nat) := by rw [IntKind.wrap_u64]; have := HX.out.2; omega
    clear hx hr hi
    go_enter Tryd.func62, Tryd.ntmps62
    go_wp2
    go_loopw [0, 5] (fun bv xv W => ∃ (y : Nat) (D : List UInt8), xv = .int .u64 (y : Nat) ∧ y < 18446744073709551616 ∧ D ++ Wd.vl y = Wd.vl x ∧ Ob W base bv (l ++ D) ∧ Gb w v W bv) (fun _ xv _ => (intOf xv).toNat)
    case atStart => exact ⟨x, [], rfl, HX.out.2, rfl, by rw [List.append_nil]; exact O.out, Gb.refl _ _⟩
    case round =>
      obtain ⟨y, D, rfl, hy, hv, ho, hg⟩ := hrel
      have O2 : Hid (Ob wr base u0 (l ++ D)) := ho
      have G2 : Hid (Gb w v wr u0) := hg
      have HV : Hid (D ++ Wd.vl y = Wd.vl x) := hv
      have DL : Hid ((l ++ D).length ≤ 1000000010) := by
        unfold Hid
        have h1 := vl_len HX.out.2
        have h2 := congrArg List.length hv
        have h3 := LL.out.1
        rw [List.length_append] at h2 ⊢
        omega
      have BS : Hid (base ≤ wr.heap.size) := Nat.le_trans LL.out.2 hg.g.size
      clear ho hg hv
      obtain ⟨L, hL⟩ : ∃ L, l ++ D = L := ⟨_, rfl⟩
      have HL : Hid (l ++ D = L) := hL
      rw [hL] at O2 DL
      clear hL
      by_cases h128 : 128 ≤ y
      · obtain ⟨m9, hm9⟩ : ∃ m, y % 128 = m := ⟨_, rfl⟩
        obtain ⟨d, hd⟩ : ∃ d, y / 128 = d := ⟨_, rfl⟩
        have hmi : (y : Int) % 128 = m9 := by omega
        have hdi : (y : Int) / 128 = d := by omega
        have m1' : m9 < 128 := by omega
        have hgi : (127 : Int) < (y : Int) := by omega
        obtain ⟨c, hc⟩ : ∃ c, UInt8.ofNat (m9 + 128) = c := ⟨_, rfl⟩
        have em : c.toNat = m9 + 128 := by rw [← hc, UInt8.toNat_ofNat']; omega
        have HE : Hid (Wd.vl y = c :: Wd.vl d) := by unfold Hid; rw [Wd.vl_great h128, hm9, hd, hc]
        have hdl : Hid (d < y) := by unfold Hid; omega
        clear hm9 hd h128 hc
        go_wp2_with (at_builtin; refine app_byte2 _ rfl _ _ rfl base _ L rfl (O2.out.alloc _) ⟨wr.heap.size, 0, none⟩ c rfl (by rw [em]; simp) (by have := DL.out; omega) (by have := BS.out; simp; omega) ?_)
        intro v5 w5 o5 g5
        have O5 : Hid (Ob w5 base v5 (l ++ (D ++ [c]))) := by unfold Hid; rw [← List.append_assoc, HL.out]; exact o5
        have G5 : Hid (Gb w v w5 v5) := G2.out.trans g5.alloc
        clear o5 g5
        go_wp2
        go_roundw
        case rel =>
          refine ⟨d, D ++ [c], rfl, by have := hdl.out; omega, ?_, O5.out, G5.out⟩
          rw [List.append_assoc, ← HV.out, HE.out]
          rfl
        case measure => have := hdl.out; simp [intOf]; omega
      · have hgi : ¬ (127 : Int) < (y : Int) := by omega
        obtain ⟨c, hc⟩ : ∃ c, UInt8.ofNat y = c := ⟨_, rfl⟩
        have em : c.toNat = y := by rw [← hc, UInt8.toNat_ofNat']; omega
        have wy : IntKind.u8.wrap (y : Int) = (y : Int) := by rw [IntKind.wrap_u8]; omega
        have HE : Hid (D ++ [c] = Wd.num n) := by unfold Hid; rw [HX.out.1, ← HV.out, Wd.vl_small (by omega), hc]
        clear h128 hc
        go_wp2_with (at_builtin; refine app_byte2 _ rfl _ _ rfl base _ L rfl (O2.out.alloc _) ⟨wr.heap.size, 0, none⟩ c rfl (by rw [em]; simp) (by have := DL.out; omega) (by have := BS.out; simp; omega) ?_)
        intro v5 w5 o5 g5
        have O5 : Hid (Ob w5 base v5 (l ++ Wd.num n)) := by unfold Hid; rw [← HE.out, ← List.append_assoc, HL.out]; exact o5
        have G5 : Hid (Gb w v w5 v5) := G2.out.trans g5.alloc
        clear o5 g5
        go_wp2
        go_ret
        exact ⟨_, rfl, O5.out, G5.out⟩
  · have hrx := hr (by omega)
    subst hrx
    clear hx hr hi
    go_enter Tryd.func62, Tryd.ntmps62
    go_wp2
    go_loopw [0, 5] (fun bv xv W => ∃ (y : Nat) (D : List UInt8), xv = .int .u64 (y : Nat) ∧ y < 18446744073709551616 ∧ D ++ Wd.vl y = Wd.vl r ∧ Ob W base bv (l ++ D) ∧ Gb w v W bv) (fun _ xv _ => (intOf xv).toNat)
    case atStart => exact ⟨r, [], rfl, HX.out.2, rfl, by rw [List.append_nil]; exact O.out, Gb.refl _ _⟩
    case round =>
      obtain ⟨y, D, rfl, hy, hv, ho, hg⟩ := hrel
      have O2 : Hid (Ob wr base u0 (l ++ D)) := ho
      have G2 : Hid (Gb w v wr u0) := hg
      have HV : Hid (D ++ Wd.vl y = Wd.vl r) := hv
      have DL : Hid ((l ++ D).length ≤ 1000000010) := by
        unfold Hid
        have h1 := vl_len HX.out.2
        have h2 := congrArg List.length hv
        have h3 := LL.out.1
        rw [List.length_append] at h2 ⊢
        omega
      have BS : Hid (base ≤ wr.heap.size) := Nat.le_trans LL.out.2 hg.g.size
      clear ho hg hv
      obtain ⟨L, hL⟩ : ∃ L, l ++ D = L := ⟨_, rfl⟩
      have HL : Hid (l ++ D = L) := hL
      rw [hL] at O2 DL
      clear hL
      by_cases h128 : 128 ≤ y
      · obtain ⟨m9, hm9⟩ : ∃ m, y % 128 = m := ⟨_, rfl⟩
        obtain ⟨d, hd⟩ : ∃ d, y / 128 = d := ⟨_, rfl⟩
        have hmi : (y : Int) % 128 = m9 := by omega
        have hdi : (y : Int) / 128 = d := by omega
        have m1' : m9 < 128 := by omega
        have hgi : (127 : Int) < (y : Int) := by omega
        obtain ⟨c, hc⟩ : ∃ c, UInt8.ofNat (m9 + 128) = c := ⟨_, rfl⟩
        have em : c.toNat = m9 + 128 := by rw [← hc, UInt8.toNat_ofNat']; omega
        have HE : Hid (Wd.vl y = c :: Wd.vl d) := by unfold Hid; rw [Wd.vl_great h128, hm9, hd, hc]
        have hdl : Hid (d < y) := by unfold Hid; omega
        clear hm9 hd h128 hc
        go_wp2_with (at_builtin; refine app_byte2 _ rfl _ _ rfl base _ L rfl (O2.out.alloc _) ⟨wr.heap.size, 0, none⟩ c rfl (by rw [em]; simp) (by have := DL.out; omega) (by have := BS.out; simp; omega) ?_)
        intro v5 w5 o5 g5
        have O5 : Hid (Ob w5 base v5 (l ++ (D ++ [c]))) := by unfold Hid; rw [← List.append_assoc, HL.out]; exact o5
        have G5 : Hid (Gb w v w5 v5) := G2.out.trans g5.alloc
        clear o5 g5
        go_wp2
        go_roundw
        case rel =>
          refine ⟨d, D ++ [c], rfl, by have := hdl.out; omega, ?_, O5.out, G5.out⟩
          rw [List.append_assoc, ← HV.out, HE.out]
          rfl
        case measure => have := hdl.out; simp [intOf]; omega
      · have hgi : ¬ (127 : Int) < (y : Int) := by omega
        obtain ⟨c, hc⟩ : ∃ c, UInt8.ofNat y = c := ⟨_, rfl⟩
        have em : c.toNat = y := by rw [← hc, UInt8.toNat_ofNat']; omega
        have wy : IntKind.u8.wrap (y : Int) = (y : Int) := by rw [IntKind.wrap_u8]; omega
        have HE : Hid (D ++ [c] = Wd.num n) := by unfold Hid; rw [HX.out.1, ← HV.out, Wd.vl_small (by omega), hc]
        clear h128 hc
        go_wp2_with (at_builtin; refine app_byte2 _ rfl _ _ rfl base _ L rfl (O2.out.alloc _) ⟨wr.heap.size, 0, none⟩ c rfl (by rw [em]; simp) (by have := DL.out; omega) (by have := BS.out; simp; omega) ?_)
        intro v5 w5 o5 g5
        have O5 : Hid (Ob w5 base v5 (l ++ Wd.num n)) := by unfold Hid; rw [← HE.out, ← List.append_assoc, HL.out]; exact o5
        have G5 : Hid (Gb w v w5 v5) := G2.out.trans g5.alloc
        clear o5 g5
        go_wp2
        go_ret
        exact ⟨_, rfl, O5.out, G5.out⟩
end Go.Proofs.YthccneiafofakaaDoor

namespace Go.Proofs.YthccneiafofakaaDoor
open Go.RowKit
set_option linter.unusedVariables false

theorem Ro.gb {w w' : World} {v u x : Value} {xs : List Int} {B : Nat} (h : Ro w x xs) (g : Gb w v w' u) (hx : ∀ y n c, x = .slice (some y) n c → xs ≠ [] → v.ownBlock ≠ some y.block) : Ro w' x xs := by
  obtain ⟨a, c, rfl, h1, h2, h3⟩ := h
  refine ⟨a, c, rfl, h1, h2, fun hn => ?_⟩
  obtain ⟨y, rfl, hy, hc⟩ := h3 hn
  refine ⟨y, rfl, Nat.lt_of_lt_of_le hy g.g.size, fun i d hd => ?_⟩
  rw [g.g.cell_far (y.add i) (by rw [add_block]; exact hy) (by rw [add_block]; exact fun e => hx y _ _ rfl hn e.symm)]
  exact hc i d hd
set_option maxRecDepth 100000 in
set_option maxHeartbeats 4000000 in
theorem rnums_any (base : Nat) (v x : Value) (l : List UInt8) (xs : List Int) (w w0 : World) (h : Ob w base v l) (hb : base ≤ w.heap.size) (hl : l.length + 10 * (xs.length + 1) ≤ 900000000) (hi : ∀ n ∈ xs, Wd.In64 n) (hx : Ro w0 x xs) (h0 : w0.heap.size ≤ base) (hw : Below w0.heap.size w0 w) :
    Calls Tryd.prog 63 #[v, x] w fun e w' => ∃ u, e = .returned u ∧ Ob w' base u (l ++ Wd.wr ((xs.length : Int) :: xs)) ∧ Gb w v w' u := by
  have O : Hid (Ob w base v l) := h
  have LL : Hid (l.length + 10 * (xs.length + 1) ≤ 900000000 ∧ base ≤ w.heap.size ∧ w0.heap.size ≤ base) := ⟨hl, hb, h0⟩
  have HI : Hid (∀ n ∈ xs, Wd.In64 n) := hi
  have HX : Hid (Ro w0 x xs) := hx
  have BW : Hid (Below w0.heap.size w0 w) := hw
  obtain ⟨ad, cap, rfl, -, hc2, -⟩ := hx
  have hxl : xs.length ≤ 90000000 := by omega
  have IL : Hid (Wd.In64 (xs.length : Int)) := by unfold Hid Wd.In64; omega
  clear h hb hl hi h0 hw
  go_enter Tryd.func63, Tryd.ntmps63
  go_wp2_with fail
  refine (rnumb_any base v l (xs.length : Int) w O.out LL.out.2.1 (by have := LL.out.1; omega) IL.out).mono ?_
  rintro e w1 ⟨u1, rfl, ho, hg⟩
  have O1 : Hid (Ob w1 base u1 (l ++ Wd.num xs.length)) := ho
  have G1 : Hid (Gb w v w1 u1) := hg
  clear ho hg
  go_wp2
  go_loopw [0, 5] (fun bv iv W => ∃ (k : Nat), iv = .int .i64 (k : Nat) ∧ k ≤ xs.length ∧ Ob W base bv (l ++ Wd.wr ((xs.length : Int) :: xs.take k)) ∧ Gb w v W bv) (fun _ iv _ => xs.length - (intOf iv).toNat)
  case atStart => exact ⟨0, rfl, Nat.zero_le _, by have := O1.out; rw [← Wd.wr_one] at this; exact this, G1.out⟩
  case round =>
    obtain ⟨k, rfl, hk, ho, hg⟩ := hrel
    have O2 : Hid (Ob wr base u0 (l ++ Wd.wr ((xs.length : Int) :: xs.take k))) := ho
    have G2 : Hid (Gb w v wr u0) := hg
    clear ho hg
    by_cases he : k = xs.length
    · subst he
      go_wp2
      go_ret
      exact ⟨_, rfl, by have := O2.out; rwa [List.take_length] at this, G2.out⟩
    · have hlt : k < xs.length := by omega
      have hli : (k : Int) < (xs.length : Int) := by omega
      obtain ⟨n, hn⟩ : ∃ n, xs[k]? = some n := ⟨_, List.getElem?_eq_getElem hlt⟩
      have BWR : Hid (Below w0.heap.size w0 wr) := BW.out.trans (G2.out.below (by have := LL.out; omega) (fun b hb => by have := (O.out.block b hb).1; have := LL.out; omega))
      obtain ⟨ad', cap', e, -, -, hc⟩ := HX.out.below BWR.out
      injection e with e1 e2 e3
      subst e1 e3
      obtain ⟨y, rfl, hy, hcell⟩ := hc (by intro e; subst e; simp at hlt)
      have cc : wr.cell? (y.add k) = some (.int .i64 n) := hcell k n hn
      have IN : Hid (Wd.In64 n) := HI.out n (List.mem_of_getElem? hn)
      have LN : Hid ((l ++ Wd.wr ((xs.length : Int) :: xs.take k)).length ≤ 1000000000) := by
        unfold Hid
        have h1 := wr_len (xs := (xs.length : Int) :: xs.take k) (fun n hn => by
          rcases List.mem_cons.1 hn with rfl | hn
          · exact IL.out
          · exact HI.out n (List.mem_of_mem_take hn))
        rw [List.length_append]
        rw [List.length_cons, List.length_take] at h1
        have := LL.out.1
        omega
      have NX : Hid (l ++ Wd.wr ((xs.length : Int) :: xs.take k) ++ Wd.num n = l ++ Wd.wr ((xs.length : Int) :: xs.take (k + 1))) := by
        unfold Hid
        obtain ⟨hi, e⟩ := List.getElem?_eq_some_iff.1 hn
        rw [List.take_succ_eq_append_getElem hi, e, List.append_assoc, ← List.cons_append, Wd.wr_append, Wd.wr_one]
      obtain ⟨L, hL⟩ : ∃ L, l ++ Wd.wr ((xs.length : Int) :: xs.take k) = L := ⟨_, rfl⟩
      rw [hL] at O2 LN NX
      clear hc hcell hy hn hL
      go_wp2_with fail
      refine (rnumb_any base u0 L n wr O2.out (Nat.le_trans LL.out.2.1 G2.out.g.size) LN.out IN.out).mono ?_
      rintro e w2 ⟨u2, rfl, ho, hg⟩
      have O3 : Hid (Ob w2 base u2 (l ++ Wd.wr ((xs.length : Int) :: xs.take (k + 1)))) := by rw [← NX.out]; exact ho
      have G3 : Hid (Gb w v w2 u2) := G2.out.trans hg
      clear ho hg cc
      go_wp2
      go_roundw
      case rel => exact ⟨k + 1, rfl, by omega, O3.out, G3.out⟩
      case measure => simp [intOf]; omega
end Go.Proofs.YthccneiafofakaaDoor

namespace Go.Proofs.YthccneiafofakaaDoor
open Go.RowKit
set_option linter.unusedVariables false

/-- what is there while a world is written: the bytes L so far. -/
structure Ei (w w1 : World) (W : WV) (u1 u2 u3 u4 u5 : Value) (bv : Value) (L : List UInt8) (V : World) : Prop where
  o : Ob V (w.heap.size + 1) bv L
  bl : Below (w.heap.size + 1) w1 V
  s : w.heap.size + 1 ≤ V.heap.size
  b : Bw V w.heap.size W u1 u2 u3 u4 u5
theorem Ei.step {w w1 : World} {W : WV} {u1 u2 u3 u4 u5 bv bv' : Value} {L L' : List UInt8} {V V' : World} (h : Ei w w1 W u1 u2 u3 u4 u5 bv L V) (g : Gb V bv V' bv') (o : Ob V' (w.heap.size + 1) bv' L') : Ei w w1 W u1 u2 u3 u4 u5 bv' L' V' := by
  have k : Below (w.heap.size + 1) V V' := g.below h.s (fun b hb => (h.o.block b hb).1)
  exact ⟨o, h.bl.trans k, Nat.le_trans h.s k.size, h.b.below k (Nat.lt_succ_self _)⟩
theorem Ei.stays {w w1 : World} {W : WV} {u1 u2 u3 u4 u5 bv : Value} {L : List UInt8} {V V' : World} (h : Ei w w1 W u1 u2 u3 u4 u5 bv L V) (k : Below V.heap.size V V') : Ei w w1 W u1 u2 u3 u4 u5 bv L V' :=
  ⟨World.ownsRow.kept h.o (row := none) ⟨k.os, k.tape, k.output, k.size, fun i hi _ => k.block i hi⟩ (by cases bv.ownBlock <;> simp), h.bl.trans (k.mono h.s), Nat.le_trans h.s k.size, h.b.below k h.b.lt⟩
theorem mem_nums {W : WV} {n : Int} : n ∈ Wd.nums W ↔ n = W.turn ∨ n = W.next ∨ n = W.wide ∨ n = W.high ∨ n = W.gs.length ∨ n ∈ W.gs ∨ n = W.os.length ∨ n ∈ W.os ∨ n = W.gold.length ∨ n ∈ W.gold ∨ n = W.us.length ∨ n ∈ W.us.flatMap Wd.unums ∨ n = W.qs.length ∨ n ∈ W.qs.flatMap Wd.jnums := by simp [Wd.nums]
theorem pre_len {xs : List Int} (h : ∀ n ∈ xs, Wd.In64 n) {m : Nat} (hm : xs.length ≤ m) : (Wd.wr xs).length ≤ 10 * m := by
  have := wr_len h
  omega
theorem in_nums1 {W : WV} (h : ∀ n ∈ Wd.nums W, Wd.In64 n) (k : Nat) : ∀ n ∈ nums1 W k, Wd.In64 n := by
  intro n hn
  refine h n (mem_nums.2 ?_)
  match k with
  | 0 => simp [nums1] at hn; omega
  | 1 => simp [nums1] at hn; rcases hn with h | h | h | h | h | h <;> simp [h]
  | 2 => simp [nums1] at hn; rcases hn with h | h | h | h | h | h | h | h <;> simp [h]
  | _ + 3 => simp [nums1] at hn; rcases hn with h | h | h | h | h | h | h | h | h | h <;> simp [h]
theorem in_nums2 {W : WV} (h : ∀ n ∈ Wd.nums W, Wd.In64 n) (k : Nat) : ∀ n ∈ nums2 W k, Wd.In64 n := by
  intro n hn
  unfold nums2 at hn
  rcases List.mem_append.1 hn with hn | hn
  · exact in_nums1 h 3 n hn
  · refine h n (mem_nums.2 ?_)
    rcases List.mem_cons.1 hn with hn | hn
    · simp [hn]
    · obtain ⟨u, hu, hn⟩ := List.mem_flatMap.1 hn
      have : n ∈ W.us.flatMap Wd.unums := List.mem_flatMap.2 ⟨u, List.mem_of_mem_take hu, hn⟩
      simp only [this, true_or, or_true]
theorem in_nums3 {W : WV} (h : ∀ n ∈ Wd.nums W, Wd.In64 n) (k : Nat) : ∀ n ∈ nums3 W k, Wd.In64 n := by
  intro n hn
  unfold nums3 at hn
  rcases List.mem_append.1 hn with hn | hn
  · exact in_nums2 h W.us.length n hn
  · refine h n (mem_nums.2 ?_)
    rcases List.mem_cons.1 hn with hn | hn
    · simp [hn]
    · obtain ⟨u, hu, hn⟩ := List.mem_flatMap.1 hn
      have : n ∈ W.qs.flatMap Wd.jnums := List.mem_flatMap.2 ⟨u, List.mem_of_mem_take hu, hn⟩
      simp only [this, or_true]
set_option maxRecDepth 100000 in
set_option maxHeartbeats 16000000 in
theorem rencode_any (v : Value) (W : WV) (w : World) (h : Wl w v W) (hs : WSmall W) (hi : ∀ n ∈ Wd.nums W, Wd.In64 n) :
    Calls Tryd.prog 28 #[v] w fun e w' => ∃ u, e = .returned u ∧ Ob w' w.heap.size u (Wd.enc W) ∧ Below w.heap.size w w' := by
  have H : Hid (Wl w v W) := h
  have S : Hid (WSmall W) := hs
  have HI : Hid (∀ n ∈ Wd.nums W, Wd.In64 n) := hi
  obtain ⟨u1, u2, u3, u4, u5, rfl, h1, h2, h3, h4, h5⟩ := h
  obtain ⟨a1, k1, rfl, -⟩ := h1
  obtain ⟨a2, k2, rfl, -⟩ := h2
  obtain ⟨a3, k3, rfl, -⟩ := h3
  obtain ⟨a4, k4, rfl, -⟩ := h4
  obtain ⟨a5, k5, rfl, -⟩ := h5
  clear hs hi
  go_enter Tryd.func28, Tryd.ntmps28
  go_upto_region 1 with fail
  have B0 : Hid (Below w.heap.size w (w.alloc (Obj.cells #[.int .i64 W.turn, .int .i64 W.next, .int .i64 W.wide, .int .i64 W.high, .slice a1 W.gs.length k1, .slice a2 W.os.length k2, .slice a3 W.gold.length k3, .slice a4 W.us.length k4, .slice a5 W.qs.length k5] 49))) := (Below.refl _ _).alloc (Nat.le_refl _) _
  have E0 : Hid (Ei w (w.alloc (Obj.cells #[.int .i64 W.turn, .int .i64 W.next, .int .i64 W.wide, .int .i64 W.high, .slice a1 W.gs.length k1, .slice a2 W.os.length k2, .slice a3 W.gold.length k3, .slice a4 W.us.length k4, .slice a5 W.qs.length k5] 49)) W (.slice a1 W.gs.length k1) (.slice a2 W.os.length k2) (.slice a3 W.gold.length k3) (.slice a4 W.us.length k4) (.slice a5 W.qs.length k5) (.slice none 0 0) [] (w.alloc (Obj.cells #[.int .i64 W.turn, .int .i64 W.next, .int .i64 W.wide, .int .i64 W.high, .slice a1 W.gs.length k1, .slice a2 W.os.length k2, .slice a3 W.gold.length k3, .slice a4 W.us.length k4, .slice a5 W.qs.length k5] 49))) := ⟨Ob.nil _ _, Below.refl _ _, by simp, Bw.mk' W _ _ _ _ _ rfl⟩
  generalize w.alloc (Obj.cells #[.int .i64 W.turn, .int .i64 W.next, .int .i64 W.wide, .int .i64 W.high, .slice a1 W.gs.length k1, .slice a2 W.os.length k2, .slice a3 W.gold.length k3, .slice a4 W.us.length k4, .slice a5 W.qs.length k5] 49) = w1 at *
  have WL : Hid (∀ V, Below (w.heap.size + 1) w1 V → Below w.heap.size w V) := fun V hV => B0.out.trans (hV.mono (by omega))
  have ck := E0.out.b.c0
  go_wp2_with fail
  refine (rnumb_any (w.heap.size + 1) _ [] W.turn _ E0.out.o E0.out.s (by simp) (HI.out _ (mem_nums.2 (by simp)))).mono ?_
  rintro e x0 ⟨b0, rfl, ho, hg⟩
  have E1 : Hid (Ei w w1 W (.slice a1 W.gs.length k1) (.slice a2 W.os.length k2) (.slice a3 W.gold.length k3) (.slice a4 W.us.length k4) (.slice a5 W.qs.length k5) b0 (Wd.wr [W.turn]) x0) := E0.out.step hg (by have := ho; rw [List.nil_append, ← Wd.wr_one] at this; exact this)
  clear ho hg ck E0
  have ck := E1.out.b.c1
  go_wp2_with fail
  refine (rnumb_any (w.heap.size + 1) _ (Wd.wr [W.turn]) W.next _ E1.out.o E1.out.s (by have := pre_len (xs := [W.turn]) (m := 4) (fun n hn => HI.out n (mem_nums.2 (by simp at hn; simp [hn]))) (by simp); omega) (HI.out _ (mem_nums.2 (by simp)))).mono ?_
  rintro e x1 ⟨b1, rfl, ho, hg⟩
  have E2 : Hid (Ei w w1 W (.slice a1 W.gs.length k1) (.slice a2 W.os.length k2) (.slice a3 W.gold.length k3) (.slice a4 W.us.length k4) (.slice a5 W.qs.length k5) b1 (Wd.wr [W.turn, W.next]) x1) := E1.out.step hg (by have := ho; rw [← Wd.wr_one, ← Wd.wr_append] at this; exact this)
  clear ho hg ck E1
  have ck := E2.out.b.c2
  go_wp2_with fail
  refine (rnumb_any (w.heap.size + 1) _ (Wd.wr [W.turn, W.next]) W.wide _ E2.out.o E2.out.s (by have := pre_len (xs := [W.turn, W.next]) (m := 4) (fun n hn => HI.out n (mem_nums.2 (by simp at hn; simp <;> omega))) (by simp); omega) (HI.out _ (mem_nums.2 (by simp)))).mono ?_
  rintro e x2 ⟨b2, rfl, ho, hg⟩
  have E3 : Hid (Ei w w1 W (.slice a1 W.gs.length k1) (.slice a2 W.os.length k2) (.slice a3 W.gold.length k3) (.slice a4 W.us.length k4) (.slice a5 W.qs.length k5) b2 (Wd.wr [W.turn, W.next, W.wide]) x2) := E2.out.step hg (by have := ho; rw [← Wd.wr_one, ← Wd.wr_append] at this; exact this)
  clear ho hg ck E2
  have ck := E3.out.b.c3
  go_wp2_with fail
  refine (rnumb_any (w.heap.size + 1) _ (Wd.wr [W.turn, W.next, W.wide]) W.high _ E3.out.o E3.out.s (by have := pre_len (xs := [W.turn, W.next, W.wide]) (m := 4) (fun n hn => HI.out n (mem_nums.2 (by simp at hn; simp <;> omega))) (by simp); omega) (HI.out _ (mem_nums.2 (by simp)))).mono ?_
  rintro e x3 ⟨b3, rfl, ho, hg⟩
  have E4 : Hid (Ei w w1 W (.slice a1 W.gs.length k1) (.slice a2 W.os.length k2) (.slice a3 W.gold.length k3) (.slice a4 W.us.length k4) (.slice a5 W.qs.length k5) b3 (Wd.wr [W.turn, W.next, W.wide, W.high]) x3) := E3.out.step hg (by have := ho; rw [← Wd.wr_one, ← Wd.wr_append] at this; exact this)
  clear ho hg ck E3
  have ck := E4.out.b.c4
  go_wp2_with fail
  refine (rnums_any (w.heap.size + 1) _ (.slice a1 W.gs.length k1) (Wd.wr (nums1 W 0)) W.gs _ w E4.out.o E4.out.s (by have h1 := pre_len (in_nums1 HI.out 0) (nums1_len S.out 0); have h2 := S.out.g; omega) (fun n hn => HI.out n (mem_nums.2 (by simp [hn]))) H.out.slices.1 (by omega) (WL.out _ E4.out.bl)).mono ?_
  rintro e x4 ⟨b4, rfl, ho, hg⟩
  have E5 : Hid (Ei w w1 W (.slice a1 W.gs.length k1) (.slice a2 W.os.length k2) (.slice a3 W.gold.length k3) (.slice a4 W.us.length k4) (.slice a5 W.qs.length k5) b4 (Wd.wr (nums1 W 1)) x4) := E4.out.step hg (by have := ho; rw [← Wd.wr_append] at this; exact this)
  clear ho hg ck E4
  have ck := E5.out.b.c5
  go_wp2_with fail
  refine (rnums_any (w.heap.size + 1) _ (.slice a2 W.os.length k2) (Wd.wr (nums1 W 1)) W.os _ w E5.out.o E5.out.s (by have h1 := pre_len (in_nums1 HI.out 1) (nums1_len S.out 1); have h2 := S.out.o; omega) (fun n hn => HI.out n (mem_nums.2 (by simp [hn]))) H.out.slices.2.1 (by omega) (WL.out _ E5.out.bl)).mono ?_
  rintro e x5 ⟨b5, rfl, ho, hg⟩
  have E6 : Hid (Ei w w1 W (.slice a1 W.gs.length k1) (.slice a2 W.os.length k2) (.slice a3 W.gold.length k3) (.slice a4 W.us.length k4) (.slice a5 W.qs.length k5) b5 (Wd.wr (nums1 W 2)) x5) := E5.out.step hg (by have := ho; rw [← Wd.wr_append] at this; exact this)
  clear ho hg ck E5
  have ck := E6.out.b.c6
  go_wp2_with fail
  refine (rnums_any (w.heap.size + 1) _ (.slice a3 W.gold.length k3) (Wd.wr (nums1 W 2)) W.gold _ w E6.out.o E6.out.s (by have h1 := pre_len (in_nums1 HI.out 2) (nums1_len S.out 2); have h2 := S.out.p; omega) (fun n hn => HI.out n (mem_nums.2 (by simp [hn]))) H.out.slices.2.2.1 (by omega) (WL.out _ E6.out.bl)).mono ?_
  rintro e x6 ⟨b6, rfl, ho, hg⟩
  have E7 : Hid (Ei w w1 W (.slice a1 W.gs.length k1) (.slice a2 W.os.length k2) (.slice a3 W.gold.length k3) (.slice a4 W.us.length k4) (.slice a5 W.qs.length k5) b6 (Wd.wr (nums1 W 3)) x6) := E6.out.step hg (by have := ho; rw [← Wd.wr_append] at this; exact this)
  clear ho hg ck E6
  have ck := E7.out.b.c7
  go_wp2_with fail
  refine (rnumb_any (w.heap.size + 1) _ (Wd.wr (nums1 W 3)) (W.us.length : Int) _ E7.out.o E7.out.s (by have h1 := pre_len (in_nums1 HI.out 3) (nums1_len S.out 3); omega) (HI.out _ (mem_nums.2 (by simp)))).mono ?_
  rintro e x7 ⟨b7, rfl, ho, hg⟩
  have E8 : Hid (Ei w w1 W (.slice a1 W.gs.length k1) (.slice a2 W.os.length k2) (.slice a3 W.gold.length k3) (.slice a4 W.us.length k4) (.slice a5 W.qs.length k5) b7 (Wd.wr (nums2 W 0)) x7) := E7.out.step hg (by have := ho; rw [← Wd.wr_one, ← Wd.wr_append] at this; exact this)
  clear ho hg ck E7
  go_wp2
  go_loopw [3, 4] (fun bv iv V => ∃ k : Nat, k ≤ W.us.length ∧ iv = .int .i64 (k : Nat) ∧ Ei w w1 W (.slice a1 W.gs.length k1) (.slice a2 W.os.length k2) (.slice a3 W.gold.length k3) (.slice a4 W.us.length k4) (.slice a5 W.qs.length k5) bv (Wd.wr (nums2 W k)) V) (fun _ iv _ => W.us.length - (intOf iv).toNat)
  case atStart => exact ⟨0, Nat.zero_le _, rfl, E8.out⟩
  case round =>
    obtain ⟨k, hk, rfl, hE⟩ := hrel
    have E : Hid (Ei w w1 W (.slice a1 W.gs.length k1) (.slice a2 W.os.length k2) (.slice a3 W.gold.length k3) (.slice a4 W.us.length k4) (.slice a5 W.qs.length k5) u3 (Wd.wr (nums2 W k)) wr) := hE
    clear hE E8
    have c7 := E.out.b.c7
    by_cases hkl : k = W.us.length
    · have E' : Hid (Ei w w1 W (.slice a1 W.gs.length k1) (.slice a2 W.os.length k2) (.slice a3 W.gold.length k3) (.slice a4 W.us.length k4) (.slice a5 W.qs.length k5) u3 (Wd.wr (nums2 W W.us.length)) wr) := by have := E.out; rwa [hkl] at this
      subst hkl
      clear hk E
      have c8 := E'.out.b.c8
      go_wp2_with fail
      refine (rnumb_any (w.heap.size + 1) _ (Wd.wr (nums2 W W.us.length)) (W.qs.length : Int) _ E'.out.o E'.out.s (by have h1 := pre_len (in_nums2 HI.out W.us.length) (nums2_len S.out W.us.length); omega) (HI.out _ (mem_nums.2 (by simp)))).mono ?_
      rintro e x8 ⟨b8, rfl, ho, hg⟩
      have E9 : Hid (Ei w w1 W (.slice a1 W.gs.length k1) (.slice a2 W.os.length k2) (.slice a3 W.gold.length k3) (.slice a4 W.us.length k4) (.slice a5 W.qs.length k5) b8 (Wd.wr (nums3 W 0)) x8) := E'.out.step hg (by have := ho; rw [← Wd.wr_one, ← Wd.wr_append] at this; exact this)
      clear ho hg c7 c8 E'
      go_wp2
      go_loopw [3, 8] (fun bv iv V => ∃ k : Nat, k ≤ W.qs.length ∧ iv = .int .i64 (k : Nat) ∧ Ei w w1 W (.slice a1 W.gs.length k1) (.slice a2 W.os.length k2) (.slice a3 W.gold.length k3) (.slice a4 W.us.length k4) (.slice a5 W.qs.length k5) bv (Wd.wr (nums3 W k)) V) (fun _ iv _ => W.qs.length - (intOf iv).toNat)
      case atStart => exact ⟨0, Nat.zero_le _, rfl, E9.out⟩
      case round =>
        obtain ⟨k, hk, rfl, hE⟩ := hrel
        have E : Hid (Ei w w1 W (.slice a1 W.gs.length k1) (.slice a2 W.os.length k2) (.slice a3 W.gold.length k3) (.slice a4 W.us.length k4) (.slice a5 W.qs.length k5) u3 (Wd.wr (nums3 W k)) wr) := hE
        clear hE E9
        have c8 := E.out.b.c8
        by_cases hkl : k = W.qs.length
        · subst hkl
          clear hk
          go_wp2
          go_ret
          refine ⟨_, rfl, ?_, WL.out _ E.out.bl⟩
          have h1 := E.out.o
          rw [nums3_all] at h1
          refine ⟨h1.1, ?_⟩
          rcases h1.2 with h2 | ⟨g, cap, cur, h2, h3, h4⟩
          · exact .inl h2
          · exact .inr ⟨g, cap, cur, h2, by omega, h4⟩
        · have hlt : k < W.qs.length := by omega
          have hli : (k : Int) < (W.qs.length : Int) := by omega
          have hq : W.qs.length ≤ 1048576 := S.out.q
          obtain ⟨j, hj⟩ : ∃ j, W.qs[k]? = some j := ⟨_, List.getElem?_eq_getElem hlt⟩
          obtain ⟨-, -, -, -, b, c, e, -, -, hc⟩ := (H.out.below (WL.out _ E.out.bl)).slices
          injection e with e1 e2 e3
          subst e1 e3
          obtain ⟨x, rfl, hx, hcell⟩ := hc (by intro e; rw [e] at hlt; simp at hlt)
          obtain ⟨d0, d1, d2, d3⟩ := hcell k j hj
          have IJ : Hid (∀ n ∈ Wd.jnums j, Wd.In64 n) := fun n hn => HI.out n (mem_nums.2 (by have : n ∈ W.qs.flatMap Wd.jnums := List.mem_flatMap.2 ⟨j, List.mem_of_getElem? hj, hn⟩; simp only [this, or_true]))
          have NX : Hid (nums3 W (k + 1) = nums3 W k ++ Wd.jnums j) := nums3_next hj
          have PL : Hid ((Wd.wr (nums3 W k)).length ≤ 180000000) := by have := pre_len (in_nums3 HI.out k) (nums3_len S.out k); unfold Hid; omega
          clear hc hcell hx hj hkl
          go_upto_region 23 with fail
          have NE : Hid (u3.ownBlock ≠ some wr.heap.size) := fun h => by have := (E.out.o.block _ h).2; omega
          have J0 : Hid (Jbc (wr.alloc (Obj.cells #[.int .i64 j.player, .int .i64 j.unit, .int .i64 j.kind, .int .i64 j.left] 105)) ⟨wr.heap.size, 0, none⟩ j) := Jbc.mk' j rfl
          have F0 : Hid (Ei w w1 W (.slice a1 W.gs.length k1) (.slice a2 W.os.length k2) (.slice a3 W.gold.length k3) (.slice a4 W.us.length k4) (.slice (some x) W.qs.length k5) u3 (Wd.wr (nums3 W k)) (wr.alloc (Obj.cells #[.int .i64 j.player, .int .i64 j.unit, .int .i64 j.kind, .int .i64 j.left] 105))) := E.out.stays ((Below.refl _ _).alloc (Nat.le_refl _) _)
          generalize (wr.alloc (Obj.cells #[.int .i64 j.player, .int .i64 j.unit, .int .i64 j.kind, .int .i64 j.left] 105)) = y0 at *
          generalize wr.heap.size = zj at *
          have G0 : Hid (Gb y0 u3 y0 u3) := Gb.refl _ _
          clear d0 d1 d2 d3 c8 E
          have cj := J0.out.c0
          go_wp2_with fail
          refine (rnumb_any (w.heap.size + 1) _ (Wd.wr (nums3 W k)) j.player _ F0.out.o F0.out.s (by have := PL.out; omega) (IJ.out _ (by simp [Wd.jnums]))).mono ?_
          rintro e y1 ⟨t0, rfl, ho, hg⟩
          have F1 : Hid (Ei w w1 W (.slice a1 W.gs.length k1) (.slice a2 W.os.length k2) (.slice a3 W.gold.length k3) (.slice a4 W.us.length k4) (.slice (some x) W.qs.length k5) t0 (Wd.wr (nums3 W k ++ [j.player])) y1) := F0.out.step hg (by have := ho; rw [← Wd.wr_one, ← Wd.wr_append] at this; exact this)
          have G1 : Hid (Gb y0 u3 y1 t0) := G0.out.trans hg
          have J1 : Hid (Jbc y1 ⟨zj, 0, none⟩ j) := by
            have z0 := J0.out.lt
            obtain ⟨r0, r1, r2, r3⟩ := J0.out
            have far : ∀ i, y1.cell? ⟨zj, i, none⟩ = y0.cell? ⟨zj, i, none⟩ := fun i => G1.out.g.cell_far ⟨zj, i, none⟩ z0 (fun e => NE.out e.symm)
            exact ⟨by rw [far]; exact r0, by rw [far]; exact r1, by rw [far]; exact r2, by rw [far]; exact r3⟩
          clear ho hg cj F0
          have cj := J1.out.c1
          go_wp2_with fail
          refine (rnumb_any (w.heap.size + 1) _ (Wd.wr (nums3 W k ++ [j.player])) j.unit _ F1.out.o F1.out.s (by have h1 := PL.out; have h2 := pre_len (xs := [j.player]) (m := 4) (fun n hn => IJ.out n (by simp at hn; simp [Wd.jnums]; omega)) (by simp); rw [Wd.wr_append, List.length_append]; omega) (IJ.out _ (by simp [Wd.jnums]))).mono ?_
          rintro e y2 ⟨t1, rfl, ho, hg⟩
          have F2 : Hid (Ei w w1 W (.slice a1 W.gs.length k1) (.slice a2 W.os.length k2) (.slice a3 W.gold.length k3) (.slice a4 W.us.length k4) (.slice (some x) W.qs.length k5) t1 (Wd.wr (nums3 W k ++ [j.player, j.unit])) y2) := F1.out.step hg (by have := ho; rw [← Wd.wr_one, ← Wd.wr_append] at this; rw [List.append_assoc] at this; exact this)
          have G2 : Hid (Gb y0 u3 y2 t1) := G1.out.trans hg
          have J2 : Hid (Jbc y2 ⟨zj, 0, none⟩ j) := by
            have z0 := J0.out.lt
            obtain ⟨r0, r1, r2, r3⟩ := J0.out
            have far : ∀ i, y2.cell? ⟨zj, i, none⟩ = y0.cell? ⟨zj, i, none⟩ := fun i => G2.out.g.cell_far ⟨zj, i, none⟩ z0 (fun e => NE.out e.symm)
            exact ⟨by rw [far]; exact r0, by rw [far]; exact r1, by rw [far]; exact r2, by rw [far]; exact r3⟩
          clear ho hg cj F1
          have cj := J2.out.c2
          go_wp2_with fail
          refine (rnumb_any (w.heap.size + 1) _ (Wd.wr (nums3 W k ++ [j.player, j.unit])) j.kind _ F2.out.o F2.out.s (by have h1 := PL.out; have h2 := pre_len (xs := [j.player, j.unit]) (m := 4) (fun n hn => IJ.out n (by simp at hn; simp [Wd.jnums]; omega)) (by simp); rw [Wd.wr_append, List.length_append]; omega) (IJ.out _ (by simp [Wd.jnums]))).mono ?_
          rintro e y3 ⟨t2, rfl, ho, hg⟩
          have F3 : Hid (Ei w w1 W (.slice a1 W.gs.length k1) (.slice a2 W.os.length k2) (.slice a3 W.gold.length k3) (.slice a4 W.us.length k4) (.slice (some x) W.qs.length k5) t2 (Wd.wr (nums3 W k ++ [j.player, j.unit, j.kind])) y3) := F2.out.step hg (by have := ho; rw [← Wd.wr_one, ← Wd.wr_append] at this; rw [List.append_assoc] at this; exact this)
          have G3 : Hid (Gb y0 u3 y3 t2) := G2.out.trans hg
          have J3 : Hid (Jbc y3 ⟨zj, 0, none⟩ j) := by
            have z0 := J0.out.lt
            obtain ⟨r0, r1, r2, r3⟩ := J0.out
            have far : ∀ i, y3.cell? ⟨zj, i, none⟩ = y0.cell? ⟨zj, i, none⟩ := fun i => G3.out.g.cell_far ⟨zj, i, none⟩ z0 (fun e => NE.out e.symm)
            exact ⟨by rw [far]; exact r0, by rw [far]; exact r1, by rw [far]; exact r2, by rw [far]; exact r3⟩
          clear ho hg cj F2
          have cj := J3.out.c3
          go_wp2_with fail
          refine (rnumb_any (w.heap.size + 1) _ (Wd.wr (nums3 W k ++ [j.player, j.unit, j.kind])) j.left _ F3.out.o F3.out.s (by have h1 := PL.out; have h2 := pre_len (xs := [j.player, j.unit, j.kind]) (m := 4) (fun n hn => IJ.out n (by simp at hn; simp [Wd.jnums]; omega)) (by simp); rw [Wd.wr_append, List.length_append]; omega) (IJ.out _ (by simp [Wd.jnums]))).mono ?_
          rintro e y4 ⟨t3, rfl, ho, hg⟩
          have F4 : Hid (Ei w w1 W (.slice a1 W.gs.length k1) (.slice a2 W.os.length k2) (.slice a3 W.gold.length k3) (.slice a4 W.us.length k4) (.slice (some x) W.qs.length k5) t3 (Wd.wr (nums3 W k ++ [j.player, j.unit, j.kind, j.left])) y4) := F3.out.step hg (by have := ho; rw [← Wd.wr_one, ← Wd.wr_append] at this; rw [List.append_assoc] at this; exact this)
          have G4 : Hid (Gb y0 u3 y4 t3) := G3.out.trans hg
          have J4 : Hid (Jbc y4 ⟨zj, 0, none⟩ j) := by
            have z0 := J0.out.lt
            obtain ⟨r0, r1, r2, r3⟩ := J0.out
            have far : ∀ i, y4.cell? ⟨zj, i, none⟩ = y0.cell? ⟨zj, i, none⟩ := fun i => G4.out.g.cell_far ⟨zj, i, none⟩ z0 (fun e => NE.out e.symm)
            exact ⟨by rw [far]; exact r0, by rw [far]; exact r1, by rw [far]; exact r2, by rw [far]; exact r3⟩
          clear ho hg cj F3
          have E5 : Hid (Ei w w1 W (.slice a1 W.gs.length k1) (.slice a2 W.os.length k2) (.slice a3 W.gold.length k3) (.slice a4 W.us.length k4) (.slice (some x) W.qs.length k5) t3 (Wd.wr (nums3 W (k + 1))) y4) := by have := F4.out; rw [NX.out]; exact this
          clear F4 J0 J1 J2 J3 J4 G0 G1 G2 G3 G4
          go_wp2
          go_roundw
          case rel => exact ⟨k + 1, by omega, rfl, E5.out⟩
          case measure => simp [intOf]; omega
    · have hlt : k < W.us.length := by omega
      have hli : (k : Int) < (W.us.length : Int) := by omega
      have hq : W.us.length ≤ 1048576 := S.out.u
      obtain ⟨j, hj⟩ : ∃ j, W.us[k]? = some j := ⟨_, List.getElem?_eq_getElem hlt⟩
      obtain ⟨-, -, -, ⟨b, c, e, -, -, hc⟩, -⟩ := (H.out.below (WL.out _ E.out.bl)).slices
      injection e with e1 e2 e3
      subst e1 e3
      obtain ⟨x, rfl, hx, hcell⟩ := hc (by intro e; rw [e] at hlt; simp at hlt)
      obtain ⟨d0, d1, d2, d3, d4, d5, d6, d7⟩ := hcell k j hj
      have IJ : Hid (∀ n ∈ Wd.unums j, Wd.In64 n) := fun n hn => HI.out n (mem_nums.2 (by have : n ∈ W.us.flatMap Wd.unums := List.mem_flatMap.2 ⟨j, List.mem_of_getElem? hj, hn⟩; simp only [this, true_or, or_true]))
      have NX : Hid (nums2 W (k + 1) = nums2 W k ++ Wd.unums j) := nums2_next hj
      have PL : Hid ((Wd.wr (nums2 W k)).length ≤ 130000000) := by have := pre_len (in_nums2 HI.out k) (nums2_len S.out k); unfold Hid; omega
      clear hc hcell hx hj hkl
      go_upto_region 15 with fail
      have F0 : Hid (Ei w w1 W (.slice a1 W.gs.length k1) (.slice a2 W.os.length k2) (.slice a3 W.gold.length k3) (.slice (some x) W.us.length k4) (.slice a5 W.qs.length k5) u3 (Wd.wr (nums2 W k)) ((wr.alloc (Obj.cells #[.int .i64 j.id, .int .i64 j.player, .int .i64 j.kind, .int .i64 j.at_, .int .i64 j.life, .int .i64 j.load, .int .i64 j.task, .int .i64 j.goal] 62)).alloc (Obj.cells #[.int .i64 j.id, .int .i64 j.player, .int .i64 j.kind, .int .i64 j.at_, .int .i64 j.life, .int .i64 j.load, .int .i64 j.task, .int .i64 j.goal] 3))) := E.out.stays (((Below.refl _ _).alloc (Nat.le_refl _) _).alloc (by simp) _)
      have LIT : Hid (Ro ((wr.alloc (Obj.cells #[.int .i64 j.id, .int .i64 j.player, .int .i64 j.kind, .int .i64 j.at_, .int .i64 j.life, .int .i64 j.load, .int .i64 j.task, .int .i64 j.goal] 62)).alloc (Obj.cells #[.int .i64 j.id, .int .i64 j.player, .int .i64 j.kind, .int .i64 j.at_, .int .i64 j.life, .int .i64 j.load, .int .i64 j.task, .int .i64 j.goal] 3)) (.slice (some ⟨wr.heap.size + 1, 0, none⟩) 8 8) (Wd.unums j)) := Ro.lit (Wd.unums j) _ rfl (by simp [Wd.unums]) (by simp)
      have NE : Hid (u3.ownBlock ≠ some (wr.heap.size + 1)) := fun h => by have := (E.out.o.block _ h).2; omega
      generalize ((wr.alloc (Obj.cells #[.int .i64 j.id, .int .i64 j.player, .int .i64 j.kind, .int .i64 j.at_, .int .i64 j.life, .int .i64 j.load, .int .i64 j.task, .int .i64 j.goal] 62)).alloc (Obj.cells #[.int .i64 j.id, .int .i64 j.player, .int .i64 j.kind, .int .i64 j.at_, .int .i64 j.life, .int .i64 j.load, .int .i64 j.task, .int .i64 j.goal] 3)) = y0 at *
      generalize wr.heap.size + 1 = zl at *
      clear d0 d1 d2 d3 d4 d5 d6 d7 c7 E
      have UL : Hid ((Wd.unums j).length = 8) := rfl
      obtain ⟨b3, hb3⟩ : ∃ b, b = u3 := ⟨_, rfl⟩
      subst hb3
      go_loopw [3, 7] (fun bv iv V => ∃ q : Nat, q ≤ 8 ∧ iv = .int .i64 (q : Nat) ∧ Ei w w1 W (.slice a1 W.gs.length k1) (.slice a2 W.os.length k2) (.slice a3 W.gold.length k3) (.slice (some x) W.us.length k4) (.slice a5 W.qs.length k5) bv (Wd.wr (nums2 W k ++ (Wd.unums j).take q)) V ∧ Gb y0 b3 V bv) (fun _ iv _ => 8 - (intOf iv).toNat)
      case atStart => exact ⟨0, by omega, rfl, by have := F0.out; rw [List.take_zero, List.append_nil]; exact this, Gb.refl _ _⟩
      case round =>
        obtain ⟨q, hq8, rfl, hE, hG⟩ := hrel
        have E2 : Hid (Ei w w1 W (.slice a1 W.gs.length k1) (.slice a2 W.os.length k2) (.slice a3 W.gold.length k3) (.slice (some x) W.us.length k4) (.slice a5 W.qs.length k5) u3 (Wd.wr (nums2 W k ++ (Wd.unums j).take q)) wr) := hE
        have G2 : Hid (Gb y0 b3 wr u3) := hG
        clear hE hG
        by_cases hq : q = 8
        · subst hq
          have E5 : Hid (Ei w w1 W (.slice a1 W.gs.length k1) (.slice a2 W.os.length k2) (.slice a3 W.gold.length k3) (.slice (some x) W.us.length k4) (.slice a5 W.qs.length k5) u3 (Wd.wr (nums2 W (k + 1))) wr) := by have := E2.out; rw [NX.out]; exact this
          clear hq8
          go_wp2
          go_roundw
          case rel => exact ⟨k + 1, by omega, rfl, E5.out⟩
          case measure => simp [intOf]; omega
        · have hql : q < (Wd.unums j).length := by rw [UL.out]; omega
          have hqi : (q : Int) < 8 := by omega
          obtain ⟨n, hn⟩ : ∃ n, (Wd.unums j)[q]? = some n := ⟨_, List.getElem?_eq_getElem hql⟩
          obtain ⟨ad9, cap9, e9, -, -, hc9⟩ := Ro.gb (B := 0) LIT.out G2.out (fun y n c h _ => by injection h with h; injection h with h; rw [← h]; exact NE.out)
          injection e9 with e1 e2 e3
          obtain ⟨x9, ex9, -, hcell9⟩ := hc9 (by intro e; rw [e] at hql; simp at hql)
          have cq : wr.cell? ⟨zl, q, none⟩ = some (.int .i64 n) := by
            have h1 := hcell9 q n hn
            rw [ex9] at e1
            injection e1 with e1
            rw [← e1, Addr.add_lit, Nat.zero_add] at h1
            exact h1
          have IN : Hid (Wd.In64 n) := IJ.out n (List.mem_of_getElem? hn)
          have LN : Hid ((Wd.wr (nums2 W k ++ (Wd.unums j).take q)).length ≤ 1000000000) := by
            unfold Hid
            have h1 := pre_len (xs := (Wd.unums j).take q) (m := 8) (fun n hn => IJ.out n (List.mem_of_mem_take hn)) (by rw [List.length_take, UL.out]; omega)
            have h2 := PL.out
            rw [Wd.wr_append, List.length_append]
            omega
          have NQ : Hid (Wd.wr (nums2 W k ++ (Wd.unums j).take q) ++ Wd.num n = Wd.wr (nums2 W k ++ (Wd.unums j).take (q + 1))) := by
            unfold Hid
            obtain ⟨hi9, e9⟩ := List.getElem?_eq_some_iff.1 hn
            rw [List.take_succ_eq_append_getElem hi9, e9, ← Wd.wr_one, ← Wd.wr_append, List.append_assoc]
          obtain ⟨L, hL⟩ : ∃ L, Wd.wr (nums2 W k ++ (Wd.unums j).take q) = L := ⟨_, rfl⟩
          rw [hL] at E2 LN NQ
          clear hc9 hcell9 hn hL e1 e2 e3 ex9 hql
          go_wp2_with fail
          refine (rnumb_any (w.heap.size + 1) u3 L n wr E2.out.o E2.out.s LN.out IN.out).mono ?_
          rintro e w5 ⟨t5, rfl, ho, hg⟩
          have E5 : Hid (Ei w w1 W (.slice a1 W.gs.length k1) (.slice a2 W.os.length k2) (.slice a3 W.gold.length k3) (.slice (some x) W.us.length k4) (.slice a5 W.qs.length k5) t5 (Wd.wr (nums2 W k ++ (Wd.unums j).take (q + 1))) w5) := E2.out.step hg (by rw [← NQ.out]; exact ho)
          have G5 : Hid (Gb y0 b3 w5 t5) := G2.out.trans hg
          clear ho hg cq
          go_wp2
          go_roundw
          case rel => exact ⟨q + 1, by omega, rfl, E5.out, G5.out⟩
          case measure => simp [intOf]; omega
end Go.Proofs.YthccneiafofakaaDoor

