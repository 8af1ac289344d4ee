/- feed.Apply. · Numbers in bytes: fold. · Numbers in bytes: Write. · Lists of integers: a whole list behind another one. · A list of integers that is written out, of any length. · A list of integers of its own, as a block. · feed.Pack. · Numbers in bytes: fold, unfold, Read. · Numbers that are read one by one: what is kept meanwhile. · feed.Unpack: what next reads. · feed.Unpack. · What is packed is read as it was. Plain mathematics. · Short texts of bytes, as they are written out. · One more change. · Are two lists of changes the same? · Bytes: a whole list behind another one; a part of one. · How great what came in is; a byte. · What a walk is told of bytes that came in. -/
import Derived.Test.YtifijfaefpdmpaaZFeedBack1
import Derived.Laws.AppendOwnNone
import Derived.Lib.SmallJoins
import Derived.Laws.Closers25
import Derived.IntWalk
import Derived.BigRegion
import Derived.Laws.IdiomStrings
import Derived.Deep.SlicePairs
import Derived.ChangeArms
import Derived.ProofKit
import Derived.OpenShut
namespace Go.Proofs.Ytifijfaefpdmpaa
open Go.RowKit
set_option linter.unusedVariables false

/-- what is wrong ahead of all else. -/
def aFault (a : List UInt8) (l : List ChV) : Int := if 6000 < a.length then 4 else chk (Fe.isThere a) l
/-- what Apply tells. -/
def AppSays (a : List UInt8) (l : List ChV) (w w' : World) (v r : Value) : Prop :=
  (aFault a l ≠ 0 ∧ v = .slice none 0 0 ∧ Er r (aFault a l)) ∨ (aFault a l = 0 ∧ Fe.applied a l 6000 = none ∧ v = .slice none 0 0 ∧ Er r 3) ∨ (aFault a l = 0 ∧ ∃ b, Fe.applied a l 6000 = some b ∧ r = .nilIface ∧ Ob w' w.heap.size v b)
theorem chk_zero {ok : ChV → Bool} {l : List ChV} (h : chk ok l = 0) : l.length ≤ 6000 ∧ Fe.Fine ok (-1) l := by
  unfold chk at h
  split at h
  · cases h
  · exact ⟨by omega, Fe.fine_zero.1 h⟩
theorem chk_of {ok : ChV → Bool} {l : List ChV} (h1 : l.length ≤ 6000) (h2 : Fe.Fine ok (-1) l) : chk ok l = 0 := by
  unfold chk
  rw [if_neg (by omega)]
  exact Fe.fine_zero.2 h2
set_option maxRecDepth 100000 in
set_option maxHeartbeats 8000000 in
theorem Apply_any (va vl : Value) (a : List UInt8) (ks : List ChV) (w : World) (ha : By w va a) (hl : Chl w vl ks) :
    Calls Try.prog 5 #[va, vl] w fun e w' => ∃ v r, e = .returned (.tuple #[v, r]) ∧ AppSays a ks w w' v r ∧ Below w.heap.size w w' := by
  have A : Hid (By w va a) := ha
  have L : Hid (Chl w vl ks) := hl
  obtain ⟨pa, ca, rfl, a1, a2, -⟩ := ha
  obtain ⟨pl, cl, rfl, l1, l2, -⟩ := hl
  have a2' : ca ≤ 9223372036854775807 := by unfold maxLen at a2; omega
  clear a2
  have B0 : Hid (Below w.heap.size w (w.alloc (Obj.cells #[.slice pa a.length ca] 22))) := (Below.refl _ _).alloc (Nat.le_refl _) _
  have c0 : Hid ((w.alloc (Obj.cells #[.slice pa a.length ca] 22)).cell? ⟨w.heap.size, 0, none⟩ = some (.slice pa a.length ca) ∧ w.heap.size < (w.alloc (Obj.cells #[.slice pa a.length ca] 22)).heap.size) := ⟨by simp, by simp⟩
  by_cases h6 : 6000 < a.length
  · have h6' : (6000 : Int) < (a.length : Int) := by omega
    have E : Hid (aFault a ks = 4) := by unfold Hid aFault; rw [if_pos h6]
    clear h6
    go_enter Try.func5, Try.ntmps5
    go_wp2
    go_ret2
    exact ⟨_, _, rfl, .inl ⟨by rw [E.out]; decide, rfl, by rw [E.out]; exact Er.no (by decide)⟩, B0.out⟩
  have h6' : ¬ (6000 : Int) < (a.length : Int) := by omega
  have E : Hid (aFault a ks = chk (Fe.isThere a) ks) := by unfold Hid aFault; rw [if_neg h6]
  clear h6
  go_enter Try.func5, Try.ntmps5
  go_upto_region 4 with fail
  generalize w.alloc (Obj.cells #[.slice pa a.length ca] 22) = w0 at *
  obtain ⟨z, hz⟩ : ∃ z, w.heap.size = z := ⟨_, rfl⟩
  have HZ : Hid (w.heap.size = z) := hz
  rw [hz] at c0 ⊢
  have y0 := c0.out.1
  go_wp2_with fail
  refine (fcheck_any 10 (by intro args w; go_simp) _ #[.pointer (some ⟨z, 0, none⟩)] ks (Fe.isThere a) w0 (L.out.below B0.out) ?_).mono ?_
  · intro W hW c hc
    exact isThere_any _ a z c W ((A.out.below B0.out).below hW) (by rw [hW.cell c0.out.2]; exact c0.out.1) hc
  rintro e w1 ⟨r, rfl, hr, hb⟩
  have B1 : Hid (Below w.heap.size w w1) := B0.out.trans (hb.mono B0.out.size)
  have y1 : w1.cell? ⟨z, 0, none⟩ = some (.slice pa a.length ca) := by rw [hb.cell c0.out.2]; exact c0.out.1
  have HR : Hid (Er r (aFault a ks)) := by unfold Hid; rw [E.out]; exact hr
  obtain ⟨f, hf⟩ : ∃ f, aFault a ks = f := ⟨_, rfl⟩
  have HF : Hid (aFault a ks = f) := hf
  rw [hf] at HR
  clear hr hb hf y0
  rcases HR.out with ⟨rfl, rfl⟩ | ⟨hne, rfl⟩
  case inr =>
    have NE : Hid (f ≠ 0) := hne
    clear hne
    go_wp2
    go_ret2
    exact ⟨_, _, rfl, .inl ⟨by rw [HF.out]; exact NE.out, rfl, by rw [HF.out]; exact HR.out⟩, B1.out⟩
  obtain ⟨k1, k2⟩ := chk_zero (by rw [← E.out]; exact HF.out)
  have KF : Hid (ks.length ≤ 6000 ∧ ∀ c ∈ ks, ¬ Fe.Bad c) := ⟨k1, Fe.fine_mem k2⟩
  clear k1 k2
  go_wp2_with fail
  refine (changed_any _ _ a ks w1 (A.out.below B1.out) (L.out.below B1.out) KF.out.1 KF.out.2).mono ?_
  rintro e w2 ⟨v, r, rfl, hs, hb⟩
  have B2 : Hid (Below w.heap.size w w2) := B1.out.trans (hb.mono B1.out.size)
  have HS : Hid (ChgSays a ks w1 w2 v r) := hs
  clear hb hs
  go_wp2
  go_ret2
  refine ⟨_, _, rfl, .inr ?_, B2.out⟩
  rcases HS.out with ⟨h1, h2, h3⟩ | ⟨b, h1, h2, h3⟩
  · exact .inl ⟨HF.out, h1, h2, by rw [h3]; exact Er.no (by decide)⟩
  · exact .inr ⟨HF.out, b, h1, h2, Go.Joins.ownsRow_le h3 B1.out.size⟩
end Go.Proofs.Ytifijfaefpdmpaa

namespace Go.Proofs.Ytifijfaefpdmpaa
open Go.RowKit
set_option linter.unusedVariables false

set_option maxHeartbeats 1000000 in
theorem fold_any (n : Int) (w : World) (h : Wd.In64 n) : Calls Try.prog 19 #[.int .i64 n] w fun e w' => e = .returned (.int .u64 (Wd.zz n : Nat)) ∧ w' = w := by
  unfold Wd.In64 at h
  by_cases h0 : n < 0
  · obtain ⟨m, hm⟩ : ∃ m : Nat, n = -((m : Int) + 1) := ⟨(-(n + 1)).toNat, by omega⟩
    subst hm
    have E : Hid (Wd.zz (-((m : Int) + 1)) = m * 2 + 1) := by unfold Hid Wd.zz; rw [if_pos h0]; omega
    have e1 : -((m : Int) + 1) + 1 = -(m : Int) := by omega
    have e2 : - -(m : Int) = m := by omega
    have w1 : IntKind.i64.wrap (-(m : Int)) = -(m : Int) := by rw [IntKind.wrap_i64]; omega
    have w2 : IntKind.i64.wrap (m : Int) = (m : Int) := by rw [IntKind.wrap_i64]; omega
    have hm : (m : Int) < 9223372036854775808 := by omega
    clear h
    go_enter Try.func19, Try.ntmps19
    go_wp2
    go_ret
    refine ⟨?_, rfl⟩
    rw [E.out]
    show Ending.returned (.int .u64 _) = _
    congr 2
    try simp only [w2]
    omega
  · obtain ⟨m, rfl⟩ : ∃ m : Nat, n = m := ⟨n.toNat, by omega⟩
    have E : Hid (Wd.zz (m : Int) = m * 2) := by unfold Hid Wd.zz; rw [if_neg h0]; omega
    have hm : (m : Int) < 9223372036854775808 := by omega
    clear h
    go_enter Try.func19, Try.ntmps19
    go_wp2
    go_ret
    refine ⟨?_, rfl⟩
    rw [E.out]
    show Ending.returned (.int .u64 _) = _
    congr 2
    try simp only [w2]
    omega
end Go.Proofs.Ytifijfaefpdmpaa

namespace Go.Proofs.Ytifijfaefpdmpaa
open Go.RowKit
set_option linter.unusedVariables false

theorem vl_len {x : Nat} (h : x < 18446744073709551616) : (Wd.vl x).length ≤ 10 := by
  have h1 := Wd.rd_vl x x 0 0 [] (Nat.le_refl _) (by omega) (by simpa using h) (.inl rfl)
  have h2 := (Wd.rd_le _ 0 0 _ _ (by omega) (by decide) h1).2.2.1
  omega
theorem num_len {n : Int} (h : Wd.In64 n) : (Wd.num n).length ≤ 10 := vl_len (Wd.zz_lt h)
theorem wr_len : ∀ {xs : List Int}, (∀ n ∈ xs, Wd.In64 n) → (Wd.wr xs).length ≤ 10 * xs.length
  | [], _ => by simp [Wd.wr]
  | x :: xs, h => by
    have h1 := num_len (h x (by simp))
    have h2 := wr_len (xs := xs) (fun n hn => h n (by simp [hn]))
    have : Wd.wr (x :: xs) = Wd.num x ++ Wd.wr xs := by simp [Wd.wr]
    rw [this, List.length_append, List.length_cons]
    omega
theorem wr_next {xs : List Int} {k : Nat} {n : Int} (h : xs[k]? = some n) : Wd.wr (xs.take (k + 1)) = Wd.wr (xs.take k) ++ Wd.num n := by
  obtain ⟨hi, e⟩ := List.getElem?_eq_some_iff.1 h
  rw [List.take_succ_eq_append_getElem hi, Wd.wr_append, e, Wd.wr_one]
set_option maxRecDepth 100000 in
set_option maxHeartbeats 4000000 in
theorem write_any (v : Value) (xs : List Int) (w : World) (h : Ro w v xs) (hi : ∀ n ∈ xs, Wd.In64 n) (hl : xs.length ≤ 100000000) :
    Calls Try.prog 15 #[v] w fun e w' => ∃ u, e = .returned u ∧ Ob w' w.heap.size u (Wd.wr xs) ∧ Below w.heap.size w w' := by
  have R : Hid (Ro w v xs) := h
  have HI : Hid (∀ n ∈ xs, Wd.In64 n) := hi
  obtain ⟨ad, cap, rfl, h1, h2, h3⟩ := h
  clear h3 hi
  go_enter Try.func15, Try.ntmps15
  go_wp2
  go_loopw [3, 9] (fun bv iv W => ∃ (k : Nat), iv = .int .i64 (k : Nat) ∧ k ≤ xs.length ∧ Ob W w.heap.size bv (Wd.wr (xs.take k)) ∧ Below w.heap.size w W) (fun _ iv _ => xs.length - (intOf iv).toNat)
  case atStart => exact ⟨0, rfl, Nat.zero_le _, Ob.nil _ _, Below.refl _ _⟩
  case round =>
    obtain ⟨k, rfl, hk, ho, hb⟩ := hrel
    have O : Hid (Ob wr w.heap.size u3 (Wd.wr (xs.take k))) := ho
    have B : Hid (Below w.heap.size w wr) := hb
    clear ho hb
    by_cases he : k = xs.length
    · subst he
      go_wp2
      go_ret
      exact ⟨_, rfl, by have := O.out; rwa [List.take_length] at this, B.out⟩
    · have hlt : k < xs.length := by omega
      have hli : (k : Int) < (xs.length : Int) := by omega
      obtain ⟨n, hn⟩ : ∃ n, xs[k]? = some n := ⟨_, List.getElem?_eq_getElem hlt⟩
      have HN : Hid (xs[k]? = some n) := hn
      have IN : Hid (Wd.In64 n) := HI.out n (List.mem_of_getElem? hn)
      obtain ⟨ad', cap', e, -, -, hc⟩ := R.out.below B.out
      injection e with e1 e2 e3
      subst e1 e3
      obtain ⟨y, rfl, hy, hcell⟩ := hc (by intro e; subst e; simp at hlt)
      have c1 : wr.cell? (y.add k) = some (.int .i64 n) := hcell k n hn
      clear hc hcell hy hn
      go_wp2_with fail
      refine (fold_any n _ IN.out).mono ?_
      rintro e w1 ⟨rfl, rfl⟩
      have PL : Hid ((Wd.wr (xs.take k)).length ≤ 1000000000) := by
        unfold Hid
        have := wr_len (xs := xs.take k) (fun n hn => HI.out n (List.mem_of_mem_take hn))
        rw [List.length_take] at this
        omega
      obtain ⟨P, hP⟩ : ∃ P, Wd.wr (xs.take k) = P := ⟨_, rfl⟩
      have HP : Hid (Wd.wr (xs.take (k + 1)) = P ++ Wd.num n) := by unfold Hid; rw [wr_next HN.out, hP]
      rw [hP] at O PL
      obtain ⟨x, hx⟩ : ∃ x, Wd.zz n = x := ⟨_, rfl⟩
      have HX : Hid (Wd.num n = Wd.vl x ∧ x < 18446744073709551616) := ⟨by unfold Wd.num; rw [hx], by rw [← hx]; exact Wd.zz_lt IN.out⟩
      rw [hx]
      clear hx hP c1
      go_wp2
      go_loopw [3, 6] (fun bv xv W => ∃ (y : Nat) (D : List UInt8), xv = .int .u64 (y : Nat) ∧ y < 18446744073709551616 ∧ D ++ Wd.vl y = Wd.vl x ∧ Ob W w.heap.size bv (P ++ D) ∧ Below w.heap.size w W) (fun _ xv _ => (intOf xv).toNat)
      case atStart => exact ⟨x, [], rfl, HX.out.2, rfl, by rw [List.append_nil]; exact O.out, B.out⟩
      case round =>
        obtain ⟨y, D, rfl, hy, hv, ho, hb⟩ := hrel
        have O2 : Hid (Ob wr w.heap.size u3 (P ++ D)) := ho
        have B2 : Hid (Below w.heap.size w wr) := hb
        have HV : Hid (D ++ Wd.vl y = Wd.vl x) := hv
        have DL : Hid ((P ++ D).length ≤ 1000000010) := by
          unfold Hid
          have h1 := vl_len HX.out.2
          have h2 := congrArg List.length hv
          have h3 := PL.out
          rw [List.length_append] at h2 ⊢
          omega
        clear ho hb hv
        obtain ⟨L, hL⟩ : ∃ L, P ++ D = L := ⟨_, rfl⟩
        have HL : Hid (P ++ D = L) := hL
        rw [hL] at O2 DL
        clear hL
        by_cases h128 : 128 ≤ y
        · obtain ⟨m, hm⟩ : ∃ m, y % 128 = m := ⟨_, rfl⟩
          obtain ⟨d, hd⟩ : ∃ d, y / 128 = d := ⟨_, rfl⟩
          have hmi : (y : Int) % 128 = m := by omega
          have hdi : (y : Int) / 128 = d := by omega
          have m1 : m < 128 := by omega
          have hgi : (128 : Int) ≤ (y : Int) := by omega
          obtain ⟨c, hc⟩ : ∃ c, UInt8.ofNat (m + 128) = c := ⟨_, rfl⟩
          have em : c.toNat = m + 128 := by rw [← hc, UInt8.toNat_ofNat']; omega
          have HE : Hid (Wd.vl y = c :: Wd.vl d) := by unfold Hid; rw [Wd.vl_great h128, hm, hd, hc]
          have hdl : Hid (d < y) := by unfold Hid; omega
          clear hm hd h128 hc
          go_wp2_with (at_builtin; refine app_byte _ rfl _ _ rfl w.heap.size _ L rfl (O2.out.alloc _) ⟨wr.heap.size, 0, none⟩ c rfl (by rw [em]; simp) (by have := DL.out; omega) (by have := B2.out.size; simp; omega) ?_)
          intro g cap2 w5 o5 g5 l5
          have O5 : Hid (Ob w5 w.heap.size (.slice (some ⟨g, 0, none⟩) (L.length + 1) cap2) (P ++ (D ++ [c]))) := by unfold Hid; rw [← List.append_assoc, HL.out]; exact o5
          have B5 : Hid (Below w.heap.size w w5) := (B2.out.alloc B2.out.size _).grown g5 (by have := B2.out.size; simp; omega) (fun b hb => (O2.out.block b hb).1)
          clear o5 g5 l5
          go_wp2
          go_roundw
          case rel =>
            refine ⟨d, D ++ [c], rfl, by have := hdl.out; omega, ?_, O5.out, B5.out⟩
            rw [List.append_assoc, ← HV.out, HE.out]
            rfl
          case measure => have := hdl.out; simp [intOf]; omega
        · have hgi : ¬ (128 : Int) ≤ (y : Int) := by omega
          obtain ⟨c, hc⟩ : ∃ c, UInt8.ofNat y = c := ⟨_, rfl⟩
          have em : c.toNat = y := by rw [← hc, UInt8.toNat_ofNat']; omega
          have wy : IntKind.u8.wrap (y : Int) = (y : Int) := by rw [IntKind.wrap_u8]; omega
          have HE : Hid (D ++ [c] = Wd.num n) := by unfold Hid; rw [HX.out.1, ← HV.out, Wd.vl_small (by omega), hc]
          clear h128 hc
          go_wp2_with (at_builtin; refine app_byte _ rfl _ _ rfl w.heap.size _ L rfl (O2.out.alloc _) ⟨wr.heap.size, 0, none⟩ c rfl (by rw [em]; simp) (by have := DL.out; omega) (by have := B2.out.size; simp; omega) ?_)
          intro g cap2 w5 o5 g5 l5
          have O5 : Hid (Ob w5 w.heap.size (.slice (some ⟨g, 0, none⟩) (L.length + 1) cap2) (Wd.wr (xs.take (k + 1)))) := by unfold Hid; rw [HP.out, ← HE.out, ← List.append_assoc, HL.out]; exact o5
          have B5 : Hid (Below w.heap.size w w5) := (B2.out.alloc B2.out.size _).grown g5 (by have := B2.out.size; simp; omega) (fun b hb => (O2.out.block b hb).1)
          clear o5 g5 l5
          go_wp2
          go_roundw
          case rel => exact ⟨k + 1, rfl, by omega, O5.out, B5.out⟩
          case measure => simp [intOf]; omega
end Go.Proofs.Ytifijfaefpdmpaa

namespace Go.Proofs.Ytifijfaefpdmpaa
open Go.RowKit
set_option linter.unusedVariables false

theorem run_append_no {P : Program} {w : World} (base : Nat) (t ty e : TypeId) (i : TypeInfo) (size : Nat) (ht : P.underlying t = some (.slice e)) (hi : P.info? e = some i)
    (v : Value) (n : Nat) (xs : List Value) (hown : w.ownsRow base e size v n xs) (a : Option Addr) (c : Nat) :
    (Builtin.append_ #[t, t] ty #[v, .slice a 0 c]).run P w = .ok v w := by
  rcases hown.2 with ⟨rfl, rfl⟩ | ⟨g, cap, cur, rfl, _, _, hnc, _⟩
  · cases a <;> simp [Builtin.append_, run_underlying ht, sizeOf, typeInfo, hi, Builtin.lenOf, Builtin.firstCells, loadCells, loadCellsFrom]
  · cases a <;> simp [Builtin.append_, run_underlying ht, sizeOf, typeInfo, hi, Builtin.lenOf, Builtin.firstCells, hnc, storeCells, loadCells, loadCellsFrom]
theorem app_row {ops : Array Oper} {rest : List Oper} {o : Oper} {a : Act} {Q : Exit → Act → World → Prop} (w : World) (hgd : o.guard = none) (s x : Operand)
    (ho : o.op = .call { callee := .builtin .append, args := #[s, x], argTypes := #[42, 42] }) (base : Nat) (v : Value) (xs : List Int) (hs : a.eval s = v) (hown : Ow w base v xs)
    (u : Value) (ys : List Int) (hx : a.eval x = u) (hu : Ro w u ys) (hl : xs.length + ys.length ≤ 1000000000) (hbase : base ≤ w.heap.size)
    (h : ∀ v' w', Ow w' base v' (xs ++ ys) → w.grownBy w' v.ownBlock → (v'.ownBlock = v.ownBlock ∨ v'.ownBlock = some w.heap.size) → wpList Try.prog ops Q rest (a.put o.dst v') w') :
    wpList Try.prog ops Q (o :: rest) a w := by
  obtain ⟨i0, hi, hz0, hz1, hz2⟩ := info_parts info_int
  obtain ⟨ad, c, rfl, h1, h2, h3⟩ := hu
  by_cases hn : ys = []
  · subst hn
    refine wpList_plain hgd fun K hK => ?_
    have hrun := run_append_no (P := Try.prog) (w := w) base 42 o.type 3 i0 1 Try.underlying42 hi v xs.length _ hown ad c
    have hx' : a.eval x = .slice ad 0 c := hx
    unfold Oper.wp
    simp [execOp, ho, resolve, invoke, builtin, hs, hx', hrun, Result.andThen]
    exact hK _ _ (h v w (by simpa using hown) (World.grownBy.refl _ _) (.inl rfl))
  · obtain ⟨y, rfl, hy, hc⟩ := h3 hn
    refine wpList_append_lies w hgd s x 42 ho base 3 i0 (.int .i64 0) 1 8 Try.underlying42 hi hz0 hz1 hz2 rfl (by decide) v xs.length _ hs hown y ys.length c (ys.map (Value.int .i64)) hx (by simp) ?_ ?_ (List.length_pos_iff.2 hn) (by unfold maxLen; omega) (by omega) hbase _ rfl ?_
    · intro j u hj
      rw [List.getElem?_map] at hj
      cases hd : ys[j]? with
      | none => rw [hd] at hj; cases hj
      | some d => rw [hd] at hj; cases hj; exact hc j d hd
    · exact ints_oneCell _ _
    · intro g cap w' k1 k2 k3 _
      refine h _ w' ?_ k2 ?_
      · unfold Ow
        rw [List.length_append, List.map_append]
        exact k1
      · rcases k3 with k3 | k3
        · exact .inl k3.symm
        · exact .inr (by rw [k3]; rfl)
end Go.Proofs.Ytifijfaefpdmpaa

namespace Go.Proofs.Ytifijfaefpdmpaa
open Go.RowKit
set_option linter.unusedVariables false

/-- any. -/
theorem Ro.lit {w : World} {z : Nat} (xs : List Int) (cs : Array Value) (hc : cs.toList = xs.map (Value.int .i64)) (hl : xs.length ≤ 1000) (hz : w.heap.size = z) : Ro (w.alloc (.cells cs 3)) (.slice (some ⟨z, 0, none⟩) xs.length xs.length) xs := by
  subst hz
  refine ⟨_, xs.length, rfl, Nat.le_refl _, by omega, fun _ => ⟨_, rfl, by simp, fun i d hd => ?_⟩⟩
  rw [Addr.add_lit, Nat.zero_add]
  have hh := heap_alloc_new w (.cells cs 3)
  simp only [World.cell?, hh]
  rw [← Array.getElem?_toList, hc, List.getElem?_map, hd]
  rfl
end Go.Proofs.Ytifijfaefpdmpaa

namespace Go.Proofs.Ytifijfaefpdmpaa
open Go.RowKit
set_option linter.unusedVariables false

theorem Ow.bk {w : World} {base : Nat} {v : Value} {xs : List Int} (h : Ow w base v xs) : (v = .slice none 0 0 ∧ xs = []) ∨ ∃ g cap rest, v = .slice (some ⟨g, 0, none⟩) xs.length cap ∧ base ≤ g ∧ xs.length ≤ cap ∧ cap ≤ maxLen ∧ xs.length + rest.size = cap ∧ Bk w g xs rest := by
  rcases h.2 with ⟨h1, h2⟩ | ⟨g, cap, cur, h1, h2, h3, h4, h5, h6, h7⟩
  · exact .inl ⟨h1, List.length_eq_zero_iff.1 h2⟩
  · have e6 : cur.toList.length = cap := by simpa using h6
    refine .inr ⟨g, cap, (cur.toList.drop xs.length).toArray, h1, h2, h4, h5, ?_, ?_⟩
    · simp only [List.size_toArray, List.length_drop, e6]; omega
    · have e : cur = (intCells xs).toArray ++ (cur.toList.drop xs.length).toArray := by
        apply Array.ext'
        rw [Nat.mul_one] at h7
        have h8 : cur.toList.take xs.length = intCells xs := h7
        rw [Array.toList_append]
        show cur.toList = intCells xs ++ cur.toList.drop xs.length
        rw [← h8, List.take_append_drop]
      unfold Bk
      rw [h3, ← e]
theorem Bk.ow {w : World} {base g cap : Nat} {xs : List Int} {rest : Array Value} (h : Bk w g xs rest) (hb : base ≤ g) (h1 : xs.length ≤ cap) (h2 : cap ≤ maxLen) (h3 : xs.length + rest.size = cap) : Ow w base (.slice (some ⟨g, 0, none⟩) xs.length cap) xs := by
  refine ⟨by simp, .inr ⟨g, cap, _, rfl, hb, h, h1, h2, ?_, ?_⟩⟩
  · simp [intCells]; omega
  · simp [intCells]
end Go.Proofs.Ytifijfaefpdmpaa

namespace Go.Proofs.Ytifijfaefpdmpaa
open Go.RowKit
set_option linter.unusedVariables false

namespace Fe
theorem chain_in : ∀ {l : List ChV} {p : Int}, (∀ c ∈ l, ¬ Bad c) → 0 ≤ p → p ≤ 5999 → ∀ n ∈ chain p l, Wd.In64 n
  | [], p, _, _, _, n, h => by simp [chain] at h
  | c :: l, p, hl, h1, h2, n, h => by
    have hc := hl c (by simp)
    unfold Bad at hc
    unfold chain at h
    simp only [List.mem_cons] at h
    rcases h with rfl | rfl | rfl | h
    · unfold Wd.In64; omega
    · unfold Wd.In64; omega
    · unfold Wd.In64; omega
    · exact chain_in (fun d hd => hl d (by simp [hd])) (by omega) (by omega) n h
theorem chain_len : ∀ {l : List ChV} {p : Int}, (chain p l).length = 3 * l.length
  | [], p => rfl
  | c :: l, p => by simp only [chain, List.length_cons, chain_len (l := l)]; omega
end Fe
/-- what Pack tells. -/
def PackSays (l : List ChV) (w w' : World) (v r : Value) : Prop :=
  (chk (fun _ => true) l ≠ 0 ∧ v = .slice none 0 0 ∧ Er r (chk (fun _ => true) l)) ∨ (chk (fun _ => true) l = 0 ∧ r = .nilIface ∧ Ob w' w.heap.size v (Wd.wr (Fe.nums l)))
set_option maxRecDepth 100000 in
set_option maxHeartbeats 8000000 in
theorem Pack_any (vl : Value) (ks : List ChV) (w : World) (hl : Chl w vl ks) :
    Calls Try.prog 7 #[vl] w fun e w' => ∃ v r, e = .returned (.tuple #[v, r]) ∧ PackSays ks w w' v r ∧ Below w.heap.size w w' := by
  have L : Hid (Chl w vl ks) := hl
  obtain ⟨pl, cl, rfl, l1, l2, -⟩ := hl
  go_enter Try.func7, Try.ntmps7
  go_wp2_with fail
  refine (fcheck_any 14 (by intro args w; go_simp) _ #[] ks (fun _ => true) w L.out (fun W hW c hc => anywhere_any c W)).mono ?_
  rintro e w1 ⟨r, rfl, hr, hb⟩
  have B1 : Hid (Below w.heap.size w w1) := hb
  obtain ⟨f, hf⟩ : ∃ f, chk (fun _ => true) ks = f := ⟨_, rfl⟩
  have HF : Hid (chk (fun _ => true) ks = f) := hf
  rw [hf] at hr
  have HR : Hid (Er r f) := hr
  clear hr hb hf
  rcases HR.out with ⟨rfl, rfl⟩ | ⟨hne, rfl⟩
  case inr =>
    have NE : Hid (f ≠ 0) := hne
    clear hne
    go_wp2
    go_ret2
    exact ⟨_, _, rfl, .inl ⟨by rw [HF.out]; exact NE.out, rfl, by rw [HF.out]; exact HR.out⟩, B1.out⟩
  obtain ⟨k1, k2⟩ := chk_zero HF.out
  have KF : Hid (ks.length ≤ 6000 ∧ ∀ c ∈ ks, ¬ Fe.Bad c) := ⟨k1, Fe.fine_mem k2⟩
  have l6 : (ks.length : Int) ≤ 6000 := by omega
  clear k1 k2
  have SW : Hid (w.heap.size ≤ w1.heap.size) := B1.out.size
  have O1 : Hid (Ow (w1.alloc (.cells #[.int .i64 (ks.length : Nat)] 3)) w.heap.size (.slice (some ⟨w1.heap.size, 0, none⟩) 1 1) [(ks.length : Int)]) := Ow.one _ SW.out rfl
  have B2 : Hid (Below w.heap.size w (w1.alloc (.cells #[.int .i64 (ks.length : Nat)] 3))) := B1.out.alloc SW.out _
  go_wp2_with fail
  go_loopw [5, 6, 19] (fun nv pv iv W => ∃ (n : Nat) (p : Int) (xs : List Int), n ≤ ks.length ∧ pv = .int .i64 p ∧ iv = .int .i64 (n : Nat) ∧ 0 ≤ p ∧ p ≤ 5999 ∧ xs.length = 3 * n + 1 ∧ xs ++ Fe.chain p (ks.drop n) = Fe.nums ks ∧ Ow W w.heap.size nv xs ∧ Below w.heap.size w W) (fun _ _ iv _ => ks.length - (intOf iv).toNat)
  case atStart => exact ⟨0, 0, [(ks.length : Int)], Nat.zero_le _, rfl, rfl, by omega, by omega, rfl, rfl, O1.out, B2.out⟩
  case round =>
  obtain ⟨n, p, xs, hn, rfl, rfl, hp0, hp1, hxl, hx, ho, hb⟩ := hrel
  have HX : Hid (xs ++ Fe.chain p (ks.drop n) = Fe.nums ks) := hx
  have XL : Hid (xs.length = 3 * n + 1) := hxl
  have O : Hid (Ow wr w.heap.size u5 xs) := ho
  have BW : Hid (Below w.heap.size w wr) := hb
  obtain ⟨op, oc, rfl⟩ := ho.len
  clear hx hxl ho hb O1 B2
  by_cases hne : n = ks.length
  · have HE : Hid (xs = Fe.nums ks) := by
      have := HX.out
      rw [hne, List.drop_length] at this
      unfold Hid
      simpa [Fe.chain] using this
    have IN : Hid (∀ n ∈ Fe.nums ks, Wd.In64 n) := by
      intro n hn
      unfold Fe.nums at hn
      rcases List.mem_cons.1 hn with rfl | hn
      · unfold Wd.In64; omega
      · exact Fe.chain_in KF.out.2 (by omega) (by omega) n hn
    subst hne
    go_wp2_with fail
    refine (write_any _ xs wr O.out.ro (by rw [HE.out]; exact IN.out) (by have := XL.out; omega)).mono ?_
    rintro e w5 ⟨u, rfl, hu, hb⟩
    have B5 : Hid (Below w.heap.size w w5) := BW.out.trans (hb.mono BW.out.size)
    have OU : Hid (Ob w5 w.heap.size u (Wd.wr (Fe.nums ks))) := by unfold Hid; rw [← HE.out]; exact Go.Joins.ownsRow_le hu BW.out.size
    clear hu hb
    go_wp2
    go_ret2
    exact ⟨_, _, rfl, .inr ⟨HF.out, rfl, OU.out⟩, B5.out⟩
  have hnl : n < ks.length := by omega
  have hnl' : (n : Int) < (ks.length : Int) := by omega
  obtain ⟨c, hc⟩ : ∃ c, ks[n]? = some c := ⟨_, List.getElem?_eq_getElem hnl⟩
  have HC : Hid (ks.drop n = c :: ks.drop (n + 1)) := by
    unfold Hid
    rw [List.drop_eq_getElem_cons hnl]
    congr 1
    rw [List.getElem?_eq_getElem hnl] at hc
    injection hc
  have nb := KF.out.2 c (List.mem_of_getElem? hc)
  have HY : Hid ((xs ++ [c.at_ - p, c.old + 1, c.new + 1]) ++ Fe.chain c.at_ (ks.drop (n + 1)) = Fe.nums ks) := by
    have := HX.out
    rw [HC.out] at this
    unfold Hid
    rw [← this, List.append_assoc]
    rfl
  obtain ⟨a', c', e', -, -, hq⟩ := L.out.below BW.out
  injection e' with e1 e2 e3
  subst e1 e3
  obtain ⟨x, rfl, -, hcc⟩ := hq (by rintro rfl; simp at hnl)
  obtain ⟨d0, d1, d2⟩ := hcc n c hc
  clear hq hcc hc
  obtain ⟨ca, co, cn⟩ := c
  unfold Fe.Bad at nb
  simp only at d0 d1 d2 HY nb
  have wa : IntKind.i64.wrap (ca - p) = ca - p := by rw [IntKind.wrap_i64]; omega
  have wo : IntKind.i64.wrap (co + 1) = co + 1 := by rw [IntKind.wrap_i64]; omega
  have wn : IntKind.i64.wrap (cn + 1) = cn + 1 := by rw [IntKind.wrap_i64]; omega
  have CA : Hid (0 ≤ ca ∧ ca ≤ 5999) := by unfold Hid; omega
  have SR : Hid (w.heap.size ≤ wr.heap.size) := BW.out.size
  obtain ⟨w2, hw2⟩ : ∃ W, wr.alloc (Obj.cells #[.int .i64 ca, .int .i64 co, .int .i64 cn] 28) = W := ⟨_, rfl⟩
  have B2 : Hid (Below w.heap.size w w2) := by rw [← hw2]; exact BW.out.alloc SR.out _
  have O2 : Hid (Ow w2 w.heap.size (.slice op xs.length oc) xs) := by rw [← hw2]; exact O.out.alloc _
  have y0 : w2.cell? ⟨wr.heap.size, 0, none⟩ = some (.int .i64 ca) := by rw [← hw2]; simp
  have y1 : w2.cell? ⟨wr.heap.size, 1, none⟩ = some (.int .i64 co) := by rw [← hw2]; simp
  have y2 : w2.cell? ⟨wr.heap.size, 2, none⟩ = some (.int .i64 cn) := by rw [← hw2]; simp
  have Z2 : Hid (wr.heap.size < w2.heap.size) := by unfold Hid; rw [← hw2]; simp
  clear nb
  go_upto_region 9 with fail
  try rw [hw2]
  clear hw2
  have SR2 : Hid (w.heap.size ≤ w2.heap.size) := B2.out.size
  go_wp2_with (at_builtin; refine app_row _ rfl _ _ rfl w.heap.size _ xs rfl (O2.out.alloc _) _ [ca - p, co + 1, cn + 1] rfl (Ro.lit [ca - p, co + 1, cn + 1] _ rfl (by simp) rfl) (by have := XL.out; simp; omega) (by have := SR2.out; simp; omega) ?_)
  intro v' w5 o5 g5 _
  have O5 : Hid (Ow w5 w.heap.size v' (xs ++ [ca - p, co + 1, cn + 1])) := o5
  have hob : ∀ j, (Value.slice op xs.length oc).ownBlock = some j → w.heap.size ≤ j := fun j hj => (O2.out.block j hj).1
  have B5 : Hid (Below w.heap.size w w5) := (B2.out.alloc SR2.out _).grown g5 (by have := SR2.out; simp; omega) hob
  have z0 : w5.cell? ⟨wr.heap.size, 0, none⟩ = some (.int .i64 ca) := by
    have hk := g5.block wr.heap.size (by have := Z2.out; simp; omega) (fun e => by have := (O.out.block _ e.symm).2; omega)
    have y0' : (w2.alloc (Obj.cells #[.int .i64 (ca - p), .int .i64 (co + 1), .int .i64 (cn + 1)] 3)).cell? ⟨wr.heap.size, 0, none⟩ = some (.int .i64 ca) := by
      rw [((Below.refl _ _).alloc (Nat.le_refl _) _).cell (p := ⟨wr.heap.size, 0, none⟩) Z2.out]; exact y0
    simp only [World.cell?, hk] at y0' ⊢
    exact y0'
  clear o5 g5 hob
  go_wp2
  go_roundw
  case rel => exact ⟨n + 1, ca, xs ++ [ca - p, co + 1, cn + 1], by omega, rfl, by go_num, CA.out.1, CA.out.2, by rw [List.length_append, XL.out]; simp; omega, HY.out, O5.out, B5.out⟩
  case measure => simp [intOf]; omega
end Go.Proofs.Ytifijfaefpdmpaa

namespace Go.Proofs.Ytifijfaefpdmpaa
open Go.RowKit
set_option linter.unusedVariables false

set_option maxHeartbeats 1000000 in
theorem unfold_any (x : Nat) (w : World) (h : x < 18446744073709551616) : Calls Try.prog 20 #[.int .u64 (x : Nat)] w fun e w' => e = .returned (.int .i64 (Wd.unz x)) ∧ w' = w := by
  obtain ⟨m, hm⟩ : ∃ m : Nat, x / 2 = m := ⟨_, rfl⟩
  have hi : (x : Int) / 2 = m := by omega
  have hb : (m : Int) < 9223372036854775808 := by omega
  have w2 : IntKind.i64.wrap (m : Int) = (m : Int) := by rw [IntKind.wrap_i64]; omega
  by_cases h1 : x % 2 = 1
  · have E : Hid (Wd.unz x = -(m : Int) - 1) := by unfold Hid Wd.unz; rw [if_pos h1, hm]
    have hr : (x : Int) % 2 = 1 := by omega
    go_enter Try.func20, Try.ntmps20
    go_wp2
    go_ret
    refine ⟨?_, rfl⟩
    rw [E.out]
    rfl
  · have E : Hid (Wd.unz x = (m : Int)) := by unfold Hid Wd.unz; rw [if_neg h1, hm]
    have hr : (x : Int) % 2 = 0 := by omega
    go_enter Try.func20, Try.ntmps20
    go_wp2
    go_ret
    refine ⟨?_, rfl⟩
    rw [E.out]
    rfl

/-- what Read says. -/
def ReadSays (l : List UInt8) (u : Value) : Prop := match Wd.rd 0 0 l with
  | none => u = .tuple #[.int .i64 0, .int .i64 0]
  | some (x, n) => u = .tuple #[.int .i64 (Wd.unz x), .int .i64 (n : Nat)]
theorem rd_step {l : List UInt8} {k x : Nat} {c : UInt8} (h : l[k]? = some c) : Wd.rd k x (l.drop k) = if k = 9 ∧ 1 < c.toNat then none else if 128 ≤ c.toNat then Wd.rd (k + 1) (x + c.toNat % 128 * 128 ^ k) (l.drop (k + 1)) else if c.toNat = 0 ∧ 0 < k then none else some (x + c.toNat * 128 ^ k, k + 1) := by
  obtain ⟨hi, e⟩ := List.getElem?_eq_some_iff.1 h
  rw [List.drop_eq_getElem_cons hi, e]
  rfl
set_option maxRecDepth 100000 in
set_option maxHeartbeats 4000000 in
theorem read_any (v : Value) (l : List UInt8) (w : World) (h : By w v l) :
    Calls Try.prog 17 #[v] w fun e w' => (∃ u, e = .returned u ∧ ReadSays l u) ∧ w' = w := by
  obtain ⟨a, cap, rfl, h1, h2, h3⟩ := h
  have H : Hid (l ≠ [] → ∃ x, a = some x ∧ x.block < w.heap.size ∧ ∀ (i : Nat) d, l[i]? = some d → w.cell? (x.add i) = some (.int .u8 (d.toNat : Int))) := h3
  have HL : Hid (l.length ≤ 9223372036854775807) := by unfold Hid; unfold maxLen at h2; omega
  clear h1 h2 h3
  go_enter Try.func17, Try.ntmps17
  go_wp2
  go_loopw [4, 9] (fun xv iv W => ∃ (x k : Nat), xv = .int .u64 (x : Nat) ∧ iv = .int .i64 (k : Nat) ∧ k ≤ l.length ∧ k ≤ 9 ∧ x < 128 ^ k ∧ Wd.rd k x (l.drop k) = Wd.rd 0 0 l ∧ W = w) (fun _ iv _ => l.length - (intOf iv).toNat)
  case atStart => exact ⟨0, 0, rfl, rfl, Nat.zero_le _, by omega, by decide, rfl, rfl⟩
  case round =>
    obtain ⟨x, k, rfl, rfl, hk, hk9, hx, hrd, rfl⟩ := hrel
    have HR : Hid (Wd.rd k x (l.drop k) = Wd.rd 0 0 l) := hrd
    clear hrd
    by_cases hkl : k = l.length
    · have E : Hid (Wd.rd 0 0 l = none) := by
        unfold Hid
        rw [← HR.out, hkl, List.drop_length]
        rfl
      clear hx hk hk9
      subst hkl
      go_wp2
      go_ret2
      refine ⟨⟨_, rfl, ?_⟩, rfl⟩
      unfold ReadSays
      rw [E.out]
      rfl
    · have hlt : k < l.length := by omega
      obtain ⟨c, hc⟩ : ∃ c, l[k]? = some c := ⟨_, List.getElem?_eq_getElem hlt⟩
      obtain ⟨ad, rfl, had, hcell⟩ := H.out (by intro e; subst e; simp at hlt)
      have HS := rd_step (x := x) hc
      rw [HR.out] at HS
      have HC : Hid (Wd.rd 0 0 l = if k = 9 ∧ 1 < c.toNat then none else if 128 ≤ c.toNat then Wd.rd (k + 1) (x + c.toNat % 128 * 128 ^ k) (l.drop (k + 1)) else if c.toNat = 0 ∧ 0 < k then none else some (x + c.toNat * 128 ^ k, k + 1)) := HS
      have hcc : wr.cell? (ad.add k) = some (.int .u8 (c.toNat : Int)) := hcell k c hc
      have hcl : c.toNat < 256 := c.toNat_lt
      generalize c.toNat = n at *
      clear hcell had HS HR hc
      have hli : (k : Int) < (l.length : Int) := by omega
      by_cases h9 : k = 9 ∧ 1 < n
      · obtain ⟨hk0, hn1⟩ := h9
        have E : Hid (Wd.rd 0 0 l = none) := by unfold Hid; rw [HC.out, if_pos ⟨hk0, hn1⟩]
        have hkb : (((k : Nat) : Int) == 9) = true := by
          have : ((k : Nat) : Int) = 9 := by omega
          simpa using this
        have hni : (1 : Int) < (n : Int) := by omega
        clear HC hx hk0
        go_wp2
        go_ret2
        refine ⟨⟨_, rfl, ?_⟩, rfl⟩
        unfold ReadSays
        rw [E.out]
        rfl
      · have E9 : Hid (Wd.rd 0 0 l = if 128 ≤ n then Wd.rd (k + 1) (x + n % 128 * 128 ^ k) (l.drop (k + 1)) else if n = 0 ∧ 0 < k then none else some (x + n * 128 ^ k, k + 1)) := by unfold Hid; rw [HC.out, if_neg h9]
        obtain ⟨m, hm⟩ : ∃ m, n % 128 = m := ⟨_, rfl⟩
        have hmi : (n : Int) % 128 = m := by omega
        have hm2 : m < 128 := by omega
        have HX : Hid (x < 128 ^ k) := hx
        obtain ⟨y, hy⟩ : ∃ y, m * 128 ^ k = y := ⟨_, rfl⟩
        obtain ⟨z, hz⟩ : ∃ z, x + y = z := ⟨_, rfl⟩
        have e2 : (2 : Int) ^ (7 * k) = ((128 ^ k : Nat) : Int) := by
          have h := Nat.pow_mul 2 7 k
          rw [show (2 ^ 7 : Nat) = 128 from rfl] at h
          rw [← h]
          simp
        have ey : (m : Int) * 2 ^ (7 * k) = (y : Nat) := by rw [e2, ← hy]; simp
        have hb : y ≤ 9223372036854775808 ∧ z < 18446744073709551616 := by
          by_cases hk0 : k = 9
          · subst hk0
            have : m ≤ 1 := by omega
            have h2 : m * 128 ^ 9 ≤ 1 * 128 ^ 9 := Nat.mul_le_mul_right _ this
            rw [Wd.pow9] at h2 hx
            omega
          · have h8 : 128 ^ k ≤ 128 ^ 8 := Nat.pow_le_pow_right (by decide) (by omega)
            have h82 : (128 : Nat) ^ 8 = 72057594037927936 := by decide
            have : m * 128 ^ k ≤ 127 * 128 ^ k := Nat.mul_le_mul_right _ (by omega)
            omega
        have wy : IntKind.u64.wrap ((y : Nat) : Int) = (y : Nat) := by rw [IntKind.wrap_u64]; omega
        have ez : ((x : Nat) : Int) + (y : Nat) = (z : Nat) := by omega
        have wz : IntKind.u64.wrap ((z : Nat) : Int) = (z : Nat) := by rw [IntKind.wrap_u64]; omega
        have zb : z < 18446744073709551616 := hb.2
        have HZ : Hid (x + m * 128 ^ k = z) := by unfold Hid; rw [hy]; exact hz
        have HM : Hid (n % 128 = m) := hm
        have hk7 : (7 : Int) * (k : Int) < 64 := by omega
        clear HC hx e2 hb hy hz hm
        have KB : (∃ c : Bool, (((k : Nat) : Int) == 9) = c ∧ (c = true → n ≤ 1)) := ⟨_, rfl, fun h => by
          have : ((k : Nat) : Int) = 9 := by simpa using h
          omega⟩
        obtain ⟨c, hkb, hcn⟩ := KB
        have HK9 : Hid (k ≤ 9 ∧ ¬ (k = 9 ∧ 1 < n)) := ⟨hk9, h9⟩
        clear h9
        rcases Nat.lt_or_ge n 128 with hn | hn
        · have hmn : m = n := by have := HM.out; omega
          have hni : ¬ (128 : Int) ≤ (n : Int) := by omega
          by_cases h0 : n = 0 ∧ 0 < k
          · obtain ⟨rfl, hk0⟩ := h0
            have E : Hid (Wd.rd 0 0 l = none) := by unfold Hid; rw [E9.out, if_neg (by omega), if_pos ⟨rfl, hk0⟩]
            have hk0i : (0 : Int) < (k : Int) := by omega
            cases c
            all_goals
              go_wp2
              go_ret2
              refine ⟨⟨_, rfl, ?_⟩, rfl⟩
              unfold ReadSays
              rw [E.out]
              rfl
          · have E : Hid (Wd.rd 0 0 l = some (z, k + 1)) := by unfold Hid; rw [E9.out, if_neg (by omega), if_neg h0, ← HZ.out, hmn]
            have h0b : ∃ d : Bool, (((n : Nat) : Int) == 0) = d ∧ (d = true → ¬ (0 : Int) < (k : Int)) := ⟨_, rfl, fun h => by
              have : ((n : Nat) : Int) = 0 := by simpa using h
              omega⟩
            obtain ⟨d, hd, hdk⟩ := h0b
            have wk : IntKind.i64.wrap ((k : Int) + 1) = (k : Int) + 1 := by rw [IntKind.wrap_i64]; omega
            clear hmn h0
            have fin : ReadSays l (.tuple #[.int .i64 (Wd.unz z), .int .i64 ((k + 1 : Nat) : Int)]) := by
              unfold ReadSays
              rw [E.out]
            have FIN : Hid (ReadSays l (.tuple #[.int .i64 (Wd.unz z), .int .i64 ((k + 1 : Nat) : Int)])) := fin
            clear fin
            cases c
            all_goals
              have hc1 : Hid (_ = true → n ≤ 1) := hcn
              cases d
              all_goals
                have hd1 : Hid (_ = true → ¬ (0 : Int) < (k : Int)) := hdk
                try (have hcx : ¬ (1 : Int) < (n : Int) := by have := hc1.out rfl; omega)
                try (have hdx : ¬ (0 : Int) < (k : Int) := hd1.out rfl)
                clear hcn hdk hc1 hd1
                go_wp2_with fail
                refine (unfold_any z _ zb).mono ?_
                rintro e w1 ⟨rfl, rfl⟩
                go_wp2
                go_ret2
                exact ⟨⟨_, rfl, FIN.out⟩, rfl⟩
        · have hni : (128 : Int) ≤ (n : Int) := by omega
          cases c
          · have HK : Hid (k < 9) := by
              unfold Hid
              have : ¬ ((k : Nat) : Int) = 9 := by simpa using hkb
              omega
            have E : Hid (Wd.rd (k + 1) z (l.drop (k + 1)) = Wd.rd 0 0 l) := by unfold Hid; rw [E9.out, if_pos hn, HM.out, HZ.out]
            clear hcn
            go_wp2
            go_roundw
            case rel =>
              refine ⟨z, k + 1, rfl, rfl, by omega, by have := HK.out; omega, ?_, E.out, trivial⟩
              have hs : 128 ^ (k + 1) = 128 ^ k * 128 := Nat.pow_succ ..
              have : m * 128 ^ k ≤ 127 * 128 ^ k := Nat.mul_le_mul_right _ (by omega)
              have h1 := HZ.out
              have h2 := HX.out
              omega
            case measure => simp [intOf]; omega
          · have := hcn rfl
            omega
end Go.Proofs.Ytifijfaefpdmpaa

namespace Go.Proofs.Ytifijfaefpdmpaa
open Go.RowKit
set_option linter.unusedVariables false

/-- nothing that was there has turned but blocks y and z. -/
structure K2 (y z : Nat) (w w' : World) : Prop where
  os : w'.os = w.os
  tape : w'.tape = w.tape
  output : w'.output = w.output
  size : w.heap.size ≤ w'.heap.size
  block : ∀ k, k < w.heap.size → k ≠ y → k ≠ z → w'.heap[k]? = w.heap[k]?
theorem K2.of {y z : Nat} {w w' : World} (h : Below w.heap.size w w') : K2 y z w w' := ⟨h.os, h.tape, h.output, h.size, fun k hk _ _ => h.block k hk⟩
theorem K2.refl (y z : Nat) (w : World) : K2 y z w w := K2.of (Below.refl _ _)
theorem K2.trans {y z : Nat} {a b c : World} (h : K2 y z a b) (k : K2 y z b c) : K2 y z a c :=
  ⟨k.os.trans h.os, k.tape.trans h.tape, k.output.trans h.output, Nat.le_trans h.size k.size, fun i hi hy hz => (k.block i (Nat.lt_of_lt_of_le hi h.size) hy hz).trans (h.block i hi hy hz)⟩
theorem K2.setY {y z : Nat} (w : World) (i : Nat) (u : Value) : K2 y z w (w.setCell ⟨y, i, none⟩ u) :=
  ⟨rfl, rfl, rfl, by simp [World.setCell], fun k _ hy _ => Below.heap_setCell _ _ _ _ hy⟩
theorem K2.setZ {y z : Nat} (w : World) (i : Nat) (u : Value) : K2 y z w (w.setCell ⟨z, i, none⟩ u) :=
  ⟨rfl, rfl, rfl, by simp [World.setCell], fun k _ _ hz => Below.heap_setCell _ _ _ _ hz⟩
theorem K2.below {y z B : Nat} {a w w' : World} (h : Below B a w) (k : K2 y z w w') (hB : B ≤ w.heap.size) (hy : B ≤ y) (hz : B ≤ z) : Below B a w' :=
  h.trans ⟨k.os, k.tape, k.output, k.size, fun i hi => k.block i (by omega) (by omega) (by omega)⟩
theorem K2.cell {y z : Nat} {w w' : World} (k : K2 y z w w') (p : Addr) (hp : p.block < w.heap.size) (hy : p.block ≠ y) (hz : p.block ≠ z) : w'.cell? p = w.cell? p := by
  have := k.block p.block hp hy hz
  simp only [World.cell?, this]
theorem K2.grown {y z : Nat} {w w' : World} (k : K2 y z w w') {row : Option Nat} {w'' : World} (h : w'.grownBy w'' row) (hr : ∀ b, row = some b → w.heap.size ≤ b) : K2 y z w w'' :=
  ⟨h.os.trans k.os, h.tape.trans k.tape, h.output.trans k.output, Nat.le_trans k.size h.size, fun i hi hy hz => (h.block i (Nat.lt_of_lt_of_le hi k.size) (fun e => by have := hr i e.symm; omega)).trans (k.block i hi hy hz)⟩

/-- what is read, how far, and whether something was wrong. -/
structure Dc (w0 : World) (zb za zf : Nat) (v : Value) (l : List UInt8) (w : World) (a : Nat) (f : Bool) : Prop where
  src : By w0 v l
  low : w0.heap.size ≤ zb
  ba : zb < za
  af : za < zf
  bl : Below zb w0 w
  cb : w.cell? ⟨zb, 0, none⟩ = some v
  ca : w.heap[za]? = some (.cells #[.int .i64 (a : Nat)] 3 (0, 0))
  cf : w.heap[zf]? = some (.cells #[.bool f] 4 (0, 0))
  le : a ≤ l.length
theorem Dc.ltf {w0 w : World} {zb za zf a : Nat} {v : Value} {l : List UInt8} {f : Bool} (h : Dc w0 zb za zf v l w a f) : zf < w.heap.size := lt_of_block h.cf
theorem Dc.kept {w0 w w' : World} {zb za zf a : Nat} {v : Value} {l : List UInt8} {f : Bool} (h : Dc w0 zb za zf v l w a f) (hb : Below (zf + 1) w w') : Dc w0 zb za zf v l w' a f := by
  have h1 := h.ba
  have h2 := h.af
  exact ⟨h.src, h.low, h.ba, h.af, h.bl.trans (hb.mono (by omega)), by rw [hb.cell (p := ⟨zb, 0, none⟩) (by show zb < _; omega)]; exact h.cb, by rw [hb.block za (by omega)]; exact h.ca, by rw [hb.block zf (by omega)]; exact h.cf, h.le⟩
theorem Dc.la {w0 w : World} {zb za zf a : Nat} {v : Value} {l : List UInt8} {f : Bool} (h : Dc w0 zb za zf v l w a f) : w.cell? ⟨za, 0, none⟩ = some (.int .i64 (a : Nat)) ∧ w.frozen? ⟨za, 0, none⟩ = false := ⟨by simp [World.cell?, h.ca], by simp [World.frozen?, h.ca]⟩
theorem Dc.lf {w0 w : World} {zb za zf a : Nat} {v : Value} {l : List UInt8} {f : Bool} (h : Dc w0 zb za zf v l w a f) : w.cell? ⟨zf, 0, none⟩ = some (.bool f) ∧ w.frozen? ⟨zf, 0, none⟩ = false := ⟨by simp [World.cell?, h.cf], by simp [World.frozen?, h.cf]⟩
theorem Dc.by_ {w0 w : World} {zb za zf a : Nat} {v : Value} {l : List UInt8} {f : Bool} (h : Dc w0 zb za zf v l w a f) : By w v l := h.src.below (h.bl.mono h.low)

/-- what it says. -/
def NextSays (w0 : World) (zb za zf : Nat) (v : Value) (l : List UInt8) (w : World) (a : Nat) (f : Bool) (e : Ending) (w' : World) : Prop :=
  ∃ (n : Int) (a' : Nat) (f' : Bool), e = .returned (.int .i64 n) ∧ Wd.Rd (Wd.pnum l) a f n a' f' ∧ Dc w0 zb za zf v l w' a' f' ∧ K2 za zf w w'
theorem By.drop {w : World} {ad : Option Addr} {n : Nat} {l : List UInt8} {c k : Nat} (h : By w (.slice ad n c) l) (hk : k ≤ l.length) : By w (.slice (Option.map (fun x => x.add k) ad) (l.length - k) (c - k)) (l.drop k) := by
  obtain ⟨a, c', e, h1, h2, h3⟩ := h
  injection e with e1 e2 e3
  subst e1 e3
  refine ⟨_, _, by rw [List.length_drop], by rw [List.length_drop]; omega, by omega, fun hn => ?_⟩
  obtain ⟨y, e, hy, hc⟩ := h3 (by intro h; subst h; simp at hn)
  subst e
  refine ⟨_, rfl, by rw [add_block]; exact hy, fun i d hi => ?_⟩
  rw [List.getElem?_drop] at hi
  rw [Addr.add_add]
  exact hc _ d hi
theorem By.end_ (w : World) (ad : Option Addr) (l : List UInt8) {k : Nat} (hk : l.length ≤ k) : By w (.slice ad (l.length - k) 0) (l.drop k) := by
  have : l.drop k = [] := List.drop_eq_nil_of_le hk
  rw [this]
  exact ⟨ad, 0, by rw [List.length_nil]; congr 1; omega, Nat.le_refl _, by omega, fun h => absurd rfl h⟩
theorem Dc.put {w0 w : World} {zb za zf a a' : Nat} {v : Value} {l : List UInt8} {f f' : Bool} (h : Dc w0 zb za zf v l w a f) (hle : a' ≤ l.length) : Dc w0 zb za zf v l ((w.setCell ⟨za, 0, none⟩ (.int .i64 (a' : Nat))).setCell ⟨zf, 0, none⟩ (.bool f')) a' f' ∧ K2 za zf w ((w.setCell ⟨za, 0, none⟩ (.int .i64 (a' : Nat))).setCell ⟨zf, 0, none⟩ (.bool f')) := by
  have h1 := h.ba
  have h2 := h.af
  have hs : K2 za zf w ((w.setCell ⟨za, 0, none⟩ (.int .i64 (a' : Nat))).setCell ⟨zf, 0, none⟩ (.bool f')) := (K2.setY w 0 _).trans (K2.setZ _ 0 _)
  have lf := h.ltf
  refine ⟨⟨h.src, h.low, h.ba, h.af, hs.below h.bl (by omega) (by omega) (by omega), ?_, ?_, ?_, hle⟩, hs⟩
  · rw [hs.cell ⟨zb, 0, none⟩ (by show zb < _; omega) (by show zb ≠ _; omega) (by show zb ≠ _; omega)]; exact h.cb
  · rw [Below.heap_setCell _ _ _ _ (by show za ≠ zf; omega)]
    exact heap_setCell_same w za 0 _ _ (.int .i64 (a' : Nat)) h.ca
  · exact heap_setCell_same _ zf 0 _ _ (.bool f') ((Below.heap_setCell w ⟨za, 0, none⟩ _ _ (by show zf ≠ za; omega)).trans h.cf)
theorem owns_k2 {y z : Nat} {w w' : World} {base : Nat} {T : TypeId} {size : Nat} {u : Value} {n : Nat} {cs : List Value} (h : w.ownsRow base T size u n cs) (k : K2 y z w w') (hy : y < base) (hz : z < base) : w'.ownsRow base T size u n cs := by
  refine ⟨h.1, ?_⟩
  rcases h.2 with h1 | ⟨g, cap, cur, h1, h2, h3, h4⟩
  · exact .inl h1
  · exact .inr ⟨g, cap, cur, h1, h2, (k.block g (lt_of_block h3) (by omega) (by omega)).trans h3, h4⟩
end Go.Proofs.Ytifijfaefpdmpaa

namespace Go.Proofs.Ytifijfaefpdmpaa
open Go.RowKit
set_option linter.unusedVariables false

set_option maxHeartbeats 2000000 in
theorem unext_any (w0 : World) (zb za zf : Nat) (v : Value) (l : List UInt8) (w : World) (a : Nat) (f : Bool) (h : Dc w0 zb za zf v l w a f) :
    Calls Try.prog 16 #[.pointer (some ⟨zb, 0, none⟩), .pointer (some ⟨za, 0, none⟩), .pointer (some ⟨zf, 0, none⟩)] w (NextSays w0 zb za zf v l w a f) := by
  have D : Hid (Dc w0 zb za zf v l w a f) := h
  have B : Hid (By w v l) := h.by_
  obtain ⟨ad, cap, rfl, h1, h2, h3⟩ := h.by_
  have cb := h.cb
  obtain ⟨ca, fa⟩ := h.la
  obtain ⟨cf, ff⟩ := h.lf
  have le := h.le
  have cm : cap ≤ 9223372036854775807 := by unfold maxLen at h2; omega
  clear h h2 h3
  go_enter Try.func16, Try.ntmps16
  go_wp2_with fail
  all_goals
    refine (read_any _ (l.drop a) _ (by first | exact B.out.drop le | exact By.end_ _ _ _ (by omega))).mono ?_
    rintro e w1 ⟨⟨u, rfl, hu⟩, rfl⟩
    have ne : za ≠ zf := by have := D.out.af; omega
    have ne' : zf ≠ za := fun e => ne e.symm
    unfold ReadSays at hu
    cases hr : Wd.rd 0 0 (l.drop a) with
    | none =>
      rw [hr] at hu
      subst hu
      have E : Hid (Wd.pnum l a = none) := by unfold Hid Wd.pnum; rw [hr]
      have F : Hid (NextSays w0 zb za zf (.slice ad l.length _) l w1 a f (.returned (.int .i64 0)) ((w1.setCell ⟨za, 0, none⟩ (.int .i64 (a : Nat))).setCell ⟨zf, 0, none⟩ (.bool true))) := ⟨0, a, true, rfl, ⟨fun _ => rfl, fun _ => .inr ⟨E.out, rfl⟩⟩, (D.out.put le).1, (D.out.put le).2⟩
      cases f
      all_goals
        go_wp2
        go_ret
        exact F.out
    | some p =>
      obtain ⟨x, n⟩ := p
      rw [hr] at hu
      subst hu
      obtain ⟨k1, k2, k3, k4⟩ := Wd.rd_le _ 0 0 x n (by omega) (by decide) hr
      rw [List.length_drop] at k2
      obtain ⟨a', ha'⟩ : ∃ a', a + n = a' := ⟨_, rfl⟩
      have E : Hid (Wd.pnum l a = some (Wd.unz x, a')) := by unfold Hid Wd.pnum; rw [hr, ← ha']
      have ai : (a : Int) + (n : Int) = (a' : Nat) := by omega
      have wa : IntKind.i64.wrap ((a' : Nat) : Int) = (a' : Nat) := by rw [IntKind.wrap_i64]; omega
      have hn0 : (((n : Nat) : Int) == 0) = false := by
        have : ¬ ((n : Nat) : Int) = 0 := by omega
        simpa using this
      have F : Hid (NextSays w0 zb za zf (.slice ad l.length _) l w1 a f (.returned (.int .i64 (Wd.unz x))) ((w1.setCell ⟨za, 0, none⟩ (.int .i64 (a' : Nat))).setCell ⟨zf, 0, none⟩ (.bool f))) := ⟨_, a', f, rfl, ⟨fun h => h, fun h => .inl ⟨E.out, h⟩⟩, (D.out.put (by omega)).1, (D.out.put (by omega)).2⟩
      clear hr k1 k2 k3 k4 ha'
      cases f
      all_goals
        go_wp2
        go_ret
        exact F.out
end Go.Proofs.Ytifijfaefpdmpaa

namespace Go.Proofs.Ytifijfaefpdmpaa
open Go.RowKit
set_option linter.unusedVariables false

theorem i64_to64 (n : Int) : IntKind.i64.wrap n = wrap64 n := by unfold wrap64; exact IntKind.wrap_i64 n
namespace Fe
theorem ptr_next {l : List UInt8} {a0 n : Nat} {ls : List ChV} {p : Int} {a : Nat} {x y z : Int} {a1 a2 a3 : Nat} {f1 f2 f3 : Bool} (h : ptr l a0 n = some (ls, p, a)) (r1 : Wd.Rd (Wd.pnum l) a false x a1 f1) (r2 : Wd.Rd (Wd.pnum l) a1 f1 y a2 f2) (r3 : Wd.Rd (Wd.pnum l) a2 f2 z a3 f3) :
    (f3 = false ∧ ptr l a0 (n + 1) = some (ls ++ [⟨wrap (p + x), wrap (y - 1), wrap (z - 1)⟩], wrap (p + x), a3)) ∨ (f3 = true ∧ ptr l a0 (n + 1) = none) := by
  unfold ptr
  rw [h]
  simp only
  rcases r1.2 rfl with ⟨e1, rfl⟩ | ⟨e1, rfl⟩
  · rw [e1]
    simp only
    rcases r2.2 rfl with ⟨e2, rfl⟩ | ⟨e2, rfl⟩
    · rw [e2]
      simp only
      rcases r3.2 rfl with ⟨e3, rfl⟩ | ⟨e3, rfl⟩
      · rw [e3]
        exact .inl ⟨rfl, rfl⟩
      · rw [e3]
        exact .inr ⟨rfl, rfl⟩
    · rw [e2]
      exact .inr ⟨r3.1 rfl, rfl⟩
  · rw [e1]
    exact .inr ⟨r3.1 (r2.1 rfl), rfl⟩
theorem unp_no {l : List UInt8} (h : Wd.pnum l 0 = none) : unpack l = none := by unfold unpack; rw [h]
theorem unp_off {l : List UInt8} {m : Int} {a0 : Nat} (h : Wd.pnum l 0 = some (m, a0)) (hm : ¬ (0 ≤ m ∧ m ≤ 6000)) : unpack l = none := by unfold unpack; rw [h]; simp only; rw [if_neg hm]
theorem unp_early {l : List UInt8} {m : Int} {a0 n : Nat} (h : Wd.pnum l 0 = some (m, a0)) (hn : (n : Int) ≤ m) (hp : ptr l a0 n = none) : unpack l = none := by
  unfold unpack
  rw [h]
  simp only
  split
  · have : ptr l a0 m.toNat = none := by
      have := ptr_none hp (m.toNat - n)
      rwa [show n + (m.toNat - n) = m.toNat by omega] at this
    rw [this]
  · rfl
theorem unp_all {l : List UInt8} {m : Int} {a0 n : Nat} {ls : List ChV} {p : Int} {a : Nat} (h : Wd.pnum l 0 = some (m, a0)) (h1 : m ≤ 6000) (hn : (n : Int) = m) (hp : ptr l a0 n = some (ls, p, a)) : unpack l = if cfault (fun _ => true) (-1) ls = 0 then some (ls, a) else none := by
  unfold unpack
  rw [h]
  simp only
  rw [if_pos (by omega), show m.toNat = n by omega, hp]
end Fe
def slen : Value → Nat
  | .slice _ n _ => n
  | _ => 0
theorem Dc.setf {w0 w : World} {zb za zf a : Nat} {v : Value} {l : List UInt8} {f f' : Bool} (h : Dc w0 zb za zf v l w a f) : Dc w0 zb za zf v l (w.setCell ⟨zf, 0, none⟩ (.bool f')) a f' ∧ K2 za zf w (w.setCell ⟨zf, 0, none⟩ (.bool f')) := by
  have h1 := h.ba
  have h2 := h.af
  have hs : K2 za zf w (w.setCell ⟨zf, 0, none⟩ (.bool f')) := K2.setZ _ 0 _
  have lf := h.ltf
  refine ⟨⟨h.src, h.low, h.ba, h.af, hs.below h.bl (by omega) (by omega) (by omega), ?_, ?_, ?_, h.le⟩, hs⟩
  · rw [hs.cell ⟨zb, 0, none⟩ (by show zb < _; omega) (by show zb ≠ _; omega) (by show zb ≠ _; omega)]; exact h.cb
  · rw [Below.heap_setCell _ _ _ _ (by show za ≠ zf; omega)]
    exact h.ca
  · exact heap_setCell_same _ zf 0 _ _ (.bool f') h.cf
/-- what Unpack tells. -/
def UnpSays (l : List UInt8) (w w' : World) (v n r : Value) : Prop :=
  (Fe.unpack l = none ∧ v = .slice none 0 0 ∧ n = .int .i64 0 ∧ Er r 9) ∨ (∃ ls a, Fe.unpack l = some (ls, a) ∧ r = .nilIface ∧ n = .int .i64 (a : Nat) ∧ Cho w' w.heap.size v ls)
set_option maxRecDepth 100000 in
set_option maxHeartbeats 16000000 in
theorem Unpack_any (vb : Value) (l : List UInt8) (w : World) (hl : By w vb l) :
    Calls Try.prog 8 #[vb] w fun e w' => ∃ v n r, e = .returned (.tuple #[v, n, r]) ∧ UnpSays l w w' v n r ∧ Below w.heap.size w w' := by
  have L : Hid (By w vb l) := hl
  obtain ⟨pa, ca, rfl, a1, a2, -⟩ := hl
  clear a2
  go_enter Try.func8, Try.ntmps8
  go_upto_region 3 with fail
  have D0 : Hid (Dc w w.heap.size (w.heap.size + 1) (w.heap.size + 1 + 1) (.slice pa l.length ca) l (((w.alloc (Obj.cells #[.slice pa l.length ca] 22)).alloc (Obj.cells #[.int .i64 0] 3)).alloc (Obj.cells #[.bool false] 4)) 0 false) := by
    refine ⟨L.out, Nat.le_refl _, by omega, by omega, (((Below.refl _ _).alloc (Nat.le_refl _) _).alloc (by simp) _).alloc (by simp; omega) _, ?_, ?_, ?_, Nat.zero_le _⟩
    · have c9 : (w.alloc (Obj.cells #[.slice pa l.length ca] 22)).cell? ⟨w.heap.size, 0, none⟩ = some (.slice pa l.length ca) := by simp
      rw [(((Below.refl _ _).alloc (Nat.le_refl _) _).alloc (B := (w.alloc (Obj.cells #[.slice pa l.length ca] 22)).heap.size) (by simp) _).cell (p := ⟨w.heap.size, 0, none⟩) (by simp)]
      exact c9
    · have h9 := heap_alloc_new (w.alloc (Obj.cells #[.slice pa l.length ca] 22)) (Obj.cells #[.int .i64 0] 3)
      have e9 : (w.alloc (Obj.cells #[.slice pa l.length ca] 22)).heap.size = w.heap.size + 1 := by simp
      rw [e9] at h9
      rw [((Below.refl _ _).alloc (Nat.le_refl _) _).block (w.heap.size + 1) (by simp)]
      exact h9
    · have h9 := heap_alloc_new ((w.alloc (Obj.cells #[.slice pa l.length ca] 22)).alloc (Obj.cells #[.int .i64 0] 3)) (Obj.cells #[.bool false] 4)
      have e9 : ((w.alloc (Obj.cells #[.slice pa l.length ca] 22)).alloc (Obj.cells #[.int .i64 0] 3)).heap.size = w.heap.size + 1 + 1 := by simp
      rw [e9] at h9
      exact h9
  generalize (((w.alloc (Obj.cells #[.slice pa l.length ca] 22)).alloc (Obj.cells #[.int .i64 0] 3)).alloc (Obj.cells #[.bool false] 4)) = w0 at *
  obtain ⟨zb, hzb⟩ : ∃ z, w.heap.size = z := ⟨_, rfl⟩
  have HZ : Hid (w.heap.size = zb) := hzb
  rw [hzb] at D0 ⊢
  obtain ⟨za, hza⟩ : ∃ z, zb + 1 = z := ⟨_, rfl⟩
  obtain ⟨zf, hzf⟩ : ∃ z, zb + 1 + 1 = z := ⟨_, rfl⟩
  have HZ2 : Hid (zb + 1 = za ∧ za + 1 = zf) := ⟨hza, by omega⟩
  rw [hzf, hza] at D0 ⊢
  clear hza hzf hzb
  go_wp2_with fail
  refine (unext_any w zb za zf _ l w0 0 false D0.out).mono ?_
  rintro e w1 ⟨m, b0, f1, rfl, hrd, hd, hk2⟩
  have R1 : Hid (Wd.Rd (Wd.pnum l) 0 false m b0 f1) := hrd
  have D1 : Hid (Dc w zb za zf (.slice pa l.length ca) l w1 b0 f1) := hd
  clear hrd hd hk2 D0
  have UN : Hid (f1 = true → Fe.unpack l = none) := by
    intro hf
    rcases R1.out.2 rfl with ⟨-, e⟩ | ⟨e, -⟩
    · rw [hf] at e; cases e
    · exact Fe.unp_no e
  have PN : Hid (f1 = false → Wd.pnum l 0 = some (m, b0)) := by
    intro hf
    rcases R1.out.2 rfl with ⟨e, -⟩ | ⟨-, e⟩
    · exact e
    · rw [hf] at e; cases e
  obtain ⟨cf, tf⟩ := D1.out.lf
  go_upto_region 4 with fail
  go_cut [19] (fun v19 W => ∃ g : Bool, v19 = .bool g ∧ Dc w zb za zf (.slice pa l.length ca) l W b0 g ∧ (g = true → Fe.unpack l = none) ∧ (g = false → Wd.pnum l 0 = some (m, b0) ∧ 0 ≤ m ∧ m ≤ 6000))
  case first =>
    cases f1 with
    | true =>
      have UT : Hid (Fe.unpack l = none) := UN.out rfl
      clear UN PN R1
      have DN : Hid (Dc w zb za zf (.slice pa l.length ca) l (w1.setCell ⟨zf, 0, none⟩ (.bool true)) b0 true) := D1.out.setf.1
      go_wp2
      go_meet
      case rel => exact ⟨true, rfl, DN.out, fun _ => UT.out, fun h => (by cases h)⟩
    | false =>
      have PT : Hid (Wd.pnum l 0 = some (m, b0)) := PN.out rfl
      clear UN PN R1
      by_cases hm : 0 ≤ m ∧ m ≤ 6000
      · have WI := fwin_is m 0 6000 true (decide_eq_true hm)
        have HM : Hid (0 ≤ m ∧ m ≤ 6000) := hm
        have DN : Hid (Dc w zb za zf (.slice pa l.length ca) l (w1.setCell ⟨zf, 0, none⟩ (.bool false)) b0 false) := D1.out.setf.1
        clear hm
        go_wp2_with fail
        refine (WI.out _).mono ?_
        rintro e w2 ⟨rfl, rfl⟩
        go_wp2
        go_meet
        case rel => exact ⟨false, rfl, DN.out, fun h => (by cases h), fun _ => ⟨PT.out, HM.out.1, HM.out.2⟩⟩
      · have WI := fwin_is m 0 6000 false (decide_eq_false hm)
        have UF : Hid (Fe.unpack l = none) := Fe.unp_off PT.out hm
        have DN : Hid (Dc w zb za zf (.slice pa l.length ca) l (w1.setCell ⟨zf, 0, none⟩ (.bool true)) b0 true) := D1.out.setf.1
        clear hm
        go_wp2_with fail
        refine (WI.out _).mono ?_
        rintro e w2 ⟨rfl, rfl⟩
        go_wp2
        go_meet
        case rel => exact ⟨true, rfl, DN.out, fun _ => UF.out, fun h => (by cases h)⟩
  case rest =>
  obtain ⟨g, rfl, hd, hg1, hg2⟩ := hcut
  have D2 : Hid (Dc w zb za zf (.slice pa l.length ca) l wc b0 g) := hd
  have G : Hid ((g = true → Fe.unpack l = none) ∧ (g = false → Wd.pnum l 0 = some (m, b0) ∧ 0 ≤ m ∧ m ≤ 6000)) := ⟨hg1, hg2⟩
  clear hd hg1 hg2 D1 cf tf R1 UN PN
  go_wp2_with fail
  go_loopw [9, 10] (fun pv lv W => ∃ (n : Nat) (ls : List ChV) (p : Int) (a : Nat) (f : Bool), ls.length = n ∧ n ≤ 6000 ∧ pv = .int .i64 p ∧ Cho W (zf + 1) lv ls ∧ Dc w zb za zf (.slice pa l.length ca) l W a f ∧ (f = true → Fe.unpack l = none) ∧ (f = false → Wd.pnum l 0 = some (m, b0) ∧ 0 ≤ m ∧ m ≤ 6000 ∧ (n : Int) ≤ m ∧ Fe.ptr l b0 n = some (ls, p, a))) (fun _ lv _ => m.toNat - slen lv)
  case atStart => exact ⟨0, [], 0, b0, g, rfl, Nat.zero_le _, rfl, Cho.nil _ _, D2.out, G.out.1, fun h => ⟨(G.out.2 h).1, (G.out.2 h).2.1, (G.out.2 h).2.2, (G.out.2 h).2.1, rfl⟩⟩
  case round =>
  obtain ⟨n, ls, p, a, f, hln, hn6, rfl, ho, hd, hf1, hf2⟩ := hrel
  have LN : Hid (ls.length = n) := hln
  have O : Hid (Cho wr (zf + 1) u10 ls) := ho
  have D3 : Hid (Dc w zb za zf (.slice pa l.length ca) l wr a f) := hd
  have F1 : Hid (f = true → Fe.unpack l = none) := hf1
  have F2 : Hid (f = false → Wd.pnum l 0 = some (m, b0) ∧ 0 ≤ m ∧ m ≤ 6000 ∧ (n : Int) ≤ m ∧ Fe.ptr l b0 n = some (ls, p, a)) := hf2
  have BW : Hid (Below w.heap.size w wr) := by unfold Hid; rw [HZ.out]; exact D3.out.bl
  obtain ⟨op, oc, rfl⟩ := ho.len
  obtain ⟨cf, tf⟩ := D3.out.lf
  obtain ⟨cl, tl⟩ := D3.out.la
  clear ho hd hf1 hf2 D2 G
  rw [hln]
  clear hln
  cases f with
  | true =>
    have UN : Hid (Fe.unpack l = none) := F1.out rfl
    by_cases hnm : (n : Int) < m
    · go_wp2
      go_ret3
      exact ⟨_, _, _, rfl, .inl ⟨UN.out, rfl, rfl, Er.no (by decide)⟩, BW.out⟩
    · go_wp2
      go_ret3
      exact ⟨_, _, _, rfl, .inl ⟨UN.out, rfl, rfl, Er.no (by decide)⟩, BW.out⟩
  | false =>
    obtain ⟨pm, hm0, hm6, hnm, hptr⟩ := F2.out rfl
    have PM : Hid (Wd.pnum l 0 = some (m, b0)) := pm
    have PT : Hid (Fe.ptr l b0 n = some (ls, p, a)) := hptr
    clear pm hptr F1 F2
    by_cases hne : (n : Int) = m
    · have hlt : ¬ (n : Int) < m := by omega
      have UA : Hid (Fe.unpack l = if Fe.cfault (fun _ => true) (-1) ls = 0 then some (ls, a) else none) := Fe.unp_all PM.out hm6 hne PT.out
      have OC : Hid (Chl wr (.slice op n oc) ls) := by
        have := O.out.l
        rw [LN.out] at this
        exact this
      go_wp2_with fail
      refine (fcheck_any 14 (by intro args w; go_simp) _ #[] ls (fun _ => true) wr OC.out (fun W hW c hc => anywhere_any c W)).mono ?_
      rintro e w5 ⟨r, rfl, hr, hb⟩
      have B5 : Hid (Below w.heap.size w w5) := BW.out.trans (hb.mono BW.out.size)
      have O5 : Hid (Cho w5 w.heap.size (.slice op n oc) ls) := by
        have := (O.out.below hb).mono (base' := w.heap.size) (by have := HZ2.out; have := HZ.out; omega)
        rw [LN.out] at this
        exact this
      have cl5 : w5.cell? ⟨za, 0, none⟩ = some (.int .i64 (a : Nat)) := by rw [hb.cell (p := ⟨za, 0, none⟩) (cell_lt cl)]; exact cl
      have CF : Hid (Er r (Fe.cfault (fun _ => true) (-1) ls)) := by
        have : chk (fun _ => true) ls = Fe.cfault (fun _ => true) (-1) ls := by unfold chk; rw [if_neg (by rw [LN.out]; omega)]
        rw [this] at hr
        exact hr
      clear hr hb OC
      rcases CF.out with ⟨h0, rfl⟩ | ⟨h0, rfl⟩
      · have UE : Hid (Fe.unpack l = some (ls, a)) := by unfold Hid; rw [UA.out, if_pos h0]
        have BQ : Hid (∀ q, Below w.heap.size w (w5.drewN q)) := fun q => ⟨B5.out.os, B5.out.tape, B5.out.output, B5.out.size, B5.out.block⟩
        have OQ : Hid (∀ q, Cho (w5.drewN q) w.heap.size (.slice op n oc) ls) := fun q => O5.out
        clear h0
        go_wp2
        go_quiet (fail)
        go_wp2
        go_ret3
        exact ⟨_, _, _, rfl, .inr ⟨ls, a, UE.out, rfl, rfl, OQ.out _⟩, BQ.out _⟩
      · have UE : Hid (Fe.unpack l = none) := by unfold Hid; rw [UA.out, if_neg h0]
        clear h0
        go_wp2
        go_ret3
        exact ⟨_, _, _, rfl, .inl ⟨UE.out, rfl, rfl, Er.no (by decide)⟩, B5.out⟩
    have hlt : (n : Int) < m := by omega
    go_wp2_with fail
    refine (unext_any w zb za zf _ l wr a false D3.out).mono ?_
    rintro e w2 ⟨x, a1, f1, rfl, hr1, hd1, hk1⟩
    have R1 : Hid (Wd.Rd (Wd.pnum l) a false x a1 f1) := hr1
    have E1 : Hid (Dc w zb za zf (.slice pa l.length ca) l w2 a1 f1) := hd1
    have K1 : Hid (K2 za zf wr w2) := hk1
    clear hr1 hd1 hk1
    go_wp2_with fail
    refine (unext_any w zb za zf _ l w2 a1 f1 E1.out).mono ?_
    rintro e w3 ⟨y, a2, f2, rfl, hr1, hd1, hk1⟩
    have R2 : Hid (Wd.Rd (Wd.pnum l) a1 f1 y a2 f2) := hr1
    have E2 : Hid (Dc w zb za zf (.slice pa l.length ca) l w3 a2 f2) := hd1
    have K2' : Hid (K2 za zf wr w3) := K1.out.trans hk1
    clear hr1 hd1 hk1
    go_wp2_with fail
    refine (unext_any w zb za zf _ l w3 a2 f2 E2.out).mono ?_
    rintro e w4 ⟨zz, a3, f3, rfl, hr1, hd1, hk1⟩
    have R3 : Hid (Wd.Rd (Wd.pnum l) a2 f2 zz a3 f3) := hr1
    have E3 : Hid (Dc w zb za zf (.slice pa l.length ca) l w4 a3 f3) := hd1
    have K3 : Hid (K2 za zf wr w4) := K2'.out.trans hk1
    clear hr1 hd1 hk1
    have PX : Hid ((f3 = false ∧ Fe.ptr l b0 (n + 1) = some (ls ++ [⟨Fe.wrap (p + x), Fe.wrap (y - 1), Fe.wrap (zz - 1)⟩], Fe.wrap (p + x), a3)) ∨ (f3 = true ∧ Fe.ptr l b0 (n + 1) = none)) := Fe.ptr_next PT.out R1.out R2.out R3.out
    simp only [Fe.wrap, i64_to64] at PX
    obtain ⟨x', hx'⟩ : ∃ v, wrap64 (p + x) = v := ⟨_, rfl⟩
    obtain ⟨y', hy'⟩ : ∃ v, wrap64 (y - 1) = v := ⟨_, rfl⟩
    obtain ⟨z', hz'⟩ : ∃ v, wrap64 (zz - 1) = v := ⟨_, rfl⟩
    rw [hx', hy', hz'] at PX
    have O4 : Hid (Cho w4 (zf + 1) (.slice op n oc) ls) := by
      have := owns_k2 O.out K3.out (by have := HZ2.out; omega) (by omega)
      rw [LN.out] at this
      unfold Hid Cho
      rw [LN.out]
      exact this
    have S4 : Hid (zf + 1 ≤ w4.heap.size) := E3.out.ltf
    try rw [hx']
    go_wp2_with (at_builtin; refine app_ch _ rfl _ _ rfl (zf + 1) _ ls rfl (O4.out.alloc _) w4.heap.size ⟨x', y', z'⟩ rfl (Chc.mk' ⟨x', y', z'⟩ rfl) (by rw [LN.out]; omega) (by have := S4.out; simp; omega) ?_)
    intro gg cap w5 o5 g5 _ l5
    have O5 : Hid (Cho w5 (zf + 1) (.slice (some ⟨gg, 0, none⟩) (ls.length + 1) cap) (ls ++ [⟨x', y', z'⟩])) := o5
    have hob : ∀ j, (Value.slice op n oc).ownBlock = some j → zf + 1 ≤ j := fun j hj => (O4.out.block j hj).1
    have B5 : Hid (Below (zf + 1) w4 w5) := ((Below.refl _ _).alloc S4.out _).grown g5 (by have := S4.out; simp; omega) hob
    have E5 : Hid (Dc w zb za zf (.slice pa l.length ca) l w5 a3 f3) := E3.out.kept B5.out
    clear o5 g5 l5 hob
    go_wp2
    go_roundw
    case rel => exact ⟨n + 1, ls ++ [⟨x', y', z'⟩], x', a3, f3, by rw [List.length_append, LN.out]; rfl, by omega, rfl, O5.out, E5.out, fun h => by
        rcases PX.out with ⟨e, -⟩ | ⟨-, e⟩
        · rw [h] at e; cases e
        · exact Fe.unp_early PM.out (by omega) e, fun h => by
        rcases PX.out with ⟨-, e⟩ | ⟨e, -⟩
        · exact ⟨PM.out, hm0, hm6, by omega, e⟩
        · rw [h] at e; cases e⟩
    case measure => simp [slen, LN.out]; omega
end Go.Proofs.Ytifijfaefpdmpaa

namespace Go.Proofs.Ytifijfaefpdmpaa
set_option linter.unusedVariables false
namespace Fe
theorem wrap_small {x : Int} (h : -100000 ≤ x ∧ x ≤ 100000) : wrap x = x := by
  unfold wrap
  rw [IntKind.wrap_i64]
  omega
theorem wr_cons (x : Int) (xs : List Int) : Wd.wr (x :: xs) = Wd.num x ++ Wd.wr xs := by simp [Wd.wr]
theorem ptr_chain {b t : List UInt8} {a0 : Nat} {l : List ChV} (hl : ∀ c ∈ l, ¬ Bad c) (hb : b.drop a0 = Wd.wr (chain 0 l) ++ t) : ∀ n, n ≤ l.length → ∃ p a, ptr b a0 n = some (l.take n, p, a) ∧ b.drop a = Wd.wr (chain p (l.drop n)) ++ t ∧ 0 ≤ p ∧ p ≤ 5999
  | 0, _ => ⟨0, a0, by simp [ptr], by simpa using hb, by omega, by omega⟩
  | n + 1, hn => by
    obtain ⟨p, a, h1, h2, h3, h4⟩ := ptr_chain hl hb n (by omega)
    have hnl : n < l.length := by omega
    have hc := hl l[n] (List.getElem_mem hnl)
    rw [List.drop_eq_getElem_cons hnl] at h2
    have ht : l.take (n + 1) = l.take n ++ [l[n]] := List.take_succ_eq_append_getElem hnl
    rw [ht]
    generalize l[n] = c at *
    obtain ⟨ca, co, cn⟩ := c
    unfold Bad at hc
    simp only at hc
    rw [chain, wr_cons, wr_cons, wr_cons] at h2
    simp only [List.append_assoc] at h2
    have i1 : Wd.In64 (ca - p) := by unfold Wd.In64; omega
    have i2 : Wd.In64 (co + 1) := by unfold Wd.In64; omega
    have i3 : Wd.In64 (cn + 1) := by unfold Wd.In64; omega
    have e1 := Wd.pnum_num i1 h2
    have g1 : b.drop (a + (Wd.num (ca - p)).length) = Wd.num (co + 1) ++ (Wd.num (cn + 1) ++ (Wd.wr (chain ca (l.drop (n + 1))) ++ t)) := by rw [← List.drop_drop, h2, List.drop_left]
    have e2 := Wd.pnum_num i2 g1
    have g2 : b.drop (a + (Wd.num (ca - p)).length + (Wd.num (co + 1)).length) = Wd.num (cn + 1) ++ (Wd.wr (chain ca (l.drop (n + 1))) ++ t) := by rw [← List.drop_drop, g1, List.drop_left]
    have e3 := Wd.pnum_num i3 g2
    have g3 : b.drop (a + (Wd.num (ca - p)).length + (Wd.num (co + 1)).length + (Wd.num (cn + 1)).length) = Wd.wr (chain ca (l.drop (n + 1))) ++ t := by rw [← List.drop_drop, g2, List.drop_left]
    refine ⟨ca, _, ?_, g3, by omega, by omega⟩
    unfold ptr
    rw [h1]
    simp only
    rw [e1]
    simp only
    rw [e2]
    simp only
    rw [e3]
    simp only
    rw [show p + (ca - p) = ca by omega, show co + 1 - 1 = co by omega, show cn + 1 - 1 = cn by omega, wrap_small (by omega), wrap_small (by omega), wrap_small (by omega)]
theorem unpack_pack {l : List ChV} (h1 : l.length ≤ 6000) (h2 : Fine (fun _ => true) (-1) l) (t : List UInt8) : ∃ a, unpack (Wd.wr (nums l) ++ t) = some (l, a) := by
  have hi : Wd.In64 (l.length : Int) := by unfold Wd.In64; omega
  have e0 : (Wd.wr (nums l) ++ t).drop 0 = Wd.num (l.length : Int) ++ (Wd.wr (chain 0 l) ++ t) := by
    unfold nums
    rw [wr_cons]
    simp
  have e1 := Wd.pnum_num hi e0
  have e2 : (Wd.wr (nums l) ++ t).drop (0 + (Wd.num (l.length : Int)).length) = Wd.wr (chain 0 l) ++ t := by rw [← List.drop_drop, e0, List.drop_left]
  obtain ⟨p, a, h3, -⟩ := ptr_chain (fine_mem h2) e2 l.length (Nat.le_refl _)
  refine ⟨a, ?_⟩
  unfold unpack
  rw [e1]
  simp only
  rw [if_pos (by omega), Int.toNat_natCast, h3]
  simp only
  rw [List.take_length, if_pos (fine_zero.2 h2)]
end Fe
end Go.Proofs.Ytifijfaefpdmpaa

namespace Go.Proofs.Ytifijfaefpdmpaa
open Go.RowKit
set_option linter.unusedVariables false

theorem By.one_ {w : World} {z : Nat} (hz : w.heap.size = z) (a : UInt8) {n : Int} (hn : n = (a.toNat : Int)) (t : TypeId) (fr : Nat × Nat) : By (w.alloc (.cells #[.int .u8 n] t fr)) (.slice (some ⟨z, 0, none⟩) 1 1) [a] := by
  subst hz hn
  refine ⟨_, 1, rfl, by simp, by unfold maxLen; omega, fun _ => ⟨_, rfl, by simp, fun i d hd => ?_⟩⟩
  match i, hd with
  | 0, hd => simp at hd; subst hd; rw [Addr.add_lit]; exact (Go.Joins.cell_alloc_mark_at _ _ _ _ _ _ rfl).trans rfl
  | i + 1, hd => simp at hd
theorem By.two_ {w : World} {z : Nat} (hz : w.heap.size = z) (a b : UInt8) {n m : Int} (hn : n = (a.toNat : Int)) (hm : m = (b.toNat : Int)) (t : TypeId) (fr : Nat × Nat) : By (w.alloc (.cells #[.int .u8 n, .int .u8 m] t fr)) (.slice (some ⟨z, 0, none⟩) 2 2) [a, b] := by
  subst hz hn hm
  refine ⟨_, 2, rfl, by simp, by unfold maxLen; omega, fun _ => ⟨_, rfl, by simp, fun i d hd => ?_⟩⟩
  match i, hd with
  | 0, hd => simp at hd; subst hd; rw [Addr.add_lit]; exact (Go.Joins.cell_alloc_mark_at _ _ _ _ _ _ rfl).trans rfl
  | 1, hd => simp at hd; subst hd; rw [Addr.add_lit]; exact (Go.Joins.cell_alloc_mark_at _ _ _ _ _ _ rfl).trans rfl
  | i + 2, hd => simp at hd
end Go.Proofs.Ytifijfaefpdmpaa

namespace Go.Proofs.Ytifijfaefpdmpaa
open Go.RowKit
set_option linter.unusedVariables false

/-- one more change: the run itself. -/
theorem run_ch (w : World) (ty : TypeId) (base : Nat) (v : Value) (ks : List ChV) (hown : Cho w base v ks) (b : Nat) (d : ChV) (hd : Chc w ⟨b, 0, none⟩ d) (hl : ks.length ≤ 1000000) (hbase : base ≤ w.heap.size) :
    ∃ g cap w', (Builtin.append_ #[29, 29] ty #[v, .slice (some ⟨b, 0, none⟩) 1 1]).run Try.prog w = .ok (.slice (some ⟨g, 0, none⟩) (ks.length + 1) cap) w' ∧ Cho w' base (.slice (some ⟨g, 0, none⟩) (ks.length + 1) cap) (ks ++ [d]) ∧ w.grownBy w' v.ownBlock ∧ (v.ownBlock = some g ∨ g = w.heap.size) ∧ g < w'.heap.size := by
  obtain ⟨i0, hi, hz0, hz1, hz2⟩ := info_parts info_ch
  obtain ⟨g, cap, w6, hr, ho6, hg6, ha6, hl6⟩ := run_append_lies (P := Try.prog) w 29 29 base 28 i0 _ 3 24 Try.underlying29 hi hz0 hz1 hz2 rfl (by decide) v ks.length _ hown ⟨b, 0, none⟩ 1 1 (ChV.cs d) rfl (fun j u hj => by
    have hjn : j < 3 := (List.getElem?_eq_some_iff.1 hj).1
    rw [Addr.add_lit, Nat.zero_add]
    match j, hjn, hj with
    | 0, _, hj => simp [ChV.cs] at hj; subst hj; exact hd.c0
    | 1, _, hj => simp [ChV.cs] at hj; subst hj; exact hd.c1
    | 2, _, hj => simp [ChV.cs] at hj; subst hj; exact hd.c2) (fun u hu => by
    simp [ChV.cs] at hu
    rcases hu with rfl | rfl | rfl <;> rfl) (by decide) (by unfold maxLen; omega) (by omega) hbase _ rfl
  refine ⟨g, cap, w6, hr, ?_, hg6, ha6, hl6⟩
  unfold Cho
  rw [List.length_append, List.flatMap_append]
  simpa using ho6
end Go.Proofs.Ytifijfaefpdmpaa

namespace Go.Proofs.Ytifijfaefpdmpaa
open Go.RowKit
set_option linter.unusedVariables false

set_option maxRecDepth 100000 in
set_option maxHeartbeats 4000000 in
theorem changes_like (u v : Value) (ks : List ChV) (w : World) (hu : Chl w u ks) (hv : Chl w v ks) :
    Calls Try.prog 9 #[u, v] w fun e w' => e = .returned (.bool true) ∧ Below w.heap.size w w' := by
  obtain ⟨a, c, rfl, hc1, hc2, ha⟩ := hu
  obtain ⟨b, d, rfl, hd1, hd2, hb⟩ := hv
  have Ha : Hid (ks ≠ [] → ∃ x, a = some x ∧ x.block < w.heap.size ∧ ∀ (i : Nat) k, ks[i]? = some k → Chc w (x.add (i * 3)) k) := ha
  have Hb : Hid (ks ≠ [] → ∃ x, b = some x ∧ x.block < w.heap.size ∧ ∀ (i : Nat) k, ks[i]? = some k → Chc w (x.add (i * 3)) k) := hb
  clear ha hb
  go_enter Try.func9, Try.ntmps9
  go_wp2
  go_loopw [5] (fun i W' => ∃ k : Nat, k ≤ ks.length ∧ i = .int .i64 (k : Nat) ∧ ∃ n, W' = w.drewN n) (fun i _ => ks.length - (intOf i).toNat)
  case atStart => exact ⟨0, Nat.zero_le _, rfl, 0, rfl⟩
  case round =>
    obtain ⟨k, hk, rfl, n, rfl⟩ := hrel
    by_cases h0 : k = ks.length
    · subst h0
      have B : Hid (Below w.heap.size w (w.drewN n)) := ⟨rfl, rfl, rfl, Nat.le_refl _, fun _ _ => rfl⟩
      go_wp2
      go_ret
      exact ⟨rfl, B⟩
    · have hlt : k < ks.length := by omega
      have hlti : ((k : Nat) : Int) < (ks.length : Nat) := by omega
      obtain ⟨o, ho⟩ : ∃ o, ks[k]? = some o := ⟨_, List.getElem?_eq_getElem hlt⟩
      have hne : ks ≠ [] := by rintro rfl; simp at hlt
      obtain ⟨x, rfl, hx, hxc⟩ := Ha.out hne
      obtain ⟨y, rfl, hy, hyc⟩ := Hb.out hne
      have cx := hxc k o ho
      have cy := hyc k o ho
      obtain ⟨q0, q1, q2⟩ := cx
      obtain ⟨r0, r1, r2⟩ := cy
      clear hxc hyc hne ho
      go_wp2
      go_quiet (fail)
      go_wp2
      go_round
      case rel => exact ⟨k + 1, by omega, by go_num, n + nq, rfl⟩
      case measure => simp [intOf]; omega
end Go.Proofs.Ytifijfaefpdmpaa

namespace Go.Proofs.Ytifijfaefpdmpaa
open Go.RowKit
set_option linter.unusedVariables false

theorem Ob.by_ {w : World} {base : Nat} {v : Value} {l : List UInt8} (h : Ob w base v l) : By w v l := by
  rcases h.2 with ⟨hv, h0⟩ | ⟨g, cap, cur, hv, hb, hg, h1, h2, h3, h4⟩
  · exact ⟨none, 0, by rw [hv, h0], by omega, by omega, fun hn => absurd (List.length_eq_zero_iff.1 h0) hn⟩
  · refine ⟨_, cap, hv, h1, h2, fun hn => ⟨_, rfl, lt_of_block hg, fun i d hd => ?_⟩⟩
    have hi : i < l.length := (List.getElem?_eq_some_iff.1 hd).1
    rw [Addr.add_lit, Nat.zero_add]
    have h5 : w.ownsRow base 5 1 (.slice (some ⟨g, 0, none⟩) l.length cap) l.length (byteCells l) := by rw [← hv]; exact h
    rw [h5.cellAt i (by omega), byteCells, List.getElem?_map, hd]
    rfl
theorem By.take {w : World} {ad : Option Addr} {n c k : Nat} {l : List UInt8} (h : By w (.slice ad n c) l) (hk : k ≤ l.length) : By w (.slice ad k c) (l.take k) := by
  obtain ⟨a, c', e, h1, h2, h3⟩ := h
  injection e with e1 e2 e3
  subst e1 e3
  have hl : (l.take k).length = k := by rw [List.length_take]; omega
  refine ⟨ad, c, by rw [hl], by omega, h2, fun hn => ?_⟩
  obtain ⟨x, e, hx, hc⟩ := h3 (by intro h; subst h; simp at hn)
  refine ⟨x, e, hx, fun i d hd => hc i d ?_⟩
  rw [List.getElem?_take] at hd
  split at hd
  · exact hd
  · cases hd
set_option maxRecDepth 100000 in
theorem By.conv {w : World} {ad : Option Addr} {n c : Nat} {l : List UInt8} (h : By w (.slice ad n c) l) : (convert 22 9 (.slice ad n c)).run Try.prog w = .ok (.string ⟨l.toArray⟩) w := by
  obtain ⟨a, c', e, h1, h2, h3⟩ := h
  injection e with e1 e2 e3
  subst e1 e2 e3
  by_cases hn : l = []
  · subst hn
    cases ad with
    | none => rw [show ([] : List UInt8).length = 0 from rfl, run_convert_bytes_string w 22 9 5 none 0 c Try.underlying22 Try.underlying5 Try.underlying9]; rfl
    | some a => exact run_convert_bytes_back (P := Try.prog) w 22 9 5 a c [] Try.underlying22 Try.underlying5 Try.underlying9 (fun j hj => by simp at hj)
  · obtain ⟨x, rfl, hx, hc⟩ := h3 hn
    exact run_convert_bytes_back (P := Try.prog) w 22 9 5 x c l Try.underlying22 Try.underlying5 Try.underlying9 (fun j hj => hc j _ (List.getElem?_eq_getElem hj))
theorem app_bytes {ops : Array Oper} {rest : List Oper} {o : Oper} {a : Act} {Q : Exit → Act → World → Prop} (w : World) (hgd : o.guard = none) (s x : Operand)
    (ho : o.op = .call { callee := .builtin .append, args := #[s, x], argTypes := #[22, 22] }) (base : Nat) (v : Value) (xs : List UInt8) (hs : a.eval s = v) (hown : Ob w base v xs)
    (u : Value) (ys : List UInt8) (hx : a.eval x = u) (hu : By w u ys) (hl : xs.length + ys.length ≤ 1000000000) (hbase : base ≤ w.heap.size)
    (h : ∀ v' w', Ob w' base v' (xs ++ ys) → w.grownBy w' v.ownBlock → wpList Try.prog ops Q rest (a.put o.dst v') w') :
    wpList Try.prog ops Q (o :: rest) a w := by
  obtain ⟨i0, hi, hz0, hz1, hz2⟩ := info_parts info_byte
  obtain ⟨ad, c, rfl, h1, h2, h3⟩ := hu
  by_cases hn : ys = []
  · subst hn
    refine wpList_plain hgd fun K hK => ?_
    have hrun := run_append_no (P := Try.prog) (w := w) base 22 o.type 5 i0 1 Try.underlying22 hi v xs.length _ hown ad c
    have hx' : a.eval x = .slice ad 0 c := hx
    unfold Oper.wp
    simp [execOp, ho, resolve, invoke, builtin, hs, hx', hrun, Result.andThen]
    exact hK _ _ (h v w (by simpa using hown) (World.grownBy.refl _ _))
  · obtain ⟨y, rfl, hy, hc⟩ := h3 hn
    refine wpList_append_own w hgd s x 22 ho base 5 i0 (.int .u8 0) 1 1 Try.underlying22 hi hz0 hz1 hz2 rfl (by decide) v xs.length _ hs hown y ys.length c (byteCells ys) hx (by simp [byteCells]) ?_ ?_ (by unfold maxLen; omega) (by omega) hbase ?_
    · intro j u hj
      rw [byteCells, List.getElem?_map] at hj
      cases hd : ys[j]? with
      | none => rw [hd] at hj; cases hj
      | some d => rw [hd] at hj; cases hj; exact hc j d hd
    · intro u hu
      simp only [byteCells, List.mem_map] at hu
      obtain ⟨b, -, rfl⟩ := hu
      rfl
    · intro v' w' k1 k2 _
      refine h v' w' ?_ k2
      unfold Ob
      rw [List.length_append, byteCells, List.map_append]
      exact k1
end Go.Proofs.Ytifijfaefpdmpaa

namespace Go.Proofs.Ytifijfaefpdmpaa
open Go.ChangeShapes Go.WideShapes Go.ChangeAt Go.RowKit
set_option linter.unusedVariables false

theorem byte_of_wf {n : Int} (h : (Lit.int .u8 n).wf = true) : 0 ≤ n ∧ n < 256 := by
  simp only [Lit.wf, Bool.and_eq_true, decide_eq_true_eq] at h
  have h1 : IntKind.u8.min = 0 := by decide
  have h2 : IntKind.u8.max = 255 := by decide
  omega
theorem bulk_pos {H : Type} : ∀ d : DataW H, 1 ≤ Rows.uptoBulk d
  | .lit (.string bytes) => by simp [Rows.uptoBulk]
  | .lit (.int _ _) => by simp [Rows.uptoBulk]
  | .lit (.bool _) => by simp [Rows.uptoBulk]
  | .lit (.float .f32 _) => by simp [Rows.uptoBulk]
  | .lit (.float .f64 _) => by simp [Rows.uptoBulk]
  | .lit .nil => by simp [Rows.uptoBulk]
  | .nil => by simp [Rows.uptoBulk]
  | .ptr d => by simp [Rows.uptoBulk]
  | .slice _ _ => by simp [Rows.uptoBulk]
  | .agg _ => by simp [Rows.uptoBulk]
  | .iface _ _ => by simp [Rows.uptoBulk]
  | .map _ => by simp [Rows.uptoBulk]
  | .held _ => by simp [Rows.uptoBulk]
theorem bulk_len {H : Type} : ∀ ds : List (DataW H), ds.length ≤ Rows.uptoBulkAll ds
  | [] => by simp
  | d :: ds => by
    have h1 := bulk_pos d
    have h2 := bulk_len ds
    simp only [Rows.uptoBulkAll, List.length_cons]
    omega
theorem bulk_slice {H : Type} (es sp : List (DataW H)) : es.length ≤ Rows.uptoBulk (.slice es sp) := by
  have := bulk_len es
  simp only [Rows.uptoBulk]
  omega
end Go.Proofs.Ytifijfaefpdmpaa

namespace Go.Proofs.Ytifijfaefpdmpaa
open Go.ChangeShapes Go.WideShapes Go.ChangeAt Go.RowKit
set_option linter.unusedVariables false

set_option maxRecDepth 100000 in
theorem open_bytes {H : Type} {enc : TypeId × Value → H} {W : World} {base : Nat} {held : Bool} {fuel : Nat} {v : Value} {y : DataW H × List MemPlace} (h : DataW.trod enc Try.prog W base (fun _ => true) held fuel 22 [v] = some y) :
    ∃ l, By W v l ∧ l.length ≤ Rows.uptoBulk y.1 := by
  rcases open_ints Try.underlying22 Try.underlying5 (by kernel_rfl) h with ⟨hcs, rfl⟩ | ⟨x, l, c, zs, hcs, _, hl, hm, hz, rfl, hcell, hwz⟩
  · simp at hcs
    subst hcs
    exact ⟨[], ⟨none, 0, rfl, Nat.le_refl _, by omega, fun h => absurd rfl h⟩, by simp⟩
  · simp at hcs
    subst hcs
    simp only [if_true] at hz
    have hlen : ((zs.take l).map fun n => UInt8.ofNat n.toNat).length = l := by rw [List.length_map, List.length_take]; omega
    refine ⟨(zs.take l).map fun n => UInt8.ofNat n.toNat, ⟨some x, c, by rw [hlen], by omega, by omega, fun hn => ⟨x, rfl, ?_, fun i d hd => ?_⟩⟩, ?_⟩
    · have h0 : 0 < zs.length := by
        rcases Nat.eq_zero_or_pos zs.length with h | h
        · exact absurd (by rw [List.length_eq_zero_iff.1 h]; simp) hn
        · exact h
      have := cell_lt (x := x.add 0) (hcell 0 h0)
      rwa [add_block] at this
    · rw [List.getElem?_map, List.getElem?_take] at hd
      split at hd
      · rename_i hil
        have hi : i < zs.length := by omega
        rw [List.getElem?_eq_getElem hi] at hd
        simp only [Option.map_some, Option.some.injEq] at hd
        have hb := byte_of_wf (hwz zs[i] (List.getElem_mem hi))
        rw [hcell i hi, List.getD_eq_getElem?_getD, List.getElem?_eq_getElem hi, ← hd, UInt8.toNat_ofNat']
        simp only [Option.getD_some]
        congr 2
        omega
      · simp at hd
    · have := bulk_slice (H := H) (lits .u8 (zs.take l)) (lits .u8 (zs.drop l))
      rw [List.length_map]
      simpa [lits] using this
set_option maxRecDepth 100000 in
theorem bytes_in {H : Type} {enc : TypeId × Value → H} {W : World} {base b0 : Nat} {held : Bool} {v : Value} {d : DataW H} {p : List MemPlace} (hv : Value.okWide Try.prog W .any b0 22 v) (h : DataW.Trod enc Try.prog W base (fun _ => true) held 22 v d p) :
    ∃ l, By W v l ∧ l.length ≤ Rows.uptoBulk d := by
  obtain ⟨a, len, cap, rfl⟩ := okWide_slice Try.underlying22 hv
  obtain ⟨fuel, hf⟩ := h
  exact open_bytes hf
end Go.Proofs.Ytifijfaefpdmpaa

