/- The reference: numbers behind bytes. -/
import Derived.Test.YthccneiafofakaaDoorPaB
import Derived.Test.YthccneiafofakaaDoorWbA
namespace Go.Proofs.YthccneiafofakaaDoor
open Go.RowKit
set_option linter.unusedVariables false

/-- what stays where the list v grows to u. -/
structure Gb (w : World) (v : Value) (w' : World) (u : Value) : Prop where
  g : w.grownBy w' v.ownBlock
  o : u.ownBlock = v.ownBlock ∨ ∃ k, u.ownBlock = some k ∧ w.heap.size ≤ k
theorem Gb.refl (w : World) (v : Value) : Gb w v w v := ⟨World.grownBy.refl _ _, .inl rfl⟩
theorem Gb.trans {w w1 w2 : World} {v u t : Value} (h : Gb w v w1 u) (k : Gb w1 u w2 t) : Gb w v w2 t := by
  refine ⟨⟨k.g.os.trans h.g.os, k.g.tape.trans h.g.tape, k.g.output.trans h.g.output, Nat.le_trans h.g.size k.g.size, fun i hi hne => ?_⟩, ?_⟩
  · refine (k.g.block i (Nat.lt_of_lt_of_le hi h.g.size) ?_).trans (h.g.block i hi hne)
    rcases h.o with e | ⟨b, e, hb⟩
    · rw [e]; exact hne
    · rw [e]; intro h; injection h with h; omega
  · rcases k.o with e | ⟨b, e, hb⟩
    · rcases h.o with e' | ⟨b, e', hb⟩
      · exact .inl (e.trans e')
      · exact .inr ⟨b, e.trans e', hb⟩
    · exact .inr ⟨b, e, Nat.le_trans h.g.size hb⟩
theorem Gb.below {w w' : World} {v u : Value} {B : Nat} (h : Gb w v w' u) (hB : B ≤ w.heap.size) (hr : ∀ b, v.ownBlock = some b → B ≤ b) : Below B w w' := (Below.refl _ _).grown h.g hB hr
theorem Gb.alloc {w w' : World} {v u : Value} {o : Obj} (h : Gb (w.alloc o) v w' u) : Gb w v w' u := by
  refine ⟨⟨h.g.os, h.g.tape, h.g.output, ?_, fun i hi hne => ?_⟩, ?_⟩
  · have := h.g.size; simp at this; omega
  · rw [h.g.block i (by simp; omega) hne]
    exact heap_alloc_old w o hi
  · rcases h.o with e | ⟨b, e, hb⟩
    · exact .inl e
    · simp at hb
      exact .inr ⟨b, e, by omega⟩
theorem app_byte2 {ops : Array Oper} {rest : List Oper} {o : Oper} {a : Act} {Q : Exit → Act → World → Prop} (w : World) (hgd : o.guard = none) (s x : Operand)
    (ho : o.op = .call { callee := .builtin .append, args := #[s, x], argTypes := #[66, 66] }) (base : Nat) (v : Value) (l : List UInt8) (hs : a.eval s = v) (hown : Ob w base v l)
    (ad : Addr) (b : UInt8) (hx : a.eval x = .slice (some ad) 1 1) (hd : w.cell? ad = some (.int .u8 (b.toNat : Nat))) (hl : l.length ≤ 2000000000) (hbase : base ≤ w.heap.size)
    (h : ∀ v' w', Ob w' base v' (l ++ [b]) → Gb w v w' v' → wpList Tryd.prog ops Q rest (a.put o.dst v') w') :
    wpList Tryd.prog ops Q (o :: rest) a w := by
  obtain ⟨i0, hi, hz0, hz1, hz2⟩ := info_parts info_byte
  refine wpList_append_lies w hgd s x 66 ho base 5 i0 (.int .u8 0) 1 1 Tryd.underlying66 hi hz0 hz1 hz2 rfl (by decide) v l.length _ hs hown ad 1 1 [.int .u8 (b.toNat : Nat)] hx rfl ?_ ?_ (by decide) (by unfold maxLen; omega) (by omega) hbase _ rfl ?_
  · intro j u hj
    match j, hj with
    | 0, hj => simp at hj; subst hj; exact hd
  · intro u hu
    simp at hu
    subst hu
    rfl
  · intro g cap w' h1 h2 h3 h4
    refine h _ w' ?_ ⟨h2, ?_⟩
    · unfold Ob
      rw [List.length_append, byteCells_snoc]
      exact h1
    · rcases h3 with h3 | h3
      · exact .inl (by rw [h3]; rfl)
      · exact .inr ⟨g, rfl, by omega⟩
set_option maxRecDepth 100000 in
set_option maxHeartbeats 4000000 in
theorem rnumb_any (base : Nat) (v : Value) (l : List UInt8) (n : Int) (w : World) (h : Ob w base v l) (hb : base ≤ w.heap.size) (hl : l.length ≤ 1000000000) (hi : Wd.In64 n) :
    Calls Tryd.prog 62 #[v, .int .i64 n] w fun e w' => ∃ u, e = .returned u ∧ Ob w' base u (l ++ Wd.num n) ∧ Gb w v w' u := by
  have O : Hid (Ob w base v l) := h
  have LL : Hid (l.length ≤ 1000000000 ∧ base ≤ w.heap.size) := ⟨hl, hb⟩
  obtain ⟨x, hx⟩ : ∃ x, Wd.zz n = x := ⟨_, rfl⟩
  have HX : Hid (Wd.num n = Wd.vl x ∧ x < 18446744073709551616) := ⟨by unfold Wd.num; rw [hx], by rw [← hx]; exact Wd.zz_lt hi⟩
  unfold Wd.In64 at hi
  have START : ∃ p : Nat, IntKind.u64.wrap n = (p : Nat) ∧ ∃ q : Nat, (p : Int) * 2 = (q : Nat) ∧ ∃ r : Nat, IntKind.u64.wrap (q : Nat) = (r : Nat) ∧ (0 ≤ n → r = x) := by
    refine ⟨(IntKind.u64.wrap n).toNat, ?_, _, rfl, ?_⟩
    · rw [IntKind.wrap_u64]; omega
    · refine ⟨(IntKind.u64.wrap (((IntKind.u64.wrap n).toNat * 2 : Nat) : Int)).toNat, ?_, ?_⟩
      · rw [IntKind.wrap_u64]; omega
      · intro h0
        rw [← hx]
        unfold Wd.zz
        rw [if_neg (by omega), IntKind.wrap_u64, IntKind.wrap_u64]
        omega
  obtain ⟨p, ep, q, eq, r, er, hr⟩ := START
  have LOOP : Hid True := trivial
  clear h hl hb
  by_cases h0 : n < 0
  · obtain ⟨m, hm⟩ : ∃ m : Nat, -(n + 1) = (m : Nat) := ⟨(-(n + 1)).toNat, by omega⟩
    obtain ⟨m1, hm1⟩ : ∃ m1 : Int, n + 1 = m1 := ⟨_, rfl⟩
    rw [hm1] at hm
    have wm1 : IntKind.i64.wrap m1 = m1 := by rw [IntKind.wrap_i64]; omega
    have wm : IntKind.i64.wrap (m : Int) = (m : Int) := by rw [IntKind.wrap_i64]; omega
    obtain ⟨m2, hm2⟩ : ∃ m2, m * 2 = m2 := ⟨_, rfl⟩
    have em2 : (m : Int) * 2 = (m2 : Nat) := by omega
    have wm2 : IntKind.u64.wrap ((m2 : Nat) : Int) = (m2 : Nat) := by rw [IntKind.wrap_u64]; omega
    have wmu : IntKind.u64.wrap ((m : Nat) : Int) = (m : Nat) := by rw [IntKind.wrap_u64]; omega
    have ex : ((m2 : Nat) : Int) + 1 = (x : Nat) := by
      rw [← hx]; unfold Wd.zz; rw [if_pos h0]; omega
    have wx : IntKind.u64.wrap ((x : Nat) : Int) = (x : Nat) := by rw [IntKind.wrap_u64]; have := HX.out.2; omega
    clear hx hr hi
    go_enter Tryd.func62, Tryd.ntmps62
    go_wp2
    go_loopw [0, 5] (fun bv xv W => ∃ (y : Nat) (D : List UInt8), xv = .int .u64 (y : Nat) ∧ y < 18446744073709551616 ∧ D ++ Wd.vl y = Wd.vl x ∧ Ob W base bv (l ++ D) ∧ Gb w v W bv) (fun _ xv _ => (intOf xv).toNat)
    case atStart => exact ⟨x, [], rfl, HX.out.2, rfl, by rw [List.append_nil]; exact O.out, Gb.refl _ _⟩
    case round =>
      obtain ⟨y, D, rfl, hy, hv, ho, hg⟩ := hrel
      have O2 : Hid (Ob wr base u0 (l ++ D)) := ho
      have G2 : Hid (Gb w v wr u0) := hg
      have HV : Hid (D ++ Wd.vl y = Wd.vl x) := hv
      have DL : Hid ((l ++ D).length ≤ 1000000010) := by
        unfold Hid
        have h1 := vl_len HX.out.2
        have h2 := congrArg List.length hv
        have h3 := LL.out.1
        rw [List.length_append] at h2 ⊢
        omega
      have BS : Hid (base ≤ wr.heap.size) := Nat.le_trans LL.out.2 hg.g.size
      clear ho hg hv
      obtain ⟨L, hL⟩ : ∃ L, l ++ D = L := ⟨_, rfl⟩
      have HL : Hid (l ++ D = L) := hL
      rw [hL] at O2 DL
      clear hL
      by_cases h128 : 128 ≤ y
      · obtain ⟨m9, hm9⟩ : ∃ m, y % 128 = m := ⟨_, rfl⟩
        obtain ⟨d, hd⟩ : ∃ d, y / 128 = d := ⟨_, rfl⟩
        have hmi : (y : Int) % 128 = m9 := by omega
        have hdi : (y : Int) / 128 = d := by omega
        have m1' : m9 < 128 := by omega
        have hgi : (127 : Int) < (y : Int) := by omega
        obtain ⟨c, hc⟩ : ∃ c, UInt8.ofNat (m9 + 128) = c := ⟨_, rfl⟩
        have em : c.toNat = m9 + 128 := by rw [← hc, UInt8.toNat_ofNat']; omega
        have HE : Hid (Wd.vl y = c :: Wd.vl d) := by unfold Hid; rw [Wd.vl_great h128, hm9, hd, hc]
        have hdl : Hid (d < y) := by unfold Hid; omega
        clear hm9 hd h128 hc
        go_wp2_with (at_builtin; refine app_byte2 _ rfl _ _ rfl base _ L rfl (O2.out.alloc _) ⟨wr.heap.size, 0, none⟩ c rfl (by rw [em]; simp) (by have := DL.out; omega) (by have := BS.out; simp; omega) ?_)
        intro v5 w5 o5 g5
        have O5 : Hid (Ob w5 base v5 (l ++ (D ++ [c]))) := by unfold Hid; rw [← List.append_assoc, HL.out]; exact o5
        have G5 : Hid (Gb w v w5 v5) := G2.out.trans g5.alloc
        clear o5 g5
        go_wp2
        go_roundw
        case rel =>
          refine ⟨d, D ++ [c], rfl, by have := hdl.out; omega, ?_, O5.out, G5.out⟩
          rw [List.append_assoc, ← HV.out, HE.out]
          rfl
        case measure => have := hdl.out; simp [intOf]; omega
      · have hgi : ¬ (127 : Int) < (y : Int) := by omega
        obtain ⟨c, hc⟩ : ∃ c, UInt8.ofNat y = c := ⟨_, rfl⟩
        have em : c.toNat = y := by rw [← hc, UInt8.toNat_ofNat']; omega
        have wy : IntKind.u8.wrap (y : Int) = (y : Int) := by rw [IntKind.wrap_u8]; omega
        have HE : Hid (D ++ [c] = Wd.num n) := by unfold Hid; rw [HX.out.1, ← HV.out, Wd.vl_small (by omega), hc]
        clear h128 hc
        go_wp2_with (at_builtin; refine app_byte2 _ rfl _ _ rfl base _ L rfl (O2.out.alloc _) ⟨wr.heap.size, 0, none⟩ c rfl (by rw [em]; simp) (by have := DL.out; omega) (by have := BS.out; simp; omega) ?_)
        intro v5 w5 o5 g5
        have O5 : Hid (Ob w5 base v5 (l ++ Wd.num n)) := by unfold Hid; rw [← HE.out, ← List.append_assoc, HL.out]; exact o5
        have G5 : Hid (Gb w v w5 v5) := G2.out.trans g5.alloc
        clear o5 g5
        go_wp2
        go_ret
        exact ⟨_, rfl, O5.out, G5.out⟩
  · have hrx := hr (by omega)
    subst hrx
    clear hx hr hi
    go_enter Tryd.func62, Tryd.ntmps62
    go_wp2
    go_loopw [0, 5] (fun bv xv W => ∃ (y : Nat) (D : List UInt8), xv = .int .u64 (y : Nat) ∧ y < 18446744073709551616 ∧ D ++ Wd.vl y = Wd.vl r ∧ Ob W base bv (l ++ D) ∧ Gb w v W bv) (fun _ xv _ => (intOf xv).toNat)
    case atStart => exact ⟨r, [], rfl, HX.out.2, rfl, by rw [List.append_nil]; exact O.out, Gb.refl _ _⟩
    case round =>
      obtain ⟨y, D, rfl, hy, hv, ho, hg⟩ := hrel
      have O2 : Hid (Ob wr base u0 (l ++ D)) := ho
      have G2 : Hid (Gb w v wr u0) := hg
      have HV : Hid (D ++ Wd.vl y = Wd.vl r) := hv
      have DL : Hid ((l ++ D).length ≤ 1000000010) := by
        unfold Hid
        have h1 := vl_len HX.out.2
        have h2 := congrArg List.length hv
        have h3 := LL.out.1
        rw [List.length_append] at h2 ⊢
        omega
      have BS : Hid (base ≤ wr.heap.size) := Nat.le_trans LL.out.2 hg.g.size
      clear ho hg hv
      obtain ⟨L, hL⟩ : ∃ L, l ++ D = L := ⟨_, rfl⟩
      have HL : Hid (l ++ D = L) := hL
      rw [hL] at O2 DL
      clear hL
      by_cases h128 : 128 ≤ y
      · obtain ⟨m9, hm9⟩ : ∃ m, y % 128 = m := ⟨_, rfl⟩
        obtain ⟨d, hd⟩ : ∃ d, y / 128 = d := ⟨_, rfl⟩
        have hmi : (y : Int) % 128 = m9 := by omega
        have hdi : (y : Int) / 128 = d := by omega
        have m1' : m9 < 128 := by omega
        have hgi : (127 : Int) < (y : Int) := by omega
        obtain ⟨c, hc⟩ : ∃ c, UInt8.ofNat (m9 + 128) = c := ⟨_, rfl⟩
        have em : c.toNat = m9 + 128 := by rw [← hc, UInt8.toNat_ofNat']; omega
        have HE : Hid (Wd.vl y = c :: Wd.vl d) := by unfold Hid; rw [Wd.vl_great h128, hm9, hd, hc]
        have hdl : Hid (d < y) := by unfold Hid; omega
        clear hm9 hd h128 hc
        go_wp2_with (at_builtin; refine app_byte2 _ rfl _ _ rfl base _ L rfl (O2.out.alloc _) ⟨wr.heap.size, 0, none⟩ c rfl (by rw [em]; simp) (by have := DL.out; omega) (by have := BS.out; simp; omega) ?_)
        intro v5 w5 o5 g5
        have O5 : Hid (Ob w5 base v5 (l ++ (D ++ [c]))) := by unfold Hid; rw [← List.append_assoc, HL.out]; exact o5
        have G5 : Hid (Gb w v w5 v5) := G2.out.trans g5.alloc
        clear o5 g5
        go_wp2
        go_roundw
        case rel =>
          refine ⟨d, D ++ [c], rfl, by have := hdl.out; omega, ?_, O5.out, G5.out⟩
          rw [List.append_assoc, ← HV.out, HE.out]
          rfl
        case measure => have := hdl.out; simp [intOf]; omega
      · have hgi : ¬ (127 : Int) < (y : Int) := by omega
        obtain ⟨c, hc⟩ : ∃ c, UInt8.ofNat y = c := ⟨_, rfl⟩
        have em : c.toNat = y := by rw [← hc, UInt8.toNat_ofNat']; omega
        have wy : IntKind.u8.wrap (y : Int) = (y : Int) := by rw [IntKind.wrap_u8]; omega
        have HE : Hid (D ++ [c] = Wd.num n) := by unfold Hid; rw [HX.out.1, ← HV.out, Wd.vl_small (by omega), hc]
        clear h128 hc
        go_wp2_with (at_builtin; refine app_byte2 _ rfl _ _ rfl base _ L rfl (O2.out.alloc _) ⟨wr.heap.size, 0, none⟩ c rfl (by rw [em]; simp) (by have := DL.out; omega) (by have := BS.out; simp; omega) ?_)
        intro v5 w5 o5 g5
        have O5 : Hid (Ob w5 base v5 (l ++ Wd.num n)) := by unfold Hid; rw [← HE.out, ← List.append_assoc, HL.out]; exact o5
        have G5 : Hid (Gb w v w5 v5) := G2.out.trans g5.alloc
        clear o5 g5
        go_wp2
        go_ret
        exact ⟨_, rfl, O5.out, G5.out⟩
end Go.Proofs.YthccneiafofakaaDoor
