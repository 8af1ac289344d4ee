/- The program's kinds: Print. -/
import Derived.Test.YtkceccajamdbjaaDoorPkB
import Derived.Test.YtkceccajamdbjaaDoorKnR

namespace Go.Proofs.YtkceccajamdbjaaDoor
open Go.RowKit
set_option linter.unusedVariables false

theorem kinds_small {ks : List KV} (h : Kd.kindsFault (ks.map KV.k) = 0) : ∀ k ∈ ks, k.b.size ≤ 8 ∧ ∀ x ∈ k.ns, 0 ≤ x ∧ x ≤ 1000 := by
  unfold Kd.kindsFault at h
  split at h
  · omega
  · intro k hk
    have hm : k.k ∈ ks.map KV.k := List.mem_map.2 ⟨k, hk, rfl⟩
    have h1 := (Kd.kindsGo_all h (fun k hk => by obtain ⟨x, _, rfl⟩ := List.mem_map.1 hk; rfl) k.k hm).2
    have h2 := kgo_nums h k.k hm
    refine ⟨?_, fun x hx => ?_⟩
    · unfold Kd.nameOk at h1
      simp only [Bool.and_eq_true, decide_eq_true_eq] at h1
      exact h1.2.1
    · unfold Kd.numsFault at h2
      split at h2
      · omega
      · rename_i h3
        rw [Bool.not_eq_true, List.any_eq_false] at h3
        have := h3 x hx
        simp only [decide_eq_true_eq] at this
        omega
theorem prt_next {ks : List KV} {n : Nat} {k : KV} (h : ks[n]? = some k) : Kd.prt ((ks.take (n + 1)).map KV.k) = Kd.prt ((ks.take n).map KV.k) ++ (Kd.kline k.k ++ [10]) := by
  obtain ⟨hi, e⟩ := List.getElem?_eq_some_iff.1 h
  unfold Kd.prt
  rw [List.take_succ_eq_append_getElem hi, List.map_append, List.flatMap_append, e]
  simp
theorem prt_len {ks : List KV} (hk : ∀ k ∈ ks, k.b.size ≤ 8 ∧ ∀ x ∈ k.ns, 0 ≤ x ∧ x ≤ 1000) : ∀ n, n ≤ ks.length → (Kd.prt ((ks.take n).map KV.k)).length ≤ 101 * n
  | 0, _ => by simp [Kd.prt]
  | n + 1, h => by
    obtain ⟨k, e⟩ : ∃ k, ks[n]? = some k := ⟨_, List.getElem?_eq_getElem (by omega)⟩
    have ih := prt_len hk n (by omega)
    have h1 := hk k (List.mem_of_getElem? e)
    have h2 := kline_len h1.1 h1.2
    rw [prt_next e]
    simp only [List.length_append, List.length_cons, List.length_nil]
    omega
theorem bld_below {T e : TypeId} {B b : Nat} {p : Value} {bs : List Value} {w w' : World} (h : Lib.BuilderAt T e B b p bs w) (hb : Below w.heap.size w w') : Lib.BuilderAt T e B b p bs w' := by
  obtain ⟨h1, v, h2, h3, h4⟩ := h
  refine ⟨h1, v, ?_, World.ownsRow.kept h3 (row := none) ⟨hb.os, hb.tape, hb.output, hb.size, fun k hk _ => hb.block k hk⟩ (by cases v.ownBlock <;> simp), h4⟩
  rw [hb.block b (lt_of_block h2)]
  exact h2
theorem isb_below {T e : TypeId} {B b : Nat} {bs : List Value} {w w' : World} (h : Lib.IsBuilder T e B b bs w) (hb : Below w.heap.size w w') : Lib.IsBuilder T e B b bs w' := by
  rcases h with h | h
  · exact .inl (bld_below h hb)
  · exact .inr (bld_below h hb)
theorem wstr_any (B b : Nat) (l : List UInt8) (s : ByteArray) (w : World) (h : Lib.IsBuilder 62 5 B b (Lib.byteCells l) w) (hlen : l.length + s.size ≤ 1000000) (hB : B ≤ w.heap.size) :
    Calls Tryd.prog 24 #[.pointer (some ⟨b, 0, none⟩), .string s] w fun e w' => e = .returned (.tuple #[.int .i64 s.size, .nilIface]) ∧ Lib.IsBuilder 62 5 B b (Lib.byteCells (l ++ s.data.toList)) w' ∧ Below B w w' := by
  refine (Any.Builder_WriteString { Tryd.lays156 with } Tryd.Builder_Extra_156 B b (Lib.byteCells l) s w h (by simp [Lib.byteCells]; omega) hB).mono ?_
  rintro e w' ⟨rfl, h1, h2⟩
  refine ⟨rfl, .inr ?_, h2⟩
  have : Lib.byteCells (l ++ s.data.toList) = Lib.byteCells l ++ Lib.strCells s := by simp [Lib.byteCells, Lib.strCells]
  rw [this]
  exact h1

set_option maxRecDepth 100000 in
set_option maxHeartbeats 4000000 in
theorem kprint_any (v : Value) (ks : List KV) (w : World) (h : Kl w v ks) (hb : ∀ k ∈ ks, k.b.size ≤ 9223372036854775807) (hw : Pw w) :
    Calls Tryd.prog 8 #[v] w fun e w' => ∃ (s : ByteArray) (u : Value), e = .returned (.tuple #[.string s, u]) ∧ Below w.heap.size w w' ∧
      ((Kd.kindsFault (ks.map KV.k) ≠ 0 ∧ s = ⟨#[]⟩ ∧ Er u (Kd.kindsFault (ks.map KV.k))) ∨
       (Kd.kindsFault (ks.map KV.k) = 0 ∧ s = bytesOf (Kd.prt (ks.map KV.k)) ∧ Er u 0)) := by
  have K0 : Hid (Kl w v ks) := h
  have P0 : Hid (Pw w) := hw
  have CA : Hid (Calls Tryd.prog 23 #[v] w fun e w' => ∃ u, e = .returned u ∧ Er u (Kd.kindsFault (ks.map KV.k)) ∧ Below w.heap.size w w') := kcheck_any v ks w h hb
  have KS : Hid (Kd.kindsFault (ks.map KV.k) = 0 → ks.length ≤ 8 ∧ ∀ k ∈ ks, k.b.size ≤ 8 ∧ ∀ x ∈ k.ns, 0 ≤ x ∧ x ≤ 1000) := fun h => ⟨(kinds_right h).1, kinds_small h⟩
  generalize Kd.kindsFault (ks.map KV.k) = R at *
  clear hb hw
  obtain ⟨a, c, rfl, c1, c2, -⟩ := h
  go_enter Tryd.func8, Tryd.ntmps8
  go_wp2_with fail
  refine CA.out.mono ?_
  rintro e w1 ⟨u, rfl, hu, b1⟩
  have B1 : Hid (Below w.heap.size w w1) := b1
  clear CA b1
  rcases hu with ⟨h0, rfl⟩ | ⟨h0, rfl⟩
  · have H0 : Hid (R = 0) := h0
    have KS' : Hid (ks.length ≤ 8 ∧ ∀ k ∈ ks, k.b.size ≤ 8 ∧ ∀ x ∈ k.ns, 0 ≤ x ∧ x ≤ 1000) := KS.out h0
    have h8 := KS'.out.1
    have PL : Hid (∀ n, n ≤ ks.length → (Kd.prt ((ks.take n).map KV.k)).length ≤ 101 * n) := prt_len KS'.out.2
    clear h0 KS
    have I1 : Hid (Lib.IsBuilder 62 5 w1.heap.size w1.heap.size (Lib.byteCells (Kd.prt ((ks.take 0).map KV.k))) (w1.alloc (.cells #[.pointer none, .slice none 0 0] 62))) := Lib.fresh_isBuilder _ _ w1
    have B2 : Hid (Below w1.heap.size w1 (w1.alloc (.cells #[.pointer none, .slice none 0 0] 62))) := (Below.refl _ _).alloc (Nat.le_refl _) _
    go_wp2_with fail
    go_loopw [15] (fun j W' => ∃ n : Nat, n ≤ ks.length ∧ j = .int .i64 (n : Nat) ∧ Lib.IsBuilder 62 5 w1.heap.size w1.heap.size (Lib.byteCells (Kd.prt ((ks.take n).map KV.k))) W' ∧ Below w1.heap.size w1 W') (fun j _ => ks.length - (intOf j).toNat)
    case atStart => exact ⟨0, Nat.zero_le _, rfl, I1, B2⟩
    case round =>
      obtain ⟨n, hn, rfl, hi, hb⟩ := hrel
      have I : Hid (Lib.IsBuilder 62 5 w1.heap.size w1.heap.size (Lib.byteCells (Kd.prt ((ks.take n).map KV.k))) wr) := hi
      have Bb : Hid (Below w1.heap.size w1 wr) := hb
      have B : Hid (Below w.heap.size w wr) := B1.out.trans (hb.mono B1.out.size)
      clear hi hb
      by_cases hne : n = ks.length
      · subst hne
        have ST := Tryd.Builder_String_any w1.heap.size w1.heap.size _ wr I.out Bb.out.size
        rw [List.take_of_length_le (Nat.le_refl _)] at ST
        have ST' : Hid (Calls Tryd.prog 26 #[.pointer (some ⟨w1.heap.size, 0, none⟩)] wr fun e w' => e = .returned (.string (bytesOf (Kd.prt (ks.map KV.k)))) ∧ Below w1.heap.size wr w') := ST
        clear ST
        go_wp2_with fail
        refine ST'.out.mono ?_
        rintro e w4 ⟨rfl, b4⟩
        have B4 : Hid (Below w.heap.size w w4) := B.out.trans (b4.mono B1.out.size)
        clear b4 ST'
        go_wp2
        go_ret2
        exact ⟨_, _, rfl, B4, .inr ⟨H0, rfl, Er.nil⟩⟩
      · have hnl : n < ks.length := by omega
        have hnl' : (n : Int) < (ks.length : Int) := by omega
        obtain ⟨k, hk⟩ : ∃ k, ks[n]? = some k := ⟨_, List.getElem?_eq_getElem hnl⟩
        have PN : Hid (Kd.prt ((ks.take (n + 1)).map KV.k) = Kd.prt ((ks.take n).map KV.k) ++ (Kd.kline k.k ++ [10])) := prt_next hk
        have kb := KS'.out.2 k (List.mem_of_getElem? hk)
        have WA : Hid (∀ W, Pw W → Calls Tryd.prog 25 #[k.val] W fun e w' => e = .returned (.string (bytesOf (Kd.kline k.k ++ [10]))) ∧ Below W.heap.size W w') := fun W hW => write_any k W hW kb.1 kb.2
        have LL : Hid ((Kd.prt ((ks.take n).map KV.k)).length + (bytesOf (Kd.kline k.k ++ [10])).size ≤ 1000000) := by
          have h1 := PL.out n hn
          have h2 := kline_len kb.1 kb.2
          have h3 : (bytesOf (Kd.kline k.k ++ [10])).size = (Kd.kline k.k).length + 1 := by show (Kd.kline k.k ++ [10]).length = _; simp
          unfold Hid
          omega
        have Kk := K0.out.below B.out
        obtain ⟨a', c', e, -, -, hkx⟩ := Kk
        injection e with e1 e2 e3
        subst e1 e3
        obtain ⟨xk, rfl, hxk1, hxk⟩ := hkx (by rintro rfl; simp at hnl)
        have KC := hxk n k hk
        clear hkx hxk hk e2 kb hxk1
        generalize Kd.kline k.k ++ [10] = kl at *
        obtain ⟨kb', n0, n1, n2, n3, n4, n5, n6, n7, kf, kt⟩ := k
        unfold KV.val at WA
        simp only at WA
        obtain ⟨k0, k1, k2, k3, k4, k5, k6, k7, k8, k9, k10⟩ := KC
        simp only at k0 k1 k2 k3 k4 k5 k6 k7 k8 k9 k10
        go_upto_region 8 with fail
        have b3 : Below wr.heap.size wr (wr.alloc (Obj.cells #[.string kb', .int .i64 n0, .int .i64 n1, .int .i64 n2, .int .i64 n3, .int .i64 n4, .int .i64 n5, .int .i64 n6, .int .i64 n7, .bool kf, .bool kt] 28)) := (Below.refl _ _).alloc (Nat.le_refl _) _
        have X3 := Kc.mk' (w := wr) ⟨kb', n0, n1, n2, n3, n4, n5, n6, n7, kf, kt⟩ rfl
        simp only at X3
        clear k0 k1 k2 k3 k4 k5 k6 k7 k8 k9 k10
        generalize wr.alloc (Obj.cells #[.string kb', .int .i64 n0, .int .i64 n1, .int .i64 n2, .int .i64 n3, .int .i64 n4, .int .i64 n5, .int .i64 n6, .int .i64 n7, .bool kf, .bool kt] 28) = w3 at *
        have B3 : Hid (Below w.heap.size w w3) := B.out.trans (b3.mono B.out.size)
        have Bb3 : Hid (Below w1.heap.size w1 w3) := Bb.out.trans (b3.mono Bb.out.size)
        have I3 : Hid (Lib.IsBuilder 62 5 w1.heap.size w1.heap.size (Lib.byteCells (Kd.prt ((ks.take n).map KV.k))) w3) := isb_below I.out b3
        obtain ⟨x0, x1, x2, x3, x4, x5, x6, x7, x8, x9, x10⟩ := X3
        simp only at x0 x1 x2 x3 x4 x5 x6 x7 x8 x9 x10
        clear b3
        go_wp2_with fail
        refine (WA.out _ (P0.out.below B3.out)).mono ?_
        rintro e w4 ⟨rfl, b4⟩
        have I4 : Hid (Lib.IsBuilder 62 5 w1.heap.size w1.heap.size (Lib.byteCells (Kd.prt ((ks.take n).map KV.k))) w4) := isb_below I3.out b4
        have Bb4 : Hid (Below w1.heap.size w1 w4) := Bb3.out.trans (b4.mono Bb3.out.size)
        clear b4 x0 x1 x2 x3 x4 x5 x6 x7 x8 x9 x10
        go_wp2_with fail
        refine (wstr_any _ _ _ _ _ I4.out LL.out Bb4.out.size).mono ?_
        rintro e w5 ⟨rfl, i5, b5⟩
        have I5 : Hid (Lib.IsBuilder 62 5 w1.heap.size w1.heap.size (Lib.byteCells (Kd.prt ((ks.take (n + 1)).map KV.k))) w5) := by
          unfold Hid
          rw [PN.out]
          exact i5
        have Bb5 : Hid (Below w1.heap.size w1 w5) := Bb4.out.trans b5
        clear b5 i5
        go_wp2
        go_round
        case rel => exact ⟨n + 1, by omega, by go_num, I5, Bb5⟩
        case measure => simp [intOf]; omega
  · have H0 : Hid (R ≠ 0) := h0
    clear h0
    go_wp2
    go_ret2
    exact ⟨_, _, rfl, B1, .inl ⟨H0, rfl, Er.no H0⟩⟩
end Go.Proofs.YtkceccajamdbjaaDoor
