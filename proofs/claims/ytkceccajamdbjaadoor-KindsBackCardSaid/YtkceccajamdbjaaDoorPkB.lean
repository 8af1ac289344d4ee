/- The program's kinds: a kind as text. -/
import Derived.Test.YtkceccajamdbjaaDoorPkA
import Derived.Deep.RegionLaw
namespace Go.Proofs.YtkceccajamdbjaaDoor
open Go.RowKit
set_option linter.unusedVariables false

def bytesOf (l : List UInt8) : ByteArray := ⟨l.toArray⟩
theorem bytesOf_list (l : List UInt8) : (bytesOf l).data.toList = l := rfl
theorem bytesOf_cat (a b : List UInt8) : bytesOf a ++ (⟨b.toArray⟩ : ByteArray) = bytesOf (a ++ b) := by
  apply WideShapes.bytes_inj
  rw [bytesOf_list]
  simp [bytesOf]
/-- the words of a kind, as texts. -/
def wordsB (k : KV) (n : Nat) : List ByteArray := k.b :: (k.ns.take n).map fun x => bytesOf (Tx.dig x.toNat)
theorem wordsB_next {k : KV} {n : Nat} {x : Int} (h : k.ns[n]? = some x) : wordsB k (n + 1) = wordsB k n ++ [bytesOf (Tx.dig x.toNat)] := by
  obtain ⟨hi, e⟩ := List.getElem?_eq_some_iff.1 h
  unfold wordsB
  rw [List.take_succ_eq_append_getElem hi, List.map_append, e]
  rfl
theorem wordsB_all (k : KV) : (wordsB k 8 ++ [bytesOf (Kd.flag k.f 102), bytesOf (Kd.flag k.t 116)]).map (·.data.toList) = Kd.words k.k := rfl
theorem kline_len {k : KV} (hb : k.b.size ≤ 8) (hn : ∀ x ∈ k.ns, 0 ≤ x ∧ x ≤ 1000) : (Kd.kline k.k).length ≤ 100 := by
  have hd : ∀ x ∈ k.ns, (Tx.dig x.toNat).length ≤ 4 := fun x hx => Tx.dig_len (by decide) (by have := hn x hx; show x.toNat < 10000; omega)
  have hf : ∀ b c, (Kd.flag b c).length = 1 := fun b c => by unfold Kd.flag; split <;> rfl
  have h0 := hd k.n0 (by simp [KV.ns])
  have h1 := hd k.n1 (by simp [KV.ns])
  have h2 := hd k.n2 (by simp [KV.ns])
  have h3 := hd k.n3 (by simp [KV.ns])
  have h4 := hd k.n4 (by simp [KV.ns])
  have h5 := hd k.n5 (by simp [KV.ns])
  have h6 := hd k.n6 (by simp [KV.ns])
  have h7 := hd k.n7 (by simp [KV.ns])
  have f1 := hf k.f 102
  have f2 := hf k.t 116
  have hb' : k.b.data.toList.length ≤ 8 := hb
  show (Tx.join 32 [k.b.data.toList, Tx.dig k.n0.toNat, Tx.dig k.n1.toNat, Tx.dig k.n2.toNat, Tx.dig k.n3.toNat, Tx.dig k.n4.toNat, Tx.dig k.n5.toNat, Tx.dig k.n6.toNat, Tx.dig k.n7.toNat, Kd.flag k.f 102, Kd.flag k.t 116]).length ≤ 100
  simp only [Tx.join, List.length_append, List.length_cons]
  omega

set_option maxRecDepth 100000 in
set_option maxHeartbeats 4000000 in
theorem write_any (k : KV) (w : World) (hw : Pw w) (hb : k.b.size ≤ 8) (hn : ∀ x ∈ k.ns, 0 ≤ x ∧ x ≤ 1000) :
    Calls Tryd.prog 25 #[k.val] w fun e w' => e = .returned (.string (bytesOf (Kd.kline k.k ++ [10]))) ∧ Below w.heap.size w w' := by
  have NA := nums_any k
  have KL := kline_len hb hn
  have KL' : Hid ((Kd.kline k.k).length ≤ 100) := KL
  have WB := wordsB_all k
  have WN : Hid (∀ n x, k.ns[n]? = some x → wordsB k (n + 1) = wordsB k n ++ [bytesOf (Tx.dig x.toNat)]) := fun n x h => wordsB_next h
  have W0 : Hid (wordsB k 0 = [k.b]) := rfl
  have WL : Hid (∀ n, n ≤ 8 → (wordsB k n).length = n + 1) := fun n hn => by simp [wordsB, KV.ns]; omega
  have Nb : Hid (∀ x ∈ k.ns, 0 ≤ x ∧ x ≤ 1000) := hn
  have Kn : Hid (k.ns.length = 8) := rfl
  have Ka : Hid (∀ (p : Nat) (x : Int), k.ns[p]? = some x → (#[.int .i64 k.n0, .int .i64 k.n1, .int .i64 k.n2, .int .i64 k.n3, .int .i64 k.n4, .int .i64 k.n5, .int .i64 k.n6, .int .i64 k.n7] : Array Value)[p]? = some (Value.int .i64 x)) := fun p x hx => by
    have h9 : (k.ns.map (Value.int .i64)).toArray[p]? = some (Value.int .i64 x) := by simp [hx]
    exact h9
  have KL2 : Hid (Kd.kline k.k = Tx.join 32 ((wordsB k 8 ++ [bytesOf (Kd.flag k.f 102), bytesOf (Kd.flag k.t 116)]).map (·.data.toList))) := by unfold Hid; rw [WB]; rfl
  generalize Kd.kline k.k = KLn at *
  clear WB hn KL
  have P0 : Hid (Pw w) := hw
  clear hw
  obtain ⟨kb, n0, n1, n2, n3, n4, n5, n6, n7, kf, kt⟩ := k
  generalize hWo : wordsB ⟨kb, n0, n1, n2, n3, n4, n5, n6, n7, kf, kt⟩ = Wo at *
  generalize hNs : KV.ns ⟨kb, n0, n1, n2, n3, n4, n5, n6, n7, kf, kt⟩ = Ns at *
  clear hWo hNs
  unfold KV.val KV.arr at *
  simp only at NA Ka hb KL2 W0
  have NA' : Hid (∀ w : World, Calls Tryd.prog 46 #[.agg #[.string kb, .int .i64 n0, .int .i64 n1, .int .i64 n2, .int .i64 n3, .int .i64 n4, .int .i64 n5, .int .i64 n6, .int .i64 n7, .bool kf, .bool kt]] w fun e w' => e = .returned (.agg #[.int .i64 n0, .int .i64 n1, .int .i64 n2, .int .i64 n3, .int .i64 n4, .int .i64 n5, .int .i64 n6, .int .i64 n7]) ∧ Below w.heap.size w w') := NA
  clear NA hb
  go_enter Tryd.func25, Tryd.ntmps25
  have B1 : Hid (Below w.heap.size w (w.alloc (Obj.cells #[.string kb, .int .i64 n0, .int .i64 n1, .int .i64 n2, .int .i64 n3, .int .i64 n4, .int .i64 n5, .int .i64 n6, .int .i64 n7, .bool kf, .bool kt] 28))) := (Below.refl _ _).alloc (Nat.le_refl _) _
  have X1 : Hid (Kc (w.alloc (Obj.cells #[.string kb, .int .i64 n0, .int .i64 n1, .int .i64 n2, .int .i64 n3, .int .i64 n4, .int .i64 n5, .int .i64 n6, .int .i64 n7, .bool kf, .bool kt] 28)) ⟨w.heap.size, 0, none⟩ ⟨kb, n0, n1, n2, n3, n4, n5, n6, n7, kf, kt⟩) := Kc.mk' ⟨kb, n0, n1, n2, n3, n4, n5, n6, n7, kf, kt⟩ rfl
  have O1 : Hid (Os ((w.alloc (Obj.cells #[.string kb, .int .i64 n0, .int .i64 n1, .int .i64 n2, .int .i64 n3, .int .i64 n4, .int .i64 n5, .int .i64 n6, .int .i64 n7, .bool kf, .bool kt] 28)).alloc (Obj.cells #[.string kb] 9)) (w.heap.size + 1) (.slice (some ⟨w.heap.size + 1, 0, none⟩) 1 1) (Wo 0)) := by
    rw [W0.out]
    exact Os.one (w := w.alloc (Obj.cells #[.string kb, .int .i64 n0, .int .i64 n1, .int .i64 n2, .int .i64 n3, .int .i64 n4, .int .i64 n5, .int .i64 n6, .int .i64 n7, .bool kf, .bool kt] 28)) kb (by simp) (by simp)
  have b2 : Below (w.alloc (Obj.cells #[.string kb, .int .i64 n0, .int .i64 n1, .int .i64 n2, .int .i64 n3, .int .i64 n4, .int .i64 n5, .int .i64 n6, .int .i64 n7, .bool kf, .bool kt] 28)).heap.size (w.alloc (Obj.cells #[.string kb, .int .i64 n0, .int .i64 n1, .int .i64 n2, .int .i64 n3, .int .i64 n4, .int .i64 n5, .int .i64 n6, .int .i64 n7, .bool kf, .bool kt] 28)) ((w.alloc (Obj.cells #[.string kb, .int .i64 n0, .int .i64 n1, .int .i64 n2, .int .i64 n3, .int .i64 n4, .int .i64 n5, .int .i64 n6, .int .i64 n7, .bool kf, .bool kt] 28)).alloc (Obj.cells #[.string kb] 9)) := (Below.refl _ _).alloc (Nat.le_refl _) _
  have B2 : Hid (Below w.heap.size w ((w.alloc (Obj.cells #[.string kb, .int .i64 n0, .int .i64 n1, .int .i64 n2, .int .i64 n3, .int .i64 n4, .int .i64 n5, .int .i64 n6, .int .i64 n7, .bool kf, .bool kt] 28)).alloc (Obj.cells #[.string kb] 9))) := B1.out.trans (b2.mono B1.out.size)
  have X2 : Hid (Kc ((w.alloc (Obj.cells #[.string kb, .int .i64 n0, .int .i64 n1, .int .i64 n2, .int .i64 n3, .int .i64 n4, .int .i64 n5, .int .i64 n6, .int .i64 n7, .bool kf, .bool kt] 28)).alloc (Obj.cells #[.string kb] 9)) ⟨w.heap.size, 0, none⟩ ⟨kb, n0, n1, n2, n3, n4, n5, n6, n7, kf, kt⟩) := X1.out.below b2 X1.out.lt
  clear b2 B1 X1
  go_wp2_with fail
  generalize (w.alloc (Obj.cells #[.string kb, .int .i64 n0, .int .i64 n1, .int .i64 n2, .int .i64 n3, .int .i64 n4, .int .i64 n5, .int .i64 n6, .int .i64 n7, .bool kf, .bool kt] 28)).alloc (Obj.cells #[.string kb] 9) = w2 at *
  refine (NA'.out _).mono ?_
  rintro e w3 ⟨rfl, b3⟩
  have O3 : Hid (Os w3 (w.heap.size + 1) (.slice (some ⟨w.heap.size + 1, 0, none⟩) 1 1) (Wo 0)) := O1.out.below b3
  have X3 : Hid (Kc w3 ⟨w.heap.size, 0, none⟩ ⟨kb, n0, n1, n2, n3, n4, n5, n6, n7, kf, kt⟩) := X2.out.below b3 X2.out.lt
  have B3 : Hid (Below w.heap.size w w3) := B2.out.trans (b3.mono B2.out.size)
  clear b3 O1 X2 B2 NA'
  go_wp2_with fail
  go_loopw [3, 11] (fun v j W' => ∃ p : Nat, p ≤ 8 ∧ j = .int .i64 (p : Nat) ∧ Os W' (w.heap.size + 1) v (Wo p) ∧ Below w.heap.size w W' ∧ Kc W' ⟨w.heap.size, 0, none⟩ ⟨kb, n0, n1, n2, n3, n4, n5, n6, n7, kf, kt⟩) (fun _ j _ => 8 - (intOf j).toNat)
  case atStart => exact ⟨0, Nat.zero_le _, rfl, O3, B3, X3⟩
  case round =>
    obtain ⟨p, hp, rfl, ho, hb, hx⟩ := hrel
    have O : Hid (Os wr (w.heap.size + 1) u3 (Wo p)) := ho
    have B : Hid (Below w.heap.size w wr) := hb
    have X : Hid (Kc wr ⟨w.heap.size, 0, none⟩ ⟨kb, n0, n1, n2, n3, n4, n5, n6, n7, kf, kt⟩) := hx
    have hsz : w.heap.size + 1 ≤ wr.heap.size := hx.lt
    obtain ⟨av, cv, ev⟩ := ho.len
    rw [WL.out p hp] at ev
    subst ev
    clear ho hb hx
    by_cases hp8 : p = 8
    · subst hp8
      have x9 : wr.cell? ⟨w.heap.size, 9, none⟩ = some (.bool kf) := X.out.c9
      have x10 : wr.cell? ⟨w.heap.size, 10, none⟩ = some (.bool kt) := X.out.c10
      go_upto_region 7 with fail
      have L8 : Hid ((Wo 8).length = 9) := WL.out 8 (by omega)
      go_region_law (first
        | (refine step_str2 _ rfl (.tmp 20) (.tmp 27) rfl (w.heap.size + 1) (.slice av 9 cv) (Wo 8) (by simp [Act.eval]) (O.out.alloc _) wr.heap.size (bytesOf (Kd.flag kf 102)) (bytesOf (Kd.flag kt 116)) (by simp [Act.eval]) (by simp [bytesOf]) (by simp [bytesOf]) (by rw [L8.out]; omega) (by simp; omega) ?_; intro g cap w6 o6 g6 a6 l6)
        | (go_simp; go_at_call 48; refine (mark_any _ _ _).mono ?_; rintro e w' ⟨rfl, hw⟩; obtain rfl := hw.symm))
      all_goals
        have hl6 := l6
        have B6 : Hid (Below w.heap.size w w6) := (B.out.alloc B.out.size _).drew.grown g6 (by have := B.out.size; simp; omega) (fun k hk => Nat.le_of_succ_le (O.out.block k hk).1)
        rw [L8.out] at o6 ⊢
        obtain ⟨a9, c9, e9, c91, c92, hcs⟩ := o6.cells
        rw [show ((Wo 8) ++ [bytesOf (Kd.flag kf 102), bytesOf (Kd.flag kt 116)]).length = 11 by rw [List.length_append, L8.out]; rfl] at e9 c91
        injection e9 with e91 e92 e93
        subst e91 e93
        obtain ⟨g9, e94, -, hc9⟩ := hcs (by intro h; have := congrArg List.length h; simp at this)
        injection e94 with e94
        injection e94 with e95
        subst e95
        have JN := Tryd.strings_Join g 0 cap (Wo 8 ++ [bytesOf (Kd.flag kf 102), bytesOf (Kd.flag kt 116)]) ⟨#[32]⟩ w6 (fun j x hj => by rw [Nat.zero_add]; exact hc9 j x hj) hl6 (by rw [List.length_append, L8.out]; simp) (by rw [List.length_append, L8.out]; exact c91) (by
          rw [show (⟨#[32]⟩ : ByteArray).data.toList = [32] from rfl, join_tx, ← KL2.out]
          have := KL'.out
          omega)
        rw [show (⟨#[32]⟩ : ByteArray).data.toList = [32] from rfl, join_tx, ← KL2.out, List.length_append, L8.out] at JN
        have JN' : Hid (Calls Tryd.prog 49 #[.slice (some ⟨g, 0, none⟩) 11 cap, .string ⟨#[32]⟩] w6 fun e w' => e = .returned (.string (bytesOf KLn)) ∧ Below w6.heap.size w6 w') := JN
        clear JN hc9 hcs o6 g6 a6 l6 c91 c92
        go_wp2_with fail
        refine JN'.out.mono ?_
        rintro e w7 ⟨rfl, b7⟩
        have B7 : Hid (Below w.heap.size w w7) := B6.out.trans (b7.mono B6.out.size)
        have hs9 : (bytesOf KLn).size ≤ 100 := KL'.out
        have hs8 : ¬ 9223372036854775807 < (bytesOf KLn).size + 1 := by omega
        clear b7 JN'
        go_wp2
        go_ret
        refine ⟨?_, B7⟩
        show Ending.returned (.string (bytesOf KLn ++ ⟨#[10]⟩)) = _
        rw [bytesOf_cat KLn [10]]
    · have hp9 : p < 8 := by omega
      obtain ⟨x, hx⟩ : ∃ x, Ns[p]? = some x := ⟨_, List.getElem?_eq_getElem (by rw [Kn.out]; exact hp9)⟩
      have hix := idx8 _ p x hp9 (Ka.out p x hx)
      have xb := Nb.out x (List.mem_of_getElem? hx)
      obtain ⟨m, rfl⟩ : ∃ m : Nat, x = m := ⟨x.toNat, by omega⟩
      have Wn : Hid (Wo (p + 1) = Wo p ++ [bytesOf (Tx.dig m)]) := WN.out p _ hx
      clear hx
      have IT := itoa_any m (by omega) wr (P0.out.below B.out)
      have IT' : Hid (Calls Tryd.prog 47 #[.int .i64 (m : Nat)] wr fun e w' => e = .returned (.string (bytesOf (Tx.dig m))) ∧ Below wr.heap.size wr w') := IT
      clear IT
      generalize bytesOf (Tx.dig m) = dm at *
      go_wp2_with fail
      refine IT'.out.mono ?_
      rintro e w4 ⟨rfl, b4⟩
      have O4 : Hid (Os w4 (w.heap.size + 1) (.slice av (p + 1) cv) (Wo p)) := O.out.below b4
      have B4 : Hid (Below w.heap.size w w4) := B.out.trans (b4.mono B.out.size)
      have X4 : Hid (Kc w4 ⟨w.heap.size, 0, none⟩ ⟨kb, n0, n1, n2, n3, n4, n5, n6, n7, kf, kt⟩) := X.out.below b4 X.out.lt
      have hs4 : w.heap.size + 1 ≤ w4.heap.size := Nat.le_trans hsz b4.size
      have Lp : Hid ((Wo p).length = p + 1) := WL.out p hp
      clear b4 IT' O B X hix
      go_wp2_with (at_builtin; refine app_str _ rfl _ _ rfl (w.heap.size + 1) _ (Wo p) rfl (O4.out.alloc _) ⟨w4.heap.size, 0, none⟩ dm rfl (by simp) (by rw [Lp.out]; omega) (by simp; omega) ?_)
      intro g cap w6 o6 g6 a6 l6
      rw [← Wn.out] at o6
      rw [Lp.out] at o6 ⊢
      have O6 : Hid (Os w6 (w.heap.size + 1) (.slice (some ⟨g, 0, none⟩) (p + 1 + 1) cap) (Wo (p + 1))) := o6
      have hob : ∀ k, (Value.slice av (p + 1) cv).ownBlock = some k → w.heap.size + 1 ≤ k := fun k hk => (O4.out.block k hk).1
      have b6 : Below (w.heap.size + 1) w4 w6 := ((Below.refl _ _).alloc hs4 _).grown g6 (by simp; omega) hob
      have X6 : Hid (Kc w6 ⟨w.heap.size, 0, none⟩ ⟨kb, n0, n1, n2, n3, n4, n5, n6, n7, kf, kt⟩) := X4.out.below b6 (Nat.lt_succ_self _)
      have B6 : Hid (Below w.heap.size w w6) := B4.out.trans (b6.mono (Nat.le_succ _))
      clear o6 g6 a6 l6 hob b6
      go_wp2
      go_round
      case rel => exact ⟨p + 1, by omega, by go_num, O6, B6, X6⟩
      case measure => simp [intOf]; omega
end Go.Proofs.YtkceccajamdbjaaDoor
