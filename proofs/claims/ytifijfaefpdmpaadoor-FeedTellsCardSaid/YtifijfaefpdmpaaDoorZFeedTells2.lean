/- Bytes that the call itself makes, by append. · feed.changed, feed.Apply. · feed.Apply. · A region that draws its order, in which calls that change memory stand in one order, and what else there is reads what they leave: it may be walked in an order of one's own. · A region that draws its order: what reads, and calls in one order, first, in an order of one's own; then what turns what was read, each the only one that may come. · The reference: Apply. · Numbers in bytes: fold. · Numbers in bytes: Write. · Lists of integers: a whole list behind another one. · A list of integers that is written out, of any length. · A list of integers of its own, as a block. · feed.Pack. · Bytes: a whole list behind another one; a part of one. · The reference: numbers behind bytes. · The reference: Pack. · Are two lists of changes the same? · How great what came in is; a byte. · What a walk is told of bytes that came in. -/
import Derived.Test.YtifijfaefpdmpaaDoorZFeedTells1
import Derived.OwnWalk
import Derived.Deep.AppendLies
import Derived.Lib.SmallJoins
import Derived.StillTail
import Derived.Below
import Derived.Laws.AppendOwnNone
import Derived.Laws.IdiomStrings
import Derived.Laws.Closers25
import Derived.IntWalk
import Derived.BigRegion
import Derived.Deep.SlicePairs
import Derived.ChangeArms
import Derived.ProofKit
import Derived.OpenShut
namespace Go.Proofs.YtifijfaefpdmpaaDoor
open Go.RowKit
set_option linter.unusedVariables false

/-- the bytes of a list, as cells. -/
def byteCells (l : List UInt8) : List Value := l.map fun b => .int .u8 (b.toNat : Nat)
theorem info_byte : (Tryd.prog.info? 5).map (fun i => (i.zero, i.size, i.bytes)) = some (some (.int .u8 0), 1, 1) := by kernel_rfl
/-- v is a slice of the bytes l, in a block of its own from base on. -/
def Ob (w : World) (base : Nat) (v : Value) (l : List UInt8) : Prop := w.ownsRow base 5 1 v l.length (byteCells l)
theorem Ob.nil (w : World) (base : Nat) : Ob w base (.slice none 0 0) [] := World.ownsRow_nil _ _ _ _
theorem Ob.alloc {w : World} {base : Nat} {v : Value} {l : List UInt8} (h : Ob w base v l) (o : Obj) : Ob (w.alloc o) base v l := World.ownsRow.alloc h o
theorem Ob.drew {w : World} {base : Nat} {v : Value} {l : List UInt8} (h : Ob w base v l) : Ob w.drew base v l := h
theorem Ob.block {w : World} {base : Nat} {v : Value} {l : List UInt8} (h : Ob w base v l) : ∀ k, v.ownBlock = some k → base ≤ k ∧ k < w.heap.size := World.ownsRow.lt h

theorem byteCells_snoc (l : List UInt8) (b : UInt8) : byteCells (l ++ [b]) = byteCells l ++ [.int .u8 (b.toNat : Nat)] := by simp [byteCells]

theorem Ob.len {w : World} {base : Nat} {v : Value} {l : List UInt8} (h : Ob w base v l) : ∃ a c, v = .slice a l.length c := by
  rcases h.2 with ⟨hv, h0⟩ | ⟨g, cap, cur, hv, _⟩
  · exact ⟨none, 0, by rw [hv, h0]⟩
  · exact ⟨_, _, hv⟩
theorem Ob.text {w : World} {base : Nat} {v : Value} {l : List UInt8} (h : Ob w base v l) (hl : 0 < l.length) :
    ∃ g cap, v = .slice (some ⟨g, 0, none⟩) l.length cap ∧ ∀ j (hj : j < l.length), w.cell? ((⟨g, 0, none⟩ : Addr).add j) = some (.int .u8 (l[j].toNat : Int)) := by
  obtain ⟨g, cap, hv, -, -⟩ := World.ownsRow.form h hl
  refine ⟨g, cap, hv, fun j hj => ?_⟩
  subst hv
  rw [Addr.add_lit, Nat.zero_add, World.ownsRow.cellAt h j (by omega)]
  simp [byteCells, List.getElem?_eq_getElem hj]
theorem step_app_byte {ops : Array Oper} {o : Oper} {a : Act} {K : Act → World → Prop} {Q : Exit → Act → World → Prop} {E : Prop} (w : World) (hgd : o.guard = none) (s x : Operand)
    (ho : o.op = .call { callee := .builtin .append, args := #[s, x], argTypes := #[22, 22] }) (base : Nat) (v : Value) (l : List UInt8) (hs : a.eval s = v) (hown : Ob w base v l)
    (ad : Addr) (b : UInt8) (hx : a.eval x = .slice (some ad) 1 1) (hd : w.cell? ad = some (.int .u8 (b.toNat : Nat))) (hl : l.length ≤ 2000000000) (hbase : base ≤ w.heap.size)
    (h : ∀ g cap w', Ob w' base (.slice (some ⟨g, 0, none⟩) (l.length + 1) cap) (l ++ [b]) → w.grownBy w' v.ownBlock → g < w'.heap.size → K (a.put o.dst (.slice (some ⟨g, 0, none⟩) (l.length + 1) cap)) w') :
    if Region.wanted o (yielded ops a.tmps) = true then Oper.wp Tryd.prog o a w K Q else E := by
  obtain ⟨i0, hi, hz0, hz1, hz2⟩ := info_parts info_byte
  refine step_append_lies w hgd s x 22 ho base 5 i0 (.int .u8 0) 1 1 Tryd.underlying22 hi hz0 hz1 hz2 rfl (by decide) v l.length _ hs hown ad 1 1 [.int .u8 (b.toNat : Nat)] hx rfl ?_ ?_ (by decide) (by unfold maxLen; omega) (by omega) hbase _ rfl ?_
  · intro j u hj
    match j, hj with
    | 0, hj => simp at hj; subst hj; exact hd
  · intro u hu
    simp at hu
    subst hu
    rfl
  · intro g cap w' h1 h2 h3 h4
    refine h g cap w' ?_ h2 h4
    unfold Ob
    rw [List.length_append, byteCells_snoc]
    exact h1
theorem app_byte {ops : Array Oper} {rest : List Oper} {o : Oper} {a : Act} {Q : Exit → Act → World → Prop} (w : World) (hgd : o.guard = none) (s x : Operand)
    (ho : o.op = .call { callee := .builtin .append, args := #[s, x], argTypes := #[22, 22] }) (base : Nat) (v : Value) (l : List UInt8) (hs : a.eval s = v) (hown : Ob w base v l)
    (ad : Addr) (b : UInt8) (hx : a.eval x = .slice (some ad) 1 1) (hd : w.cell? ad = some (.int .u8 (b.toNat : Nat))) (hl : l.length ≤ 2000000000) (hbase : base ≤ w.heap.size)
    (h : ∀ g cap w', Ob w' base (.slice (some ⟨g, 0, none⟩) (l.length + 1) cap) (l ++ [b]) → w.grownBy w' v.ownBlock → g < w'.heap.size → wpList Tryd.prog ops Q rest (a.put o.dst (.slice (some ⟨g, 0, none⟩) (l.length + 1) cap)) w') :
    wpList Tryd.prog ops Q (o :: rest) a w := by
  obtain ⟨i0, hi, hz0, hz1, hz2⟩ := info_parts info_byte
  refine wpList_append_lies w hgd s x 22 ho base 5 i0 (.int .u8 0) 1 1 Tryd.underlying22 hi hz0 hz1 hz2 rfl (by decide) v l.length _ hs hown ad 1 1 [.int .u8 (b.toNat : Nat)] hx rfl ?_ ?_ (by decide) (by unfold maxLen; omega) (by omega) hbase _ rfl ?_
  · intro j u hj
    match j, hj with
    | 0, hj => simp at hj; subst hj; exact hd
  · intro u hu
    simp at hu
    subst hu
    rfl
  · intro g cap w' h1 h2 h3 h4
    refine h g cap w' ?_ h2 h4
    unfold Ob
    rw [List.length_append, byteCells_snoc]
    exact h1

end Go.Proofs.YtifijfaefpdmpaaDoor

namespace Go.Proofs.YtifijfaefpdmpaaDoor
open Go.RowKit
set_option linter.unusedVariables false

namespace Fe
theorem pl_front {a : List UInt8} {N n : Nat} (h : n < N) : ((pl a N).take n ++ List.replicate (N - n) 0).set n (bat a n) = (pl a N).take (n + 1) ++ List.replicate (N - (n + 1)) 0 := by
  have l9 : ((pl a N).take n).length = n := by rw [List.length_take, pl_len]; omega
  rw [List.set_append_right _ _ (by omega), l9, Nat.sub_self, List.take_add_one, pl_get h]
  have : N - n = (N - (n + 1)) + 1 := by omega
  rw [this, List.replicate_succ]
  simp
theorem puts_bounds {a : List UInt8} {N : Nat} : ∀ {l : List ChV}, (∀ c ∈ l, ¬ Bad c) → ∀ x ∈ puts (pl a N) l, -1 ≤ x ∧ x ≤ 255 := by
  have H : ∀ (l : List ChV) (ps : List Int), (∀ c ∈ l, ¬ Bad c) → (∀ x ∈ ps, -1 ≤ x ∧ x ≤ 255) → ∀ x ∈ puts ps l, -1 ≤ x ∧ x ≤ 255 := by
    intro l
    induction l with
    | nil => intro ps _ h; exact h
    | cons c l ih =>
      intro ps hl hp
      refine ih (ps.set c.at_.toNat c.new) (fun d hd => hl d (by simp [hd])) (fun x hx => ?_)
      rcases List.mem_or_eq_of_mem_set hx with h | rfl
      · exact hp x h
      · have := hl c (by simp)
        unfold Bad at this
        omega
  intro l hl
  refine H l _ hl (fun x hx => ?_)
  unfold pl at hx
  obtain ⟨i, -, rfl⟩ := List.mem_map.1 hx
  exact bat_bounds a i
end Fe
/-- what changed tells. -/
def ChgSays (a : List UInt8) (l : List ChV) (w w' : World) (v r : Value) : Prop :=
  (Fe.applied a l 6000 = none ∧ v = .slice none 0 0 ∧ r = .iface 42 (.int .i64 3)) ∨ (∃ b, Fe.applied a l 6000 = some b ∧ r = .nilIface ∧ Ob w' w.heap.size v b)
set_option maxRecDepth 100000 in
set_option maxHeartbeats 16000000 in
theorem changed_any (va vl : Value) (a : List UInt8) (ks : List ChV) (w : World) (ha : By w va a) (hl : Chl w vl ks) (hk : ks.length ≤ 6000) (hb : ∀ c ∈ ks, ¬ Fe.Bad c) :
    Calls Tryd.prog 18 #[va, vl] w fun e w' => ∃ v r, e = .returned (.tuple #[v, r]) ∧ ChgSays a ks w w' v r ∧ Below w.heap.size w w' := by
  have A : Hid (By w va a) := ha
  have L : Hid (Chl w vl ks) := hl
  have NB : Hid (∀ c ∈ ks, ¬ Fe.Bad c) := hb
  obtain ⟨pa, ca, rfl, a1, a2, -⟩ := ha
  obtain ⟨pl, cl, rfl, l1, l2, -⟩ := hl
  have a2' : ca ≤ 9223372036854775807 := by unfold maxLen at a2; omega
  clear a2 hb
  obtain ⟨w1, hm, hbk, hbb, hs⟩ := makeI 6000 w (by omega)
  obtain ⟨N, hN⟩ : ∃ N : Nat, N = 6000 := ⟨_, rfl⟩
  have HN : Hid (N = 6000) := hN
  have hN' : (N : Int) = 6000 := by omega
  rw [← hN] at hbk
  have BK : Hid (Bk w1 w.heap.size (List.replicate N 0) #[]) := hbk
  have BB : Hid (Below w.heap.size w w1) := hbb
  obtain ⟨z, hz⟩ : ∃ z, w.heap.size = z := ⟨_, rfl⟩
  have HZ : Hid (w.heap.size = z) := hz
  rw [hz] at BK hm
  have hm' : (Instr.makeSlice 44 (.int .i64 6000) (.int .i64 6000)).run Tryd.prog w = .ok (.slice (some ⟨z, 0, none⟩) 6000 6000) w1 := hm
  clear hbk hbb hs hm hN
  go_enter Tryd.func18, Tryd.ntmps18
  go_wp2_with fail
  go_loopw [16] (fun j W => ∃ n : Nat, n ≤ N ∧ j = .int .i64 (n : Nat) ∧ Bk W z ((Fe.pl a N).take n ++ List.replicate (N - n) 0) #[] ∧ Below z w W) (fun j _ => N - (intOf j).toNat)
  case atStart => exact ⟨0, Nat.zero_le _, rfl, by simpa using BK.out, by rw [← HZ.out]; exact BB.out⟩
  case round =>
  obtain ⟨n, hn, rfl, hb, hB⟩ := hrel
  have B1 : Hid (Bk wr z ((Fe.pl a N).take n ++ List.replicate (N - n) 0) #[]) := hb
  have W1 : Hid (Below z w wr) := hB
  clear hb hB
  by_cases hne : n = N
  case neg =>
    have hnl : n < N := by omega
    have hnl' : (n : Int) < 6000 := by omega
    go_wp2_with fail
    refine (byteAt_any _ a n _ (A.out.below (by rw [HZ.out]; exact W1.out))).mono ?_
    rintro e w2 ⟨rfl, rfl⟩
    have tz := B1.out.thaw n
    have cz := B1.out.cell (i := n) (d := 0) (by
      have l9 : ((Fe.pl a N).take n).length = n := by rw [List.length_take, Fe.pl_len]; omega
      rw [List.getElem?_append_right (by omega), l9, Nat.sub_self, List.getElem?_replicate, if_pos (by omega)])
    have SZ : Hid (Bk (w2.setCell ⟨z, n, none⟩ (.int .i64 (Fe.bat a n))) z ((Fe.pl a N).take (n + 1) ++ List.replicate (N - (n + 1)) 0) #[]) := by
      have h9 := B1.out.set n (Fe.bat a n) (by simp [Fe.pl_len]; omega)
      rw [Fe.pl_front hnl] at h9
      exact h9
    have WZ : Hid (Below z w (w2.setCell ⟨z, n, none⟩ (.int .i64 (Fe.bat a n)))) := W1.out.setCell (Nat.le_refl _) _
    go_wp2
    go_roundw
    case rel => exact ⟨n + 1, by omega, by go_num, SZ.out, WZ.out⟩
    case measure => simp [intOf]; omega
  have BP : Hid (Bk wr z (Fe.pl a N) #[]) := by
    have := B1.out
    rw [hne, Nat.sub_self, List.replicate_zero, List.append_nil, List.take_of_length_le (by rw [Fe.pl_len]; exact Nat.le_refl _)] at this
    exact this
  have hnn : ¬ (n : Int) < 6000 := by omega
  clear B1 BK hm'
  go_wp2_with fail
  go_loopw [28] (fun j W => ∃ m : Nat, m ≤ ks.length ∧ j = .int .i64 (m : Nat) ∧ Bk W z (Fe.puts (Fe.pl a N) (ks.take m)) #[] ∧ Below z w W) (fun j _ => ks.length - (intOf j).toNat)
  case atStart => exact ⟨0, Nat.zero_le _, rfl, by simpa [Fe.puts] using BP.out, W1.out⟩
  case round =>
  obtain ⟨m, hm, rfl, hb, hB⟩ := hrel
  have B1 : Hid (Bk wr z (Fe.puts (Fe.pl a N) (ks.take m)) #[]) := hb
  have W2 : Hid (Below z w wr) := hB
  clear hb hB BP
  by_cases hme : m = ks.length
  case neg =>
    have hml : m < ks.length := by omega
    have hml' : (m : Int) < (ks.length : Int) := by omega
    obtain ⟨c, hc⟩ : ∃ c, ks[m]? = some c := ⟨_, List.getElem?_eq_getElem hml⟩
    have PN : Hid (Fe.puts (Fe.pl a N) (ks.take (m + 1)) = (Fe.puts (Fe.pl a N) (ks.take m)).set c.at_.toNat c.new) := by
      unfold Hid
      rw [List.take_add_one, hc]
      exact Fe.puts_snoc _ _ _
    have nb := NB.out c (List.mem_of_getElem? hc)
    obtain ⟨a', c', e', -, -, hq⟩ := L.out.below (by rw [HZ.out]; exact W2.out)
    injection e' with e1 e2 e3
    subst e1 e3
    obtain ⟨x, rfl, -, hcc⟩ := hq (by rintro rfl; simp at hml)
    obtain ⟨d0, d1, d2⟩ := hcc m c hc
    clear hq hcc hc
    obtain ⟨cc, co, cn⟩ := c
    unfold Fe.Bad at nb
    simp only at d0 d1 d2 PN nb
    obtain ⟨i, rfl⟩ : ∃ i : Nat, cc = (i : Nat) := ⟨cc.toNat, by omega⟩
    have hi6 : (i : Int) < 6000 := by omega
    have hiN : i < N := by omega
    rw [Int.toNat_natCast] at PN
    have SW : Hid (z ≤ wr.heap.size) := by unfold Hid; rw [← HZ.out]; exact W2.out.size
    obtain ⟨wa, hwa⟩ : ∃ W, wr.alloc (Obj.cells #[.int .i64 (i : Nat), .int .i64 co, .int .i64 cn] 41) = W := ⟨_, rfl⟩
    have BA : Hid (Bk wa z (Fe.puts (Fe.pl a N) (ks.take m)) #[]) := by rw [← hwa]; exact B1.out.below ((Below.refl _ _).alloc (Nat.le_refl _) _)
    have WA : Hid (Below z w wa) := by rw [← hwa]; exact W2.out.alloc SW.out _
    have y0 : wa.cell? ⟨wr.heap.size, 0, none⟩ = some (.int .i64 (i : Nat)) := by rw [← hwa]; simp
    have y2 : wa.cell? ⟨wr.heap.size, 2, none⟩ = some (.int .i64 cn) := by rw [← hwa]; simp
    have tz := BA.out.thaw i
    obtain ⟨d, hd⟩ : ∃ d, (Fe.puts (Fe.pl a N) (ks.take m))[i]? = some d := ⟨_, List.getElem?_eq_getElem (by rw [Fe.puts_len, Fe.pl_len]; exact hiN)⟩
    have cz := BA.out.cell hd
    have SZ : Hid (Bk (wa.setCell ⟨z, i, none⟩ (.int .i64 cn)) z (Fe.puts (Fe.pl a N) (ks.take (m + 1))) #[]) := by
      have h9 := BA.out.set i cn (by rw [Fe.puts_len, Fe.pl_len]; exact hiN)
      rw [← PN.out] at h9
      exact h9
    have WZ : Hid (Below z w (wa.setCell ⟨z, i, none⟩ (.int .i64 cn))) := WA.out.setCell (Nat.le_refl _) _
    clear hd nb
    go_upto_region 10 with fail
    try rw [hwa]
    clear hwa
    go_wp2
    go_roundw
    case rel => exact ⟨m + 1, by omega, by go_num, SZ.out, WZ.out⟩
    case measure => simp [intOf]; omega
  obtain ⟨ps, hps⟩ : ∃ ps, Fe.puts (Fe.pl a N) ks = ps := ⟨_, rfl⟩
  have PS : Hid (Fe.applied a ks 6000 = Fe.col ps 0 [] ∧ ps.length = N) := ⟨by unfold Fe.applied; rw [← HN.out, hps], by rw [← hps, Fe.puts_len, Fe.pl_len]⟩
  have PB : Hid (∀ x ∈ ps, -1 ≤ x ∧ x ≤ 255) := by rw [← hps]; exact Fe.puts_bounds NB.out
  have BP : Hid (Bk wr z ps #[]) := by
    have := B1.out
    rw [hme, List.take_length, hps] at this
    exact this
  subst hme
  clear B1 hps
  go_wp2_with fail
  go_loopw [10, 41] (fun bv j W => ∃ (k : Nat) (b : List UInt8), k ≤ N ∧ j = .int .i64 (k : Nat) ∧ b.length ≤ k ∧ Fe.col ps 0 [] = Fe.col (ps.drop k) k b ∧ Ob W (z + 1) bv b ∧ Bk W z ps #[] ∧ Below z w W) (fun _ j _ => N - (intOf j).toNat)
  case atStart => exact ⟨0, [], Nat.zero_le _, rfl, Nat.le_refl _, rfl, Ob.nil _ _, BP.out, W2.out⟩
  case round =>
  obtain ⟨k, b, hk, rfl, hbl, hcol, hob, hbk, hB⟩ := hrel
  have CL : Hid (Fe.col ps 0 [] = Fe.col (ps.drop k) k b) := hcol
  have OB : Hid (Ob wr (z + 1) u10 b) := hob
  have B3 : Hid (Bk wr z ps #[]) := hbk
  have W3 : Hid (Below z w wr) := hB
  obtain ⟨bp, bc, rfl⟩ := hob.len
  clear hcol hob hbk hB BP
  by_cases hke : k = N
  case pos =>
    have hkn : ¬ (k : Int) < 6000 := by omega
    have CE : Hid (Fe.applied a ks 6000 = some b) := by
      unfold Hid
      rw [PS.out.1, CL.out, List.drop_eq_nil_of_le (by rw [PS.out.2]; omega)]
      rfl
    go_wp2
    go_ret2
    refine ⟨_, _, rfl, .inr ⟨b, CE.out, rfl, ?_⟩, by first | exact W3.out | (rw [HZ.out]; exact W3.out)⟩
    have o9 := Go.Joins.ownsRow_le OB.out (Nat.le_succ z)
    first | exact o9 | (rw [HZ.out]; exact o9)
  have hkl : k < N := by omega
  have hkl' : (k : Int) < 6000 := by omega
  obtain ⟨x, hx⟩ : ∃ x, ps[k]? = some x := ⟨_, List.getElem?_eq_getElem (by rw [PS.out.2]; exact hkl)⟩
  have DR : Hid (ps.drop k = x :: ps.drop (k + 1)) := by
    unfold Hid
    have hp : k < ps.length := by rw [PS.out.2]; exact hkl
    rw [List.drop_eq_getElem_cons hp]
    rw [List.getElem?_eq_getElem hp] at hx
    injection hx with hx
    rw [hx]
  have CX : Hid (Fe.col ps 0 [] = if x = -1 then Fe.col (ps.drop (k + 1)) (k + 1) b else if b.length < k then none else Fe.col (ps.drop (k + 1)) (k + 1) (b ++ [UInt8.ofNat x.toNat])) := by
    unfold Hid
    rw [CL.out, DR.out]
    rfl
  have xb := PB.out x (List.mem_of_getElem? hx)
  have cx := B3.out.cell hx
  clear hx
  by_cases hx1 : x = -1
  case pos =>
    have CN : Hid (Fe.col ps 0 [] = Fe.col (ps.drop (k + 1)) (k + 1) b) := by unfold Hid; rw [CX.out, if_pos hx1]
    subst hx1
    go_wp2
    go_roundw
    case rel => exact ⟨k + 1, b, by omega, by go_num, by omega, CN.out, OB.out, B3.out, W3.out⟩
    case measure => simp [intOf]; omega
  have hxb : (x == -1) = false := beq_eq_false_iff_ne.2 hx1
  by_cases hg : b.length < k
  case pos =>
    have hg' : (b.length : Int) < (k : Int) := by omega
    have CN : Hid (Fe.applied a ks 6000 = none) := by unfold Hid; rw [PS.out.1, CX.out, if_neg hx1, if_pos hg]
    go_wp2
    go_ret2
    exact ⟨_, _, rfl, .inl ⟨CN.out, rfl, rfl⟩, by first | exact W3.out | (rw [HZ.out]; exact W3.out)⟩
  have hg' : ¬ (b.length : Int) < (k : Int) := by omega
  have CN : Hid (Fe.col ps 0 [] = Fe.col (ps.drop (k + 1)) (k + 1) (b ++ [UInt8.ofNat x.toNat])) := by unfold Hid; rw [CX.out, if_neg hx1, if_neg hg]
  have xw : IntKind.u8.wrap x = x := by rw [IntKind.wrap_u8]; omega
  have XN : Hid (x = (((UInt8.ofNat x.toNat).toNat : Nat) : Int)) := by
    unfold Hid
    rw [UInt8.toNat_ofNat']
    omega
  have SW : Hid (z + 1 ≤ wr.heap.size) := B3.out.lt
  go_wp2_with (at_builtin; refine app_byte _ rfl _ _ rfl (z + 1) _ b rfl (OB.out.alloc _) ⟨wr.heap.size, 0, none⟩ (UInt8.ofNat x.toNat) rfl (by rw [← XN.out]; simp) (by omega) (by have := SW.out; simp; omega) ?_)
  intro g cap w5 o5 g5 l5
  have O5 : Hid (Ob w5 (z + 1) (.slice (some ⟨g, 0, none⟩) (b.length + 1) cap) (b ++ [UInt8.ofNat x.toNat])) := o5
  have hob : ∀ j, (Value.slice bp b.length bc).ownBlock = some j → z + 1 ≤ j := fun j hj => (OB.out.block j hj).1
  have B5 : Hid (Below (z + 1) wr w5) := ((Below.refl _ _).alloc SW.out _).grown g5 (by have := SW.out; simp; omega) hob
  have K5 : Hid (Bk w5 z ps #[]) := B3.out.low B5.out (by omega)
  have W5 : Hid (Below z w w5) := W3.out.trans (B5.out.mono (by omega))
  clear o5 g5 l5 hob
  go_wp2
  go_roundw
  case rel => exact ⟨k + 1, b ++ [UInt8.ofNat x.toNat], by omega, by go_num, by rw [List.length_append]; simp; omega, CN.out, O5.out, K5.out, W5.out⟩
  case measure => simp [intOf]; omega
end Go.Proofs.YtifijfaefpdmpaaDoor

namespace Go.Proofs.YtifijfaefpdmpaaDoor
open Go.RowKit
set_option linter.unusedVariables false

/-- what is wrong ahead of all else. -/
def aFault (a : List UInt8) (l : List ChV) : Int := if 6000 < a.length then 4 else chk (Fe.isThere a) l
/-- what Apply tells. -/
def AppSays (a : List UInt8) (l : List ChV) (w w' : World) (v r : Value) : Prop :=
  (aFault a l ≠ 0 ∧ v = .slice none 0 0 ∧ Er r (aFault a l)) ∨ (aFault a l = 0 ∧ Fe.applied a l 6000 = none ∧ v = .slice none 0 0 ∧ Er r 3) ∨ (aFault a l = 0 ∧ ∃ b, Fe.applied a l 6000 = some b ∧ r = .nilIface ∧ Ob w' w.heap.size v b)
theorem chk_zero {ok : ChV → Bool} {l : List ChV} (h : chk ok l = 0) : l.length ≤ 6000 ∧ Fe.Fine ok (-1) l := by
  unfold chk at h
  split at h
  · cases h
  · exact ⟨by omega, Fe.fine_zero.1 h⟩
theorem chk_of {ok : ChV → Bool} {l : List ChV} (h1 : l.length ≤ 6000) (h2 : Fe.Fine ok (-1) l) : chk ok l = 0 := by
  unfold chk
  rw [if_neg (by omega)]
  exact Fe.fine_zero.2 h2
set_option maxRecDepth 100000 in
set_option maxHeartbeats 8000000 in
theorem Apply_any (va vl : Value) (a : List UInt8) (ks : List ChV) (w : World) (ha : By w va a) (hl : Chl w vl ks) :
    Calls Tryd.prog 9 #[va, vl] w fun e w' => ∃ v r, e = .returned (.tuple #[v, r]) ∧ AppSays a ks w w' v r ∧ Below w.heap.size w w' := by
  have A : Hid (By w va a) := ha
  have L : Hid (Chl w vl ks) := hl
  obtain ⟨pa, ca, rfl, a1, a2, -⟩ := ha
  obtain ⟨pl, cl, rfl, l1, l2, -⟩ := hl
  have a2' : ca ≤ 9223372036854775807 := by unfold maxLen at a2; omega
  clear a2
  have B0 : Hid (Below w.heap.size w (w.alloc (Obj.cells #[.slice pa a.length ca] 22))) := (Below.refl _ _).alloc (Nat.le_refl _) _
  have c0 : Hid ((w.alloc (Obj.cells #[.slice pa a.length ca] 22)).cell? ⟨w.heap.size, 0, none⟩ = some (.slice pa a.length ca) ∧ w.heap.size < (w.alloc (Obj.cells #[.slice pa a.length ca] 22)).heap.size) := ⟨by simp, by simp⟩
  by_cases h6 : 6000 < a.length
  · have h6' : (6000 : Int) < (a.length : Int) := by omega
    have E : Hid (aFault a ks = 4) := by unfold Hid aFault; rw [if_pos h6]
    clear h6
    go_enter Tryd.func9, Tryd.ntmps9
    go_wp2
    go_ret2
    exact ⟨_, _, rfl, .inl ⟨by rw [E.out]; decide, rfl, by rw [E.out]; exact Er.no (by decide)⟩, B0.out⟩
  have h6' : ¬ (6000 : Int) < (a.length : Int) := by omega
  have E : Hid (aFault a ks = chk (Fe.isThere a) ks) := by unfold Hid aFault; rw [if_neg h6]
  clear h6
  go_enter Tryd.func9, Tryd.ntmps9
  go_upto_region 4 with fail
  generalize w.alloc (Obj.cells #[.slice pa a.length ca] 22) = w0 at *
  obtain ⟨z, hz⟩ : ∃ z, w.heap.size = z := ⟨_, rfl⟩
  have HZ : Hid (w.heap.size = z) := hz
  rw [hz] at c0 ⊢
  have y0 := c0.out.1
  go_wp2_with fail
  refine (fcheck_any 16 (by intro args w; go_simp) _ #[.pointer (some ⟨z, 0, none⟩)] ks (Fe.isThere a) w0 (L.out.below B0.out) ?_).mono ?_
  · intro W hW c hc
    exact isThere_any _ a z c W ((A.out.below B0.out).below hW) (by rw [hW.cell c0.out.2]; exact c0.out.1) hc
  rintro e w1 ⟨r, rfl, hr, hb⟩
  have B1 : Hid (Below w.heap.size w w1) := B0.out.trans (hb.mono B0.out.size)
  have y1 : w1.cell? ⟨z, 0, none⟩ = some (.slice pa a.length ca) := by rw [hb.cell c0.out.2]; exact c0.out.1
  have HR : Hid (Er r (aFault a ks)) := by unfold Hid; rw [E.out]; exact hr
  obtain ⟨f, hf⟩ : ∃ f, aFault a ks = f := ⟨_, rfl⟩
  have HF : Hid (aFault a ks = f) := hf
  rw [hf] at HR
  clear hr hb hf y0
  rcases HR.out with ⟨rfl, rfl⟩ | ⟨hne, rfl⟩
  case inr =>
    have NE : Hid (f ≠ 0) := hne
    clear hne
    go_wp2
    go_ret2
    exact ⟨_, _, rfl, .inl ⟨by rw [HF.out]; exact NE.out, rfl, by rw [HF.out]; exact HR.out⟩, B1.out⟩
  obtain ⟨k1, k2⟩ := chk_zero (by rw [← E.out]; exact HF.out)
  have KF : Hid (ks.length ≤ 6000 ∧ ∀ c ∈ ks, ¬ Fe.Bad c) := ⟨k1, Fe.fine_mem k2⟩
  clear k1 k2
  go_wp2_with fail
  refine (changed_any _ _ a ks w1 (A.out.below B1.out) (L.out.below B1.out) KF.out.1 KF.out.2).mono ?_
  rintro e w2 ⟨v, r, rfl, hs, hb⟩
  have B2 : Hid (Below w.heap.size w w2) := B1.out.trans (hb.mono B1.out.size)
  have HS : Hid (ChgSays a ks w1 w2 v r) := hs
  clear hb hs
  go_wp2
  go_ret2
  refine ⟨_, _, rfl, .inr ?_, B2.out⟩
  rcases HS.out with ⟨h1, h2, h3⟩ | ⟨b, h1, h2, h3⟩
  · exact .inl ⟨HF.out, h1, h2, by rw [h3]; exact Er.no (by decide)⟩
  · exact .inr ⟨HF.out, b, h1, h2, Go.Joins.ownsRow_le h3 B1.out.size⟩
end Go.Proofs.YtifijfaefpdmpaaDoor

namespace Go.Proofs.YtifijfaefpdmpaaDoor
open Go Go.RowKit
set_option linter.unusedVariables false

section
variable {P : Program} {ops : Array Oper} {md : Region.Mode} {C : World → Prop} {Q : Exit → Act → World → Prop}

/-- the operation gives v in each of the worlds C, and turns nothing. -/
def YieldsS (P : Program) (ops : Array Oper) (C : World → Prop) (o : Oper) (v : Value) (a : Act) : Prop :=
  Region.wanted o (yielded ops a.tmps) = true ∧ ∀ W, C W → (execOp a.eval o).run P W = .ok (.value v) W
/-- the operation goes on, to a world of C. -/
def StepS (P : Program) (ops : Array Oper) (C : World → Prop) (o : Oper) (K : Act → World → Prop) (a : Act) (W : World) : Prop :=
  Region.wanted o (yielded ops a.tmps) = true ∧
   ((∃ v W', (execOp a.eval o).run P W = .ok (.value v) W' ∧ C W' ∧ K (a.put o.dst v) W') ∨ (∃ W', (execOp a.eval o).run P W = .ok .skip W' ∧ C W' ∧ K (a.put o.dst undef) W') ∨
    ∃ f args, (execOp a.eval o).run P W = .ok (.enter f args) W ∧ Calls P f args W (fun e w' => ∃ v, e = .returned v ∧ C w' ∧ K (a.put o.dst v) w'))
theorem StepS.mono {o : Oper} {K K' : Act → World → Prop} {a : Act} {W : World} (h : ∀ a W, C W → K a W → K' a W) (hh : StepS P ops C o K a W) : StepS P ops C o K' a W := by
  obtain ⟨h1, h2⟩ := hh
  refine ⟨h1, ?_⟩
  rcases h2 with ⟨v, W', e, hc, hk⟩ | ⟨W', e, hc, hk⟩ | ⟨f, args, e, hc⟩
  · exact .inl ⟨v, W', e, hc, h _ _ hc hk⟩
  · exact .inr (.inl ⟨W', e, hc, h _ _ hc hk⟩)
  · exact .inr (.inr ⟨f, args, e, hc.mono fun e w' ⟨v, he, hw, hk⟩ => ⟨v, he, hw, h _ _ hw hk⟩⟩)
theorem YieldsS.step {o : Oper} {v : Value} {K : Act → World → Prop} {a : Act} {W : World} (hy : YieldsS P ops C o v a) (hC : C W) (h : K (a.put o.dst v) W) : StepS P ops C o K a W :=
  ⟨hy.1, .inl ⟨v, W, hy.2 W hC, hC, h⟩⟩
theorem StepS.put {oi oj : Oper} {v : Value} (hap : oi.apart ops oj = true)
    (hsi : ∀ cs b, oi.op ≠ .select cs b) (hsj : ∀ cs b, oj.op ≠ .select cs b) {K : Act → World → Prop} {a : Act} {W : World}
    (hy : YieldsS P ops C oi v a) (h : StepS P ops C oj K (a.put oi.dst v) W) :
    StepS P ops C oj (fun a' w' => YieldsS P ops C oi v a' ∧ K (a'.put oi.dst v) w') a W := by
  obtain ⟨h1, h2, h3⟩ := Oper.apart_spec hap
  have keep : ∀ u, YieldsS P ops C oi v (a.put oj.dst u) := fun u => by
    unfold YieldsS at *
    rw [execOp_put oi hsi a oj.dst u h3, wanted_put oi a oj.dst u h3]
    exact hy
  unfold StepS at *
  rw [wanted_put oj a oi.dst v h1, execOp_put oj hsj a oi.dst v h1] at h
  obtain ⟨hw, h⟩ := h
  refine ⟨hw, ?_⟩
  rcases h with ⟨u, W', e, hc, hk⟩ | ⟨W', e, hc, hk⟩ | ⟨f, args, e, hc⟩
  · exact .inl ⟨u, W', e, hc, keep u, by rw [← Act.put_comm a v u h2]; exact hk⟩
  · exact .inr (.inl ⟨W', e, hc, keep _, by rw [← Act.put_comm a v _ h2]; exact hk⟩)
  · exact .inr (.inr ⟨f, args, e, hc.mono fun e w' ⟨u, he, hw, hk⟩ => ⟨u, he, hw, keep u, by rw [← Act.put_comm a v u h2]; exact hk⟩⟩)
def wpAnyS (P : Program) (md : Region.Mode) (ops : Array Oper) (C : World → Prop) (Q : Exit → Act → World → Prop) : Nat → Array Bool → Act → World → Prop
  | 0, listed, a, W => Region.ready md ops listed = [] ∧ Q .normal a W
  | f + 1, listed, a, W => Region.ready md ops listed ≠ [] ∧ ∀ i ∈ Region.ready md ops listed, ∃ o, ops[i]? = some o ∧ StepS P ops C o (wpAnyS P md ops C Q f (listed.setIfInBounds i true)) a W
theorem wpAny_of_S : ∀ (f : Nat) (listed : Array Bool) (a : Act) (W : World), wpAnyS P md ops C Q f listed a W → wpAny P md ops Q f listed a W
  | 0, listed, a, W, h => h
  | f + 1, listed, a, W, h => by
    refine ⟨fun h0 => absurd h0 h.1, fun i hi => ?_⟩
    obtain ⟨o, ho, hs⟩ := h.2 i hi
    unfold wpOp
    simp only [ho]
    obtain ⟨hw, hs⟩ := hs
    rw [if_pos hw]
    refine .inl ?_
    unfold Oper.wp
    rcases hs with ⟨v, W', e, -, hk⟩ | ⟨W', e, -, hk⟩ | ⟨g, args, e, hc⟩
    · rw [e]; exact wpAny_of_S f _ _ _ hk
    · rw [e]; exact wpAny_of_S f _ _ _ hk
    · rw [e]
      exact hc.mono fun e w' ⟨v, he, _, hk⟩ => by subst he; exact wpAny_of_S f _ _ _ hk
theorem wpAnyS_first {i : Nat} {oi : Oper} {v : Value} (hi : ops[i]? = some oi) (hsel : ∀ (j : Nat) (o : Oper) cs b, ops[j]? = some o → o.op ≠ .select cs b) :
    ∀ (f : Nat) (listed : Array Bool) (a : Act) (W : World),
      (∀ j oj, ops[j]? = some oj → j ≠ i → listed.getD j true = false → (∀ e ∈ oj.after, Region.binds md e = true → e.on ≠ i) → oi.apart ops oj = true) →
      i ∈ Region.ready md ops listed → YieldsS P ops C oi v a → C W →
      wpAnyS P md ops C Q f (listed.setIfInBounds i true) (a.put oi.dst v) W → wpAnyS P md ops C Q (f + 1) listed a W := by
  intro f
  induction f with
  | zero =>
    intro listed a W _ hr hy hC H
    refine ⟨fun h => (by rw [h] at hr; cases hr), fun j hj => ?_⟩
    by_cases hji : j = i
    · subst hji; exact ⟨oi, hi, hy.step hC H⟩
    · have := ready_mono hj hji
      rw [H.1] at this
      cases this
  | succ f ih =>
    intro listed a W hfree hr hy hC H
    refine ⟨fun h => (by rw [h] at hr; cases hr), fun j hj => ?_⟩
    by_cases hji : j = i
    · subst hji; exact ⟨oi, hi, hy.step hC H⟩
    · obtain ⟨o', ho', h1⟩ := H.2 j (ready_mono hj hji)
      obtain ⟨hjun, oj, hoj, hall⟩ := mem_ready.1 hj
      obtain rfl : o' = oj := Option.some.inj (ho'.symm.trans hoj)
      have hnot : ∀ e ∈ o'.after, Region.binds md e = true → e.on ≠ i := fun e he hb heq => by
        have h1 := hall e he hb
        have h0 := (mem_ready.1 hr).1
        rw [heq, getD_both h0] at h1
        cases h1
      have h2 := StepS.put (hfree j o' hoj hji hjun hnot) (fun cs b => hsel i oi cs b hi) (fun cs b => hsel j o' cs b hoj) hy h1
      have hfree' : ∀ k ok, ops[k]? = some ok → k ≠ i → (listed.setIfInBounds j true).getD k true = false →
          (∀ e ∈ ok.after, Region.binds md e = true → e.on ≠ i) → oi.apart ops ok = true := fun k ok hk hki hun hno => by
        refine hfree k ok hk hki ?_ hno
        by_cases hjk : j = k
        · subst hjk; exact hjun
        · rw [getD_set_ne true hjk] at hun; exact hun
      refine ⟨o', hoj, h2.mono fun a' W' hC' h3 => ih (listed.setIfInBounds j true) a' W' hfree' (ready_mono hr (Ne.symm hji)) h3.1 hC' ?_⟩
      rw [Array.setIfInBounds_comm _ _ hji]
      exact h3.2
/-- an order of one's own: those marked true read, and may come at any time; of the others each is the only one that may come. -/
def wpSched (P : Program) (ops : Array Oper) (C : World → Prop) (Q : Exit → Act → World → Prop) : List (Bool × Nat) → Act → World → Prop
  | [], a, W => Q .normal a W
  | (true, i) :: r, a, W => ∃ o v, ops[i]? = some o ∧ YieldsS P ops C o v a ∧ wpSched P ops C Q r (a.put o.dst v) W
  | (false, i) :: r, a, W => ∃ o, ops[i]? = some o ∧ StepS P ops C o (wpSched P ops C Q r) a W
def schedB (md : Region.Mode) (ops : Array Oper) : List (Bool × Nat) → Array Bool → Bool
  | [], listed => (Region.ready md ops listed).isEmpty
  | (true, i) :: r, listed => (Region.ready md ops listed).contains i && (Region.free md ops listed i && schedB md ops r (listed.setIfInBounds i true))
  | (false, i) :: r, listed => decide (Region.ready md ops listed = [i]) && schedB md ops r (listed.setIfInBounds i true)
theorem wpAnyS_of_sched (hsel : Region.noSelect ops = true) : ∀ (s : List (Bool × Nat)) (listed : Array Bool) (a : Act) (W : World), schedB md ops s listed = true → C W → wpSched P ops C Q s a W → wpAnyS P md ops C Q s.length listed a W
  | [], listed, a, W, hB, hC, h => ⟨by simpa [schedB] using hB, h⟩
  | (true, i) :: r, listed, a, W, hB, hC, h => by
    simp only [schedB, Bool.and_eq_true] at hB
    obtain ⟨hr, hf, hB⟩ := hB
    obtain ⟨o, v, ho, hy, hk⟩ := h
    have hr' : i ∈ Region.ready md ops listed := by simpa using hr
    exact wpAnyS_first ho (Region.noSelect_spec hsel) r.length listed a W (Region.free_spec ho hf) hr' hy hC (wpAnyS_of_sched hsel r _ _ _ hB hC hk)
  | (false, i) :: r, listed, a, W, hB, hC, h => by
    simp only [schedB, Bool.and_eq_true, decide_eq_true_eq] at hB
    obtain ⟨hr, hB⟩ := hB
    obtain ⟨o, ho, hs⟩ := h
    refine ⟨fun h => (by rw [hr] at h; cases h), fun j hj => ?_⟩
    rw [hr] at hj
    obtain rfl : j = i := by simpa using hj
    exact ⟨o, ho, hs.mono fun a' W' hC' hk => wpAnyS_of_sched hsel r _ _ _ hB hC' hk⟩
theorem wp_region_sched {id : Nat} {a : Act} {w : World} (s : List (Bool × Nat)) (C : World → Prop) (hm : P.follows .mixedOrders = true) (hs : Region.noSelect ops = true) (hl : s.length = ops.size) (hB : schedB .any ops s (Array.replicate ops.size false) = true)
    (hC : C { w with drawn := w.drawn + 1 }) (h : wpSched P ops C Q s a { w with drawn := w.drawn + 1 }) : (Code.region id ops true).wp P Q a w := by
  refine wp_region_any hm ?_
  rw [← hl]
  exact wpAny_of_S _ _ _ _ (wpAnyS_of_sched hs s _ a _ (by rw [hl]; exact hB) hC h)
theorem sched_read {i : Nat} {r : List (Bool × Nat)} {o : Oper} {a : Act} {W : World} (ho : ops[i]? = some o) (v : Value) (hw : Region.wanted o (yielded ops a.tmps) = true) (hr : ∀ W, C W → (execOp a.eval o).run P W = .ok (.value v) W) (h : wpSched P ops C Q r (a.put o.dst v) W) : wpSched P ops C Q ((true, i) :: r) a W :=
  ⟨o, v, ho, ⟨hw, hr⟩, h⟩
theorem sched_call {i : Nat} {r : List (Bool × Nat)} {o : Oper} {a : Act} {W : World} (ho : ops[i]? = some o) (f : FuncId) (args : Array Value) (hw : Region.wanted o (yielded ops a.tmps) = true) (hr : (execOp a.eval o).run P W = .ok (.enter f args) W)
    (hc : Calls P f args W (fun e w' => ∃ v, e = .returned v ∧ C w' ∧ wpSched P ops C Q r (a.put o.dst v) w')) : wpSched P ops C Q ((false, i) :: r) a W :=
  ⟨o, ho, hw, .inr (.inr ⟨f, args, hr, hc⟩)⟩
theorem sched_value {i : Nat} {r : List (Bool × Nat)} {o : Oper} {a : Act} {W : World} (ho : ops[i]? = some o) (v : Value) (W' : World) (hw : Region.wanted o (yielded ops a.tmps) = true) (hr : (execOp a.eval o).run P W = .ok (.value v) W') (hC : C W') (h : wpSched P ops C Q r (a.put o.dst v) W') : wpSched P ops C Q ((false, i) :: r) a W :=
  ⟨o, ho, hw, .inl ⟨v, W', hr, hC, h⟩⟩
theorem sched_skip {i : Nat} {r : List (Bool × Nat)} {o : Oper} {a : Act} {W : World} (ho : ops[i]? = some o) (W' : World) (hw : Region.wanted o (yielded ops a.tmps) = true) (hr : (execOp a.eval o).run P W = .ok .skip W') (hC : C W') (h : wpSched P ops C Q r (a.put o.dst undef) W') : wpSched P ops C Q ((false, i) :: r) a W :=
  ⟨o, ho, hw, .inr (.inl ⟨W', hr, hC, h⟩)⟩
end
end Go.Proofs.YtifijfaefpdmpaaDoor

namespace Go.Proofs.YtifijfaefpdmpaaDoor
open Go Go.RowKit
set_option linter.unusedVariables false

section
variable {P : Program} {ops : Array Oper} {md : Region.Mode} {C : World → Prop} {Q : Exit → Act → World → Prop} {L : Array Bool → Act → World → Prop}

def wpAnyT (P : Program) (md : Region.Mode) (ops : Array Oper) (C : World → Prop) (L : Array Bool → Act → World → Prop) : Nat → Array Bool → Act → World → Prop
  | 0, listed, a, W => L listed a W
  | f + 1, listed, a, W => Region.ready md ops listed ≠ [] ∧ ∀ i ∈ Region.ready md ops listed, ∃ o, ops[i]? = some o ∧ StepS P ops C o (wpAnyT P md ops C L f (listed.setIfInBounds i true)) a W
theorem wpAny_of_T {g : Nat} (hL : ∀ listed a W, L listed a W → wpAny P md ops Q g listed a W) : ∀ (f : Nat) (listed : Array Bool) (a : Act) (W : World), wpAnyT P md ops C L f listed a W → wpAny P md ops Q (f + g) listed a W
  | 0, listed, a, W, h => by rw [Nat.zero_add]; exact hL _ _ _ h
  | f + 1, listed, a, W, h => by
    rw [show f + 1 + g = (f + g) + 1 by omega]
    refine ⟨fun h0 => absurd h0 h.1, fun i hi => ?_⟩
    obtain ⟨o, ho, hs⟩ := h.2 i hi
    unfold wpOp
    simp only [ho]
    obtain ⟨hw, hs⟩ := hs
    rw [if_pos hw]
    refine .inl ?_
    unfold Oper.wp
    rcases hs with ⟨v, W', e, -, hk⟩ | ⟨W', e, -, hk⟩ | ⟨k, args, e, hc⟩
    · rw [e]; exact wpAny_of_T hL f _ _ _ hk
    · rw [e]; exact wpAny_of_T hL f _ _ _ hk
    · rw [e]
      exact hc.mono fun e w' ⟨v, he, _, hk⟩ => by subst he; exact wpAny_of_T hL f _ _ _ hk
theorem unset_of {l H : Array Bool} {i : Nat} (h0 : l.getD i true = false) (e : l.setIfInBounds i true = H) : l = H.setIfInBounds i false := by
  subst e
  apply Array.ext_getElem?
  intro k
  by_cases hk : i = k
  · subst hk
    rcases Nat.lt_or_ge i l.size with hl | hl
    · simp [Array.getD, hl] at h0
      simp [hl, h0]
    · simp [Array.getD, Nat.not_lt.2 hl] at h0
  · simp [hk]
/-- what is listed has all that it waits for. -/
def Clos (md : Region.Mode) (ops : Array Oper) (listed : Array Bool) : Prop := ∀ (j : Nat) (oj : Oper), ops[j]? = some oj → listed.getD j false = true → ∀ e ∈ oj.after, Region.binds md e = true → listed.getD e.on false = true
theorem Clos.set {i : Nat} {listed : Array Bool} (inv : Clos md ops listed) (hi : i ∈ Region.ready md ops listed) : Clos md ops (listed.setIfInBounds i true) := by
  obtain ⟨_, oi, hoi, hall⟩ := mem_ready.1 hi
  intro j oj hj hl e he hb
  by_cases hij : i = j
  · subst hij
    have : oj = oi := Option.some.inj (hj.symm.trans hoi)
    subst this
    exact getD_set_true (hall e he hb)
  · rw [getD_set_ne false hij] at hl
    exact getD_set_true (inv j oj hj hl e he hb)
/-- one that is listed waits for i. -/
def waits (md : Region.Mode) (ops : Array Oper) (H0 : Array Bool) (i : Nat) : Bool := (List.range ops.size).any fun j => H0.getD j false && (decide (j ≠ i) && match ops[j]? with | some o => o.after.any fun e => Region.binds md e && decide (e.on = i) | none => false)
theorem waits_spec {H0 : Array Bool} {i : Nat} (h : waits md ops H0 i = true) : ∃ j o, ops[j]? = some o ∧ j ≠ i ∧ H0.getD j false = true ∧ ∃ e ∈ o.after, Region.binds md e = true ∧ e.on = i := by
  unfold waits at h
  obtain ⟨j, -, hj⟩ := List.any_eq_true.1 h
  simp only [Bool.and_eq_true, decide_eq_true_eq] at hj
  obtain ⟨h1, h2, h3⟩ := hj
  cases ho : ops[j]? with
  | none => rw [ho] at h3; cases h3
  | some o =>
    rw [ho] at h3
    obtain ⟨k, hk, he⟩ := Array.any_eq_true.1 h3
    simp only [Bool.and_eq_true, decide_eq_true_eq] at he
    exact ⟨j, o, ho, h2, h1, o.after[k], Array.getElem_mem hk, he.1, he.2⟩
theorem wpAnyT_first {i : Nat} {oi : Oper} {v : Value} {H0 : Array Bool} (hi : ops[i]? = some oi) (hsel : ∀ (j : Nat) (o : Oper) cs b, ops[j]? = some o → o.op ≠ .select cs b)
    (hH : waits md ops H0 i = true ∨ Region.ready md ops (H0.setIfInBounds i false) = [i]) (hLH : ∀ listed a W, L listed a W → listed = H0) :
    ∀ (f : Nat) (listed : Array Bool) (a : Act) (W : World), Clos md ops listed →
      (∀ j oj, ops[j]? = some oj → j ≠ i → listed.getD j true = false → (∀ e ∈ oj.after, Region.binds md e = true → e.on ≠ i) → oi.apart ops oj = true) →
      i ∈ Region.ready md ops listed → YieldsS P ops C oi v a → C W →
      wpAnyT P md ops C L f (listed.setIfInBounds i true) (a.put oi.dst v) W → wpAnyT P md ops C L (f + 1) listed a W := by
  intro f
  induction f with
  | zero =>
    intro listed a W inv _ hr hy hC H
    refine ⟨fun h => (by rw [h] at hr; cases hr), fun j hj => ?_⟩
    by_cases hji : j = i
    · subst hji; exact ⟨oi, hi, hy.step hC H⟩
    · rcases hH with hH | hH
      · obtain ⟨k, ok, hk, hki, hkl, e, he, hb, heq⟩ := waits_spec hH
        rw [← hLH _ _ _ H, getD_set_ne false (Ne.symm hki)] at hkl
        have h1 := inv k ok hk hkl e he hb
        rw [heq, getD_both (mem_ready.1 hr).1] at h1
        cases h1
      · have e := unset_of (mem_ready.1 hr).1 (hLH _ _ _ H)
        rw [e, hH] at hj
        exact absurd (by simpa using hj) hji
  | succ f ih =>
    intro listed a W inv hfree hr hy hC H
    refine ⟨fun h => (by rw [h] at hr; cases hr), fun j hj => ?_⟩
    by_cases hji : j = i
    · subst hji; exact ⟨oi, hi, hy.step hC H⟩
    · obtain ⟨o', ho', h1⟩ := H.2 j (ready_mono hj hji)
      obtain ⟨hjun, oj, hoj, hall⟩ := mem_ready.1 hj
      obtain rfl : o' = oj := Option.some.inj (ho'.symm.trans hoj)
      have hnot : ∀ e ∈ o'.after, Region.binds md e = true → e.on ≠ i := fun e he hb heq => by
        have h1 := hall e he hb
        have h0 := (mem_ready.1 hr).1
        rw [heq, getD_both h0] at h1
        cases h1
      have h2 := StepS.put (hfree j o' hoj hji hjun hnot) (fun cs b => hsel i oi cs b hi) (fun cs b => hsel j o' cs b hoj) hy h1
      have hfree' : ∀ k ok, ops[k]? = some ok → k ≠ i → (listed.setIfInBounds j true).getD k true = false →
          (∀ e ∈ ok.after, Region.binds md e = true → e.on ≠ i) → oi.apart ops ok = true := fun k ok hk hki hun hno => by
        refine hfree k ok hk hki ?_ hno
        by_cases hjk : j = k
        · subst hjk; exact hjun
        · rw [getD_set_ne true hjk] at hun; exact hun
      refine ⟨o', hoj, h2.mono fun a' W' hC' h3 => ih (listed.setIfInBounds j true) a' W' (inv.set hj) hfree' (ready_mono hr (Ne.symm hji)) h3.1 hC' ?_⟩
      rw [Array.setIfInBounds_comm _ _ hji]
      exact h3.2
/-- the head, in an order of one's own; K behind it. -/
def wpHeadT (P : Program) (ops : Array Oper) (C : World → Prop) (K : Act → World → Prop) : List (Bool × Nat) → Act → World → Prop
  | [], a, W => K a W
  | (true, i) :: r, a, W => ∃ o v, ops[i]? = some o ∧ YieldsS P ops C o v a ∧ wpHeadT P ops C K r (a.put o.dst v) W
  | (false, i) :: r, a, W => ∃ o, ops[i]? = some o ∧ StepS P ops C o (wpHeadT P ops C K r) a W
def headB (md : Region.Mode) (ops : Array Oper) (H0 : Array Bool) : List (Bool × Nat) → Array Bool → Bool
  | [], listed => decide (listed = H0)
  | (true, i) :: r, listed => (Region.ready md ops listed).contains i && (Region.free md ops listed i && ((waits md ops H0 i || decide (Region.ready md ops (H0.setIfInBounds i false) = [i])) && headB md ops H0 r (listed.setIfInBounds i true)))
  | (false, i) :: r, listed => decide (Region.ready md ops listed = [i]) && headB md ops H0 r (listed.setIfInBounds i true)
theorem wpAnyT_of_head {K : Act → World → Prop} {H0 : Array Bool} (hsel : Region.noSelect ops = true) : ∀ (s : List (Bool × Nat)) (listed : Array Bool) (a : Act) (W : World), Clos md ops listed → headB md ops H0 s listed = true → C W → wpHeadT P ops C K s a W → wpAnyT P md ops C (fun l a W => l = H0 ∧ K a W) s.length listed a W
  | [], listed, a, W, inv, hB, hC, h => ⟨of_decide_eq_true hB, h⟩
  | (true, i) :: r, listed, a, W, inv, hB, hC, h => by
    simp only [headB, Bool.and_eq_true, Bool.or_eq_true, decide_eq_true_eq] at hB
    obtain ⟨hr, hf, hH, hB⟩ := hB
    obtain ⟨o, v, ho, hy, hk⟩ := h
    have hr' : i ∈ Region.ready md ops listed := by simpa using hr
    exact wpAnyT_first ho (Region.noSelect_spec hsel) hH (fun _ _ _ h => h.1) r.length listed a W inv (Region.free_spec ho hf) hr' hy hC (wpAnyT_of_head hsel r _ _ _ (inv.set hr') hB hC hk)
  | (false, i) :: r, listed, a, W, inv, hB, hC, h => by
    simp only [headB, Bool.and_eq_true, decide_eq_true_eq] at hB
    obtain ⟨hr, hB⟩ := hB
    obtain ⟨o, ho, hs⟩ := h
    refine ⟨fun h => (by rw [hr] at h; cases h), fun j hj => ?_⟩
    have hr' : i ∈ Region.ready md ops listed := by rw [hr]; simp
    rw [hr] at hj
    obtain rfl : j = i := by simpa using hj
    exact ⟨o, ho, hs.mono fun a' W' hC' hk => wpAnyT_of_head hsel r _ _ _ (inv.set hr') hB hC' hk⟩
def listedBy (n : Nat) (s : List (Bool × Nat)) : Array Bool := s.foldl (fun l p => l.setIfInBounds p.2 true) (Array.replicate n false)
/-- the region: its head s, in the worlds C; its tail t. -/
theorem wp_region_two {id : Nat} {a : Act} {w : World} (s t : List (Bool × Nat)) (C : World → Prop) (hm : P.follows .mixedOrders = true) (hs : Region.noSelect ops = true) (hl : s.length + t.length = ops.size) (hB : headB .any ops (listedBy ops.size s) s (Array.replicate ops.size false) = true)
    (hT : schedB .any ops t (listedBy ops.size s) = true)
    (hC : C { w with drawn := w.drawn + 1 }) (h : wpHeadT P ops C (wpSched P ops (fun _ => True) Q t) s a { w with drawn := w.drawn + 1 }) : (Code.region id ops true).wp P Q a w := by
  refine wp_region_any hm ?_
  rw [← hl]
  refine wpAny_of_T (g := t.length) (fun listed a W hh => ?_) _ _ _ _ (wpAnyT_of_head (H0 := listedBy ops.size s) hs s _ a _ (fun j oj _ hj => by rw [getD_replicate_false] at hj; cases hj) (by rw [hl]; exact hB) hC h)
  obtain ⟨rfl, hk⟩ := hh
  exact wpAny_of_S _ _ _ _ (wpAnyS_of_sched hs t _ a W hT trivial hk)
theorem headT_read {K : Act → World → Prop} {i : Nat} {r : List (Bool × Nat)} {o : Oper} {a : Act} {W : World} (ho : ops[i]? = some o) (v : Value) (hw : Region.wanted o (yielded ops a.tmps) = true) (hr : ∀ W, C W → (execOp a.eval o).run P W = .ok (.value v) W) (h : wpHeadT P ops C K r (a.put o.dst v) W) : wpHeadT P ops C K ((true, i) :: r) a W :=
  ⟨o, v, ho, ⟨hw, hr⟩, h⟩
theorem headT_call {K : Act → World → Prop} {i : Nat} {r : List (Bool × Nat)} {o : Oper} {a : Act} {W : World} (ho : ops[i]? = some o) (f : FuncId) (args : Array Value) (hw : Region.wanted o (yielded ops a.tmps) = true) (hr : (execOp a.eval o).run P W = .ok (.enter f args) W)
    (hc : Calls P f args W (fun e w' => ∃ v, e = .returned v ∧ C w' ∧ wpHeadT P ops C K r (a.put o.dst v) w')) : wpHeadT P ops C K ((false, i) :: r) a W :=
  ⟨o, ho, hw, .inr (.inr ⟨f, args, hr, hc⟩)⟩
theorem exec_append {o : Oper} {a : Act} {w w' : World} {v' : Value} (s x : Operand) (t tx : TypeId) (ho : o.op = .call { callee := .builtin .append, args := #[s, x], argTypes := #[t, tx] }) (v xv : Value) (hs : a.eval s = v) (hx : a.eval x = xv)
    (hr : (Builtin.append_ #[t, tx] o.type #[v, xv]).run P w = .ok v' w') : (execOp a.eval o).run P w = .ok (.value v') w' := by
  unfold execOp
  simp only [ho, resolve, invoke, builtin, Sem.run_bind, Sem.run_pure, Result.andThen_ok, List.map_toArray, List.map_cons, List.map_nil, hs, hx, hr]
theorem headT_value {K : Act → World → Prop} {i : Nat} {r : List (Bool × Nat)} {o : Oper} {a : Act} {W : World} (ho : ops[i]? = some o) (v : Value) (W' : World) (hw : Region.wanted o (yielded ops a.tmps) = true) (hr : (execOp a.eval o).run P W = .ok (.value v) W') (hC : C W') (h : wpHeadT P ops C K r (a.put o.dst v) W') : wpHeadT P ops C K ((false, i) :: r) a W :=
  ⟨o, ho, hw, .inl ⟨v, W', hr, hC, h⟩⟩
end
end Go.Proofs.YtifijfaefpdmpaaDoor

namespace Go.Proofs.YtifijfaefpdmpaaDoor
open Go.RowKit
set_option linter.unusedVariables false

namespace Fe
theorem puts_far : ∀ {l : List ChV} {ps : List Int} {m : Nat}, (∀ c ∈ l, 0 ≤ c.at_ ∧ c.at_ < (m : Int)) → (puts ps l)[m]? = ps[m]?
  | [], ps, m, _ => rfl
  | c :: l, ps, m, h => by
    show (puts (ps.set c.at_.toNat c.new) l)[m]? = _
    rw [puts_far (fun d hd => h d (by simp [hd])), List.getElem?_set_ne]
    have := h c (by simp)
    omega
end Fe
/-- what the reference's Apply tells. -/
def RAppSays (a : List UInt8) (l : List ChV) (w w' : World) (v r : Value) : Prop :=
  (aFault a l ≠ 0 ∧ v = .slice none 0 0 ∧ r = .int .i64 (aFault a l)) ∨ (aFault a l = 0 ∧ Fe.applied a l 6000 = none ∧ v = .slice none 0 0 ∧ r = .int .i64 3) ∨ (aFault a l = 0 ∧ ∃ b, Fe.applied a l 6000 = some b ∧ r = .int .i64 0 ∧ Ob w' w.heap.size v b)
set_option maxRecDepth 100000 in
set_option maxHeartbeats 32000000 in
theorem rApply_any (va vl : Value) (a : List UInt8) (ks : List ChV) (w : World) (ha : By w va a) (hl : Chl w vl ks) :
    Calls Tryd.prog 8 #[va, vl] w fun e w' => ∃ v r, e = .returned (.tuple #[v, r]) ∧ RAppSays a ks w w' v r ∧ Below w.heap.size w w' := by
  have A : Hid (By w va a) := ha
  have L : Hid (Chl w vl ks) := hl
  obtain ⟨pa, ca, rfl, a1, a2, -⟩ := ha
  obtain ⟨pl, cl, rfl, l1, l2, -⟩ := hl
  have a2' : ca ≤ 9223372036854775807 := by unfold maxLen at a2; omega
  clear a2
  by_cases h6 : 6000 < a.length
  · have h6' : (6000 : Int) < (a.length : Int) := by omega
    have E : Hid (aFault a ks = 4) := by unfold Hid aFault; rw [if_pos h6]
    clear h6
    go_enter Tryd.func8, Tryd.ntmps8
    go_wp2
    go_ret2
    exact ⟨_, _, rfl, .inl ⟨by rw [E.out]; decide, rfl, by rw [E.out]; rfl⟩, Below.refl _ _⟩
  have h6' : ¬ (6000 : Int) < (a.length : Int) := by omega
  by_cases k6 : 6000 < ks.length
  · have k6' : (6000 : Int) < (ks.length : Int) := by omega
    have E : Hid (aFault a ks = 4) := by unfold Hid aFault chk; rw [if_neg h6, if_pos k6]
    clear h6 k6
    go_enter Tryd.func8, Tryd.ntmps8
    go_wp2
    go_ret2
    exact ⟨_, _, rfl, .inl ⟨by rw [E.out]; decide, rfl, by rw [E.out]; rfl⟩, Below.refl _ _⟩
  have k6' : ¬ (6000 : Int) < (ks.length : Int) := by omega
  have kl6 : ks.length ≤ 6000 := by omega
  have E : Hid (aFault a ks = Fe.cfault (Fe.isThere a) (-1) ks) := by unfold Hid aFault chk; rw [if_neg h6, if_neg k6]
  clear h6 k6
  obtain ⟨w1, hm, hbk, hbb, hs⟩ := makeI 6000 w (by omega)
  obtain ⟨N, hN⟩ : ∃ N : Nat, N = 6000 := ⟨_, rfl⟩
  have HN : Hid (N = 6000) := hN
  have hN' : (N : Int) = 6000 := by omega
  rw [← hN] at hbk
  have BK : Hid (Bk w1 w.heap.size (List.replicate N 0) #[]) := hbk
  have BB : Hid (Below w.heap.size w w1) := hbb
  obtain ⟨z, hz⟩ : ∃ z, w.heap.size = z := ⟨_, rfl⟩
  have HZ : Hid (w.heap.size = z) := hz
  rw [hz] at BK hm
  have hm' : (Instr.makeSlice 44 (.int .i64 6000) (.int .i64 6000)).run Tryd.prog w = .ok (.slice (some ⟨z, 0, none⟩) 6000 6000) w1 := hm
  clear hbk hbb hs hm hN
  go_enter Tryd.func8, Tryd.ntmps8
  go_wp2_with fail
  go_loopw [7] (fun j W => ∃ n : Nat, n ≤ N ∧ j = .int .i64 (n : Nat) ∧ Bk W z ((Fe.pl a N).take n ++ List.replicate (N - n) 0) #[] ∧ Below z w W) (fun j _ => N - (intOf j).toNat)
  case atStart => exact ⟨0, Nat.zero_le _, rfl, by simpa using BK.out, by rw [← HZ.out]; exact BB.out⟩
  case round =>
  obtain ⟨n, hn, rfl, hb, hB⟩ := hrel
  have B1 : Hid (Bk wr z ((Fe.pl a N).take n ++ List.replicate (N - n) 0) #[]) := hb
  have W1 : Hid (Below z w wr) := hB
  clear hb hB
  by_cases hne : n = N
  case neg =>
    have hnl : n < N := by omega
    have hnl' : (n : Int) < 6000 := by omega
    go_wp2_with fail
    refine (rat_any _ a n _ (A.out.below (by rw [HZ.out]; exact W1.out))).mono ?_
    rintro e w2 ⟨rfl, rfl⟩
    have tz := B1.out.thaw n
    have cz := B1.out.cell (i := n) (d := 0) (by
      have l9 : ((Fe.pl a N).take n).length = n := by rw [List.length_take, Fe.pl_len]; omega
      rw [List.getElem?_append_right (by omega), l9, Nat.sub_self, List.getElem?_replicate, if_pos (by omega)])
    have SZ : Hid (Bk (w2.setCell ⟨z, n, none⟩ (.int .i64 (Fe.bat a n))) z ((Fe.pl a N).take (n + 1) ++ List.replicate (N - (n + 1)) 0) #[]) := by
      have h9 := B1.out.set n (Fe.bat a n) (by simp [Fe.pl_len]; omega)
      rw [Fe.pl_front hnl] at h9
      exact h9
    have WZ : Hid (Below z w (w2.setCell ⟨z, n, none⟩ (.int .i64 (Fe.bat a n)))) := W1.out.setCell (Nat.le_refl _) _
    go_wp2
    go_roundw
    case rel => exact ⟨n + 1, by omega, by go_num, SZ.out, WZ.out⟩
    case measure => simp [intOf]; omega
  have BP : Hid (Bk wr z (Fe.pl a N) #[]) := by
    have := B1.out
    rw [hne, Nat.sub_self, List.replicate_zero, List.append_nil, List.take_of_length_le (by rw [Fe.pl_len]; exact Nat.le_refl _)] at this
    exact this
  have hnn : ¬ (n : Int) < 6000 := by omega
  clear B1 BK hm'
  go_wp2_with fail
  go_loopw [8] (fun j W => ∃ i : Nat, i ≤ ks.length ∧ j = .int .i64 (i : Nat) ∧ Fe.cfault (Fe.isThere a) (-1) ks = Fe.cfault (Fe.isThere a) (Fe.ahead ks i) (ks.drop i) ∧ (∀ c ∈ ks.take i, ¬ Fe.Bad c ∧ c.at_ ≤ Fe.ahead ks i) ∧ Bk W z (Fe.puts (Fe.pl a N) (ks.take i)) #[] ∧ Below z w W) (fun j _ => ks.length - (intOf j).toNat)
  case atStart => exact ⟨0, Nat.zero_le _, rfl, by simp [Fe.ahead], by simp, by simpa [Fe.puts] using BP.out, W1.out⟩
  case round =>
  obtain ⟨i, hi, rfl, hcf, hal, hb, hB⟩ := hrel
  have CF : Hid (Fe.cfault (Fe.isThere a) (-1) ks = Fe.cfault (Fe.isThere a) (Fe.ahead ks i) (ks.drop i)) := hcf
  have AL : Hid (∀ c ∈ ks.take i, ¬ Fe.Bad c ∧ c.at_ ≤ Fe.ahead ks i) := hal
  have B1 : Hid (Bk wr z (Fe.puts (Fe.pl a N) (ks.take i)) #[]) := hb
  have W2 : Hid (Below z w wr) := hB
  clear hb hB BP hcf hal
  by_cases hie : i = ks.length
  case neg =>
    have hil : i < ks.length := by omega
    have hil' : (i : Int) < (ks.length : Int) := by omega
    obtain ⟨c, hc⟩ : ∃ c, ks[i]? = some c := ⟨_, List.getElem?_eq_getElem hil⟩
    have HC : Hid (ks[i]? = some c) := hc
    have DR : Hid (ks.drop i = c :: ks.drop (i + 1)) := by
      unfold Hid
      rw [List.drop_eq_getElem_cons hil]
      congr 1
      rw [List.getElem?_eq_getElem hil] at hc
      injection hc
    have EC : Hid (aFault a ks = if Fe.Bad c then 1 else if c.at_ ≤ Fe.ahead ks i then 5 else if Fe.isThere a c = true then Fe.cfault (Fe.isThere a) c.at_ (ks.drop (i + 1)) else 7) := by
      unfold Hid
      rw [E.out, CF.out, DR.out]
      rfl
    have PN : Hid (Fe.puts (Fe.pl a N) (ks.take (i + 1)) = (Fe.puts (Fe.pl a N) (ks.take i)).set c.at_.toNat c.new) := by
      unfold Hid
      rw [List.take_add_one, hc]
      exact Fe.puts_snoc _ _ _
    have TK : Hid (ks.take (i + 1) = ks.take i ++ [c]) := by
      unfold Hid
      rw [List.take_add_one, hc]
      rfl
    have AH : Hid (Fe.ahead ks (i + 1) = c.at_) := by
      unfold Hid
      show (match ks[i]? with | some c => c.at_ | none => -1) = _
      rw [hc]
    clear hc
    go_wp2_with fail
    refine (rchange_any _ ks i c wr (L.out.below (by rw [HZ.out]; exact W2.out)) HC.out (by omega)).mono ?_
    rintro e w2 ⟨rfl, hb⟩
    have W3 : Hid (Below z w w2) := W2.out.trans (hb.mono (by rw [← HZ.out]; exact W2.out.size))
    have B2 : Hid (Bk w2 z (Fe.puts (Fe.pl a N) (ks.take i)) #[]) := B1.out.below hb
    clear hb
    obtain ⟨ch, hch⟩ : ∃ n, Fe.rch (Fe.ahead ks i) c = n := ⟨_, rfl⟩
    have CH : Hid (Fe.rch (Fe.ahead ks i) c = ch) := hch
    rw [hch]
    clear hch
    by_cases hc0 : ch = 0
    case neg =>
      have hcb : (ch == 0) = false := beq_eq_false_iff_ne.2 hc0
      have EF : Hid (aFault a ks = ch ∧ ch ≠ 0) := by
        refine ⟨?_, hc0⟩
        rw [EC.out, ← CH.out]
        have h9 := CH.out
        unfold Fe.rch at h9 ⊢
        by_cases b1 : Fe.Bad c
        · rw [if_pos b1, if_pos b1]
        · rw [if_neg b1] at h9 ⊢
          rw [if_neg b1]
          by_cases b2 : c.at_ ≤ Fe.ahead ks i
          · rw [if_pos b2, if_pos b2]
          · rw [if_neg b2] at h9
            exact absurd h9.symm hc0
      go_wp2
      go_ret2
      exact ⟨_, _, rfl, .inl ⟨by rw [EF.out.1]; exact EF.out.2, rfl, by rw [EF.out.1]; rfl⟩, by first | exact W3.out | (rw [HZ.out]; exact W3.out)⟩
    have NB : Hid (¬ Fe.Bad c ∧ ¬ c.at_ ≤ Fe.ahead ks i) := by
      have h9 := CH.out
      rw [hc0] at h9
      unfold Fe.rch at h9
      by_cases b1 : Fe.Bad c
      · rw [if_pos b1] at h9; cases h9
      · rw [if_neg b1] at h9
        by_cases b2 : c.at_ ≤ Fe.ahead ks i
        · rw [if_pos b2] at h9; cases h9
        · exact ⟨b1, b2⟩
    subst hc0
    obtain ⟨a', c', e', -, -, hq⟩ := L.out.below (by rw [HZ.out]; exact W3.out)
    injection e' with e1 e2 e3
    subst e1 e3
    obtain ⟨x, rfl, xlt, hcc⟩ := hq (by rintro rfl; simp at hil)
    have RD : Hid (Chc w2 (x.add (i * 3)) c ∧ (x.add (i * 3)).block < w2.heap.size) := ⟨hcc i c HC.out, by rw [add_block]; exact xlt⟩
    clear hq hcc xlt e2
    obtain ⟨cc, co, cn⟩ := c
    have nb := NB.out.1
    unfold Fe.Bad at nb
    simp only at nb PN AH
    obtain ⟨p, rfl⟩ : ∃ p : Nat, cc = (p : Nat) := ⟨cc.toNat, by omega⟩
    have hp6 : (p : Int) < 6000 := by omega
    have hpN : p < N := by omega
    have PV : Hid ((Fe.puts (Fe.pl a N) (ks.take i))[p]? = some (Fe.bat a p)) := by
      unfold Hid
      rw [Fe.puts_far (fun d hd => ?_), Fe.pl_get hpN]
      have h9 := AL.out d hd
      have h8 := h9.1
      have h7 := NB.out.2
      unfold Fe.Bad at h8
      try simp only at h7
      omega
    have IT : Hid (Fe.isThere a ⟨(p : Nat), co, cn⟩ = (Fe.bat a p == co)) := by
      unfold Hid Fe.isThere
      simp only [Int.toNat_natCast]
    obtain ⟨y, hy⟩ : ∃ y, Fe.bat a p = y := ⟨_, rfl⟩
    rw [hy] at PV IT
    rw [Int.toNat_natCast] at PN
    have BQ : Hid (∀ q, Bk (w2.drewN q) z (Fe.puts (Fe.pl a N) (ks.take i)) #[]) := fun q => B2.out
    have WQ : Hid (∀ q, Below z w (w2.drewN q)) := fun q => ⟨W3.out.os, W3.out.tape, W3.out.output, W3.out.size, W3.out.block⟩
    have RQ : Hid (∀ q, Chc (w2.drewN q) (x.add (i * 3)) ⟨(p : Nat), co, cn⟩ ∧ (x.add (i * 3)).block < (w2.drewN q).heap.size) := fun q => ⟨⟨RD.out.1.c0, RD.out.1.c1, RD.out.1.c2⟩, RD.out.2⟩
    have czp := B2.out.cell PV.out
    obtain ⟨d0, d1, d2⟩ := RD.out.1
    simp only at d0 d1 d2
    clear nb hy
    go_upto_region 14 with fail
    by_cases hyo : y = co
    case neg =>
      have hyb : (y == co) = false := beq_eq_false_iff_ne.2 hyo
      have EF : Hid (aFault a ks = 7) := by
        unfold Hid
        rw [EC.out, if_neg NB.out.1, if_neg (by have h9 := NB.out.2; omega), IT.out, hyb]
        rfl
      go_quiet (fail)
      go_wp2
      go_ret2
      exact ⟨_, _, rfl, .inl ⟨by rw [EF.out]; decide, rfl, by rw [EF.out]; rfl⟩, by first | exact WQ.out _ | (rw [HZ.out]; exact WQ.out _)⟩
    have EF : Hid (Fe.cfault (Fe.isThere a) (-1) ks = Fe.cfault (Fe.isThere a) (Fe.ahead ks (i + 1)) (ks.drop (i + 1))) := by
      unfold Hid
      rw [← E.out, EC.out, if_neg NB.out.1, if_neg (by have h9 := NB.out.2; omega), IT.out, hyo, beq_self_eq_true, if_pos rfl, AH.out]
    have AN : Hid (∀ c ∈ ks.take (i + 1), ¬ Fe.Bad c ∧ c.at_ ≤ Fe.ahead ks (i + 1)) := by
      intro d hd
      rw [TK.out] at hd
      rw [AH.out]
      rcases List.mem_append.1 hd with hd | hd
      · have h9 := AL.out d hd
        have h7 := NB.out.2
        try simp only at h7
        exact ⟨h9.1, by omega⟩
      · simp at hd
        subst hd
        exact ⟨NB.out.1, Int.le_refl _⟩
    subst hyo
    go_quiet (fail)
    clear czp d0 d1 d2
    go_upto_region 16 with fail
    have B3 : Hid (Bk (w2.drewN nq) z (Fe.puts (Fe.pl a N) (ks.take i)) #[]) := BQ.out nq
    have W4 : Hid (Below z w (w2.drewN nq)) := WQ.out nq
    have R4 : Hid (Chc (w2.drewN nq) (x.add (i * 3)) ⟨(p : Nat), y, cn⟩ ∧ (x.add (i * 3)).block < (w2.drewN nq).heap.size) := RQ.out nq
    clear BQ WQ RQ RD B2 W3
    generalize w2.drewN nq = w3 at *
    have DE : Hid (Below w3.heap.size w3 { w3 with drawn := w3.drawn + 1 }) := (Below.refl _ _).drew
    refine wp_region_two [(true, 0), (true, 1), (true, 2), (true, 3), (true, 4), (true, 5), (true, 6), (true, 7), (true, 8), (true, 9), (true, 10), (true, 11)] [(false, 12)] (fun V => Chc V (x.add (i * 3)) ⟨(p : Nat), y, cn⟩) (by kernel_rfl) (by kernel_rfl) (by kernel_rfl) (by decide +kernel) (by decide +kernel) (R4.out.1.below DE.out R4.out.2) ?_
    have B4 : Hid (Bk { w3 with drawn := w3.drawn + 1 } z (Fe.puts (Fe.pl a N) (ks.take i)) #[]) := B3.out
    have W5 : Hid (Below z w { w3 with drawn := w3.drawn + 1 }) := W4.out.trans (DE.out.mono (by rw [← HZ.out]; exact W4.out.size))
    clear B3 W4 DE
    generalize ({ w3 with drawn := w3.drawn + 1 } : World) = wa at *
    refine headT_read rfl (.slice (some ⟨z, 0, none⟩) 6000 6000) (by go_simp) (fun V hV => by obtain ⟨d0, d1, d2⟩ := hV; go_simp) ?_
    go_simp
    refine headT_read rfl (.slice (some x) ks.length cl) (by go_simp) (fun V hV => by obtain ⟨d0, d1, d2⟩ := hV; go_simp) ?_
    go_simp
    refine headT_read rfl (.int .i64 (i : Nat)) (by go_simp) (fun V hV => by obtain ⟨d0, d1, d2⟩ := hV; go_simp) ?_
    go_simp
    refine headT_read rfl (.pointer (some (x.add (i * 3)))) (by go_simp) (fun V hV => by obtain ⟨d0, d1, d2⟩ := hV; go_simp) ?_
    go_simp
    refine headT_read rfl (.pointer (some (x.add (i * 3)))) (by go_simp) (fun V hV => by obtain ⟨d0, d1, d2⟩ := hV; go_simp) ?_
    go_simp
    refine headT_read rfl (.int .i64 (p : Nat)) (by go_simp) (fun V hV => by obtain ⟨d0, d1, d2⟩ := hV; go_simp) ?_
    go_simp
    refine headT_read rfl (.slice (some x) ks.length cl) (by go_simp) (fun V hV => by obtain ⟨d0, d1, d2⟩ := hV; go_simp) ?_
    go_simp
    refine headT_read rfl (.int .i64 (i : Nat)) (by go_simp) (fun V hV => by obtain ⟨d0, d1, d2⟩ := hV; go_simp) ?_
    go_simp
    refine headT_read rfl (.pointer (some (x.add (i * 3)))) (by go_simp) (fun V hV => by obtain ⟨d0, d1, d2⟩ := hV; go_simp) ?_
    go_simp
    refine headT_read rfl (.pointer (some ⟨(x.add (i * 3)).block, (x.add (i * 3)).off + 2, none⟩)) (by go_simp) (fun V hV => by obtain ⟨d0, d1, d2⟩ := hV; go_simp) ?_
    go_simp
    refine headT_read rfl (.int .i64 cn) (by go_simp) (fun V hV => by obtain ⟨d0, d1, d2⟩ := hV; go_simp) ?_
    go_simp
    refine headT_read rfl (.pointer (some ⟨z, p, none⟩)) (by go_simp) (fun V hV => by obtain ⟨d0, d1, d2⟩ := hV; go_simp) ?_
    go_simp
    unfold wpHeadT
    have tz := B4.out.thaw p
    have cz := B4.out.cell PV.out
    refine sched_skip rfl (wa.setCell ⟨z, p, none⟩ (.int .i64 cn)) (by go_simp) (by go_simp) trivial ?_
    go_simp
    unfold wpSched
    have SZ : Hid (Bk (wa.setCell ⟨z, p, none⟩ (.int .i64 cn)) z (Fe.puts (Fe.pl a N) (ks.take (i + 1))) #[]) := by
      have h9 := B4.out.set p cn (by rw [Fe.puts_len, Fe.pl_len]; exact hpN)
      rw [← PN.out] at h9
      exact h9
    have WZ : Hid (Below z w (wa.setCell ⟨z, p, none⟩ (.int .i64 cn))) := W5.out.setCell (Nat.le_refl _) _
    clear tz cz
    go_wp2
    go_roundw
    case rel => exact ⟨i + 1, by omega, by go_num, EF.out, AN.out, SZ.out, WZ.out⟩
    case measure => simp [intOf]; omega
  have AZ : Hid (aFault a ks = 0) := by
    unfold Hid
    rw [E.out, CF.out, hie, List.drop_length]
    rfl
  obtain ⟨ps, hps⟩ : ∃ ps, Fe.puts (Fe.pl a N) ks = ps := ⟨_, rfl⟩
  have PS : Hid (Fe.applied a ks 6000 = Fe.col ps 0 [] ∧ ps.length = N) := ⟨by unfold Fe.applied; rw [← HN.out, hps], by rw [← hps, Fe.puts_len, Fe.pl_len]⟩
  have PB : Hid (∀ x ∈ ps, -1 ≤ x ∧ x ≤ 255) := by
    rw [← hps]
    refine Fe.puts_bounds (fun c hc => ?_)
    have := AL.out c (by rw [hie, List.take_length]; exact hc)
    exact this.1
  have BP : Hid (Bk wr z ps #[]) := by
    have := B1.out
    rw [hie, List.take_length, hps] at this
    exact this
  have hii : ¬ (i : Int) < (ks.length : Int) := by omega
  clear B1 hps CF AL
  go_wp2_with fail
  go_loopw [10, 11, 12] (fun bv ev j W => ∃ (k : Nat) (b : List UInt8), k ≤ N ∧ j = .int .i64 (k : Nat) ∧ ev = .bool (decide (b.length < k)) ∧ b.length ≤ k ∧ Fe.col ps 0 [] = Fe.col (ps.drop k) k b ∧ Ob W (z + 1) bv b ∧ Bk W z ps #[] ∧ Below z w W) (fun _ _ j _ => N - (intOf j).toNat)
  case atStart => exact ⟨0, [], Nat.zero_le _, rfl, rfl, Nat.le_refl _, rfl, Ob.nil _ _, BP.out, W2.out⟩
  case round =>
  obtain ⟨k, b, hk, rfl, rfl, hbl, hcol, hob, hbk, hB⟩ := hrel
  have CL : Hid (Fe.col ps 0 [] = Fe.col (ps.drop k) k b) := hcol
  have OB : Hid (Ob wr (z + 1) u10 b) := hob
  have B3 : Hid (Bk wr z ps #[]) := hbk
  have W3 : Hid (Below z w wr) := hB
  obtain ⟨bp, bc, rfl⟩ := hob.len
  clear hcol hob hbk hB BP
  by_cases hke : k = N
  case pos =>
    have hkn : ¬ (k : Int) < 6000 := by omega
    have CE : Hid (Fe.applied a ks 6000 = some b) := by
      unfold Hid
      rw [PS.out.1, CL.out, List.drop_eq_nil_of_le (by rw [PS.out.2]; omega)]
      rfl
    go_wp2
    go_ret2
    refine ⟨_, _, rfl, .inr (.inr ⟨AZ.out, b, CE.out, rfl, ?_⟩), by first | exact W3.out | (rw [HZ.out]; exact W3.out)⟩
    have o9 := Go.Joins.ownsRow_le OB.out (Nat.le_succ z)
    first | exact o9 | (rw [HZ.out]; exact o9)
  have hkl : k < N := by omega
  have hkl' : (k : Int) < 6000 := by omega
  obtain ⟨x, hx⟩ : ∃ x, ps[k]? = some x := ⟨_, List.getElem?_eq_getElem (by rw [PS.out.2]; exact hkl)⟩
  have DR : Hid (ps.drop k = x :: ps.drop (k + 1)) := by
    unfold Hid
    have hp : k < ps.length := by rw [PS.out.2]; exact hkl
    rw [List.drop_eq_getElem_cons hp]
    rw [List.getElem?_eq_getElem hp] at hx
    injection hx with hx
    rw [hx]
  have CX : Hid (Fe.col ps 0 [] = if x = -1 then Fe.col (ps.drop (k + 1)) (k + 1) b else if b.length < k then none else Fe.col (ps.drop (k + 1)) (k + 1) (b ++ [UInt8.ofNat x.toNat])) := by
    unfold Hid
    rw [CL.out, DR.out]
    rfl
  have xb := PB.out x (List.mem_of_getElem? hx)
  have cx := B3.out.cell hx
  clear hx
  by_cases hx1 : x < 0
  case pos =>
    have CN : Hid (Fe.col ps 0 [] = Fe.col (ps.drop (k + 1)) (k + 1) b) := by unfold Hid; rw [CX.out, if_pos (by omega)]
    go_wp2
    go_roundw
    case rel => exact ⟨k + 1, b, by omega, by go_num, by rw [decide_eq_true (by omega : b.length < k + 1)], by omega, CN.out, OB.out, B3.out, W3.out⟩
    case measure => simp [intOf]; omega
  by_cases hg : b.length < k
  case pos =>
    rw [decide_eq_true hg]
    have CN : Hid (Fe.applied a ks 6000 = none) := by unfold Hid; rw [PS.out.1, CX.out, if_neg (by omega), if_pos hg]
    go_wp2
    go_ret2
    exact ⟨_, _, rfl, .inr (.inl ⟨AZ.out, CN.out, rfl, rfl⟩), by first | exact W3.out | (rw [HZ.out]; exact W3.out)⟩
  rw [decide_eq_false hg]
  have CN : Hid (Fe.col ps 0 [] = Fe.col (ps.drop (k + 1)) (k + 1) (b ++ [UInt8.ofNat x.toNat])) := by unfold Hid; rw [CX.out, if_neg (by omega), if_neg hg]
  have xw : IntKind.u8.wrap x = x := by rw [IntKind.wrap_u8]; omega
  have XN : Hid (x = (((UInt8.ofNat x.toNat).toNat : Nat) : Int)) := by
    unfold Hid
    rw [UInt8.toNat_ofNat']
    omega
  have SW : Hid (z + 1 ≤ wr.heap.size) := B3.out.lt
  go_wp2_with (at_builtin; refine app_byte _ rfl _ _ rfl (z + 1) _ b rfl (OB.out.alloc _) ⟨wr.heap.size, 0, none⟩ (UInt8.ofNat x.toNat) rfl (by rw [← XN.out]; simp) (by omega) (by have := SW.out; simp; omega) ?_)
  intro g cap w5 o5 g5 l5
  have O5 : Hid (Ob w5 (z + 1) (.slice (some ⟨g, 0, none⟩) (b.length + 1) cap) (b ++ [UInt8.ofNat x.toNat])) := o5
  have hob : ∀ j, (Value.slice bp b.length bc).ownBlock = some j → z + 1 ≤ j := fun j hj => (OB.out.block j hj).1
  have B5 : Hid (Below (z + 1) wr w5) := ((Below.refl _ _).alloc SW.out _).grown g5 (by have := SW.out; simp; omega) hob
  have K5 : Hid (Bk w5 z ps #[]) := B3.out.low B5.out (by omega)
  have W5 : Hid (Below z w w5) := W3.out.trans (B5.out.mono (by omega))
  clear o5 g5 l5 hob
  go_wp2
  go_roundw
  case rel => exact ⟨k + 1, b ++ [UInt8.ofNat x.toNat], by omega, by go_num, by rw [List.length_append, decide_eq_false (by simp; omega)], by rw [List.length_append]; simp; omega, CN.out, O5.out, K5.out, W5.out⟩
  case measure => simp [intOf]; omega
end Go.Proofs.YtifijfaefpdmpaaDoor

namespace Go.Proofs.YtifijfaefpdmpaaDoor
open Go.RowKit
set_option linter.unusedVariables false

set_option maxHeartbeats 1000000 in
theorem fold_any (n : Int) (w : World) (h : Wd.In64 n) : Calls Tryd.prog 24 #[.int .i64 n] w fun e w' => e = .returned (.int .u64 (Wd.zz n : Nat)) ∧ w' = w := by
  unfold Wd.In64 at h
  by_cases h0 : n < 0
  · obtain ⟨m, hm⟩ : ∃ m : Nat, n = -((m : Int) + 1) := ⟨(-(n + 1)).toNat, by omega⟩
    subst hm
    have E : Hid (Wd.zz (-((m : Int) + 1)) = m * 2 + 1) := by unfold Hid Wd.zz; rw [if_pos h0]; omega
    have e1 : -((m : Int) + 1) + 1 = -(m : Int) := by omega
    have e2 : - -(m : Int) = m := by omega
    have w1 : IntKind.i64.wrap (-(m : Int)) = -(m : Int) := by rw [IntKind.wrap_i64]; omega
    have w2 : IntKind.i64.wrap (m : Int) = (m : Int) := by rw [IntKind.wrap_i64]; omega
    have hm : (m : Int) < 9223372036854775808 := by omega
    clear h
    go_enter Tryd.func24, Tryd.ntmps24
    go_wp2
    go_ret
    refine ⟨?_, rfl⟩
    rw [E.out]
    show Ending.returned (.int .u64 _) = _
    congr 2
    try simp only [w2]
    omega
  · obtain ⟨m, rfl⟩ : ∃ m : Nat, n = m := ⟨n.toNat, by omega⟩
    have E : Hid (Wd.zz (m : Int) = m * 2) := by unfold Hid Wd.zz; rw [if_neg h0]; omega
    have hm : (m : Int) < 9223372036854775808 := by omega
    clear h
    go_enter Tryd.func24, Tryd.ntmps24
    go_wp2
    go_ret
    refine ⟨?_, rfl⟩
    rw [E.out]
    show Ending.returned (.int .u64 _) = _
    congr 2
    try simp only [w2]
    omega
end Go.Proofs.YtifijfaefpdmpaaDoor

namespace Go.Proofs.YtifijfaefpdmpaaDoor
open Go.RowKit
set_option linter.unusedVariables false

theorem vl_len {x : Nat} (h : x < 18446744073709551616) : (Wd.vl x).length ≤ 10 := by
  have h1 := Wd.rd_vl x x 0 0 [] (Nat.le_refl _) (by omega) (by simpa using h) (.inl rfl)
  have h2 := (Wd.rd_le _ 0 0 _ _ (by omega) (by decide) h1).2.2.1
  omega
theorem num_len {n : Int} (h : Wd.In64 n) : (Wd.num n).length ≤ 10 := vl_len (Wd.zz_lt h)
theorem wr_len : ∀ {xs : List Int}, (∀ n ∈ xs, Wd.In64 n) → (Wd.wr xs).length ≤ 10 * xs.length
  | [], _ => by simp [Wd.wr]
  | x :: xs, h => by
    have h1 := num_len (h x (by simp))
    have h2 := wr_len (xs := xs) (fun n hn => h n (by simp [hn]))
    have : Wd.wr (x :: xs) = Wd.num x ++ Wd.wr xs := by simp [Wd.wr]
    rw [this, List.length_append, List.length_cons]
    omega
theorem wr_next {xs : List Int} {k : Nat} {n : Int} (h : xs[k]? = some n) : Wd.wr (xs.take (k + 1)) = Wd.wr (xs.take k) ++ Wd.num n := by
  obtain ⟨hi, e⟩ := List.getElem?_eq_some_iff.1 h
  rw [List.take_succ_eq_append_getElem hi, Wd.wr_append, e, Wd.wr_one]
set_option maxRecDepth 100000 in
set_option maxHeartbeats 4000000 in
theorem write_any (v : Value) (xs : List Int) (w : World) (h : Ro w v xs) (hi : ∀ n ∈ xs, Wd.In64 n) (hl : xs.length ≤ 100000000) :
    Calls Tryd.prog 21 #[v] w fun e w' => ∃ u, e = .returned u ∧ Ob w' w.heap.size u (Wd.wr xs) ∧ Below w.heap.size w w' := by
  have R : Hid (Ro w v xs) := h
  have HI : Hid (∀ n ∈ xs, Wd.In64 n) := hi
  obtain ⟨ad, cap, rfl, h1, h2, h3⟩ := h
  clear h3 hi
  go_enter Tryd.func21, Tryd.ntmps21
  go_wp2
  go_loopw [3, 9] (fun bv iv W => ∃ (k : Nat), iv = .int .i64 (k : Nat) ∧ k ≤ xs.length ∧ Ob W w.heap.size bv (Wd.wr (xs.take k)) ∧ Below w.heap.size w W) (fun _ iv _ => xs.length - (intOf iv).toNat)
  case atStart => exact ⟨0, rfl, Nat.zero_le _, Ob.nil _ _, Below.refl _ _⟩
  case round =>
    obtain ⟨k, rfl, hk, ho, hb⟩ := hrel
    have O : Hid (Ob wr w.heap.size u3 (Wd.wr (xs.take k))) := ho
    have B : Hid (Below w.heap.size w wr) := hb
    clear ho hb
    by_cases he : k = xs.length
    · subst he
      go_wp2
      go_ret
      exact ⟨_, rfl, by have := O.out; rwa [List.take_length] at this, B.out⟩
    · have hlt : k < xs.length := by omega
      have hli : (k : Int) < (xs.length : Int) := by omega
      obtain ⟨n, hn⟩ : ∃ n, xs[k]? = some n := ⟨_, List.getElem?_eq_getElem hlt⟩
      have HN : Hid (xs[k]? = some n) := hn
      have IN : Hid (Wd.In64 n) := HI.out n (List.mem_of_getElem? hn)
      obtain ⟨ad', cap', e, -, -, hc⟩ := R.out.below B.out
      injection e with e1 e2 e3
      subst e1 e3
      obtain ⟨y, rfl, hy, hcell⟩ := hc (by intro e; subst e; simp at hlt)
      have c1 : wr.cell? (y.add k) = some (.int .i64 n) := hcell k n hn
      clear hc hcell hy hn
      go_wp2_with fail
      refine (fold_any n _ IN.out).mono ?_
      rintro e w1 ⟨rfl, rfl⟩
      have PL : Hid ((Wd.wr (xs.take k)).length ≤ 1000000000) := by
        unfold Hid
        have := wr_len (xs := xs.take k) (fun n hn => HI.out n (List.mem_of_mem_take hn))
        rw [List.length_take] at this
        omega
      obtain ⟨P, hP⟩ : ∃ P, Wd.wr (xs.take k) = P := ⟨_, rfl⟩
      have HP : Hid (Wd.wr (xs.take (k + 1)) = P ++ Wd.num n) := by unfold Hid; rw [wr_next HN.out, hP]
      rw [hP] at O PL
      obtain ⟨x, hx⟩ : ∃ x, Wd.zz n = x := ⟨_, rfl⟩
      have HX : Hid (Wd.num n = Wd.vl x ∧ x < 18446744073709551616) := ⟨by unfold Wd.num; rw [hx], by rw [← hx]; exact Wd.zz_lt IN.out⟩
      rw [hx]
      clear hx hP c1
      go_wp2
      go_loopw [3, 6] (fun bv xv W => ∃ (y : Nat) (D : List UInt8), xv = .int .u64 (y : Nat) ∧ y < 18446744073709551616 ∧ D ++ Wd.vl y = Wd.vl x ∧ Ob W w.heap.size bv (P ++ D) ∧ Below w.heap.size w W) (fun _ xv _ => (intOf xv).toNat)
      case atStart => exact ⟨x, [], rfl, HX.out.2, rfl, by rw [List.append_nil]; exact O.out, B.out⟩
      case round =>
        obtain ⟨y, D, rfl, hy, hv, ho, hb⟩ := hrel
        have O2 : Hid (Ob wr w.heap.size u3 (P ++ D)) := ho
        have B2 : Hid (Below w.heap.size w wr) := hb
        have HV : Hid (D ++ Wd.vl y = Wd.vl x) := hv
        have DL : Hid ((P ++ D).length ≤ 1000000010) := by
          unfold Hid
          have h1 := vl_len HX.out.2
          have h2 := congrArg List.length hv
          have h3 := PL.out
          rw [List.length_append] at h2 ⊢
          omega
        clear ho hb hv
        obtain ⟨L, hL⟩ : ∃ L, P ++ D = L := ⟨_, rfl⟩
        have HL : Hid (P ++ D = L) := hL
        rw [hL] at O2 DL
        clear hL
        by_cases h128 : 128 ≤ y
        · obtain ⟨m, hm⟩ : ∃ m, y % 128 = m := ⟨_, rfl⟩
          obtain ⟨d, hd⟩ : ∃ d, y / 128 = d := ⟨_, rfl⟩
          have hmi : (y : Int) % 128 = m := by omega
          have hdi : (y : Int) / 128 = d := by omega
          have m1 : m < 128 := by omega
          have hgi : (128 : Int) ≤ (y : Int) := by omega
          obtain ⟨c, hc⟩ : ∃ c, UInt8.ofNat (m + 128) = c := ⟨_, rfl⟩
          have em : c.toNat = m + 128 := by rw [← hc, UInt8.toNat_ofNat']; omega
          have HE : Hid (Wd.vl y = c :: Wd.vl d) := by unfold Hid; rw [Wd.vl_great h128, hm, hd, hc]
          have hdl : Hid (d < y) := by unfold Hid; omega
          clear hm hd h128 hc
          go_wp2_with (at_builtin; refine app_byte _ rfl _ _ rfl w.heap.size _ L rfl (O2.out.alloc _) ⟨wr.heap.size, 0, none⟩ c rfl (by rw [em]; simp) (by have := DL.out; omega) (by have := B2.out.size; simp; omega) ?_)
          intro g cap2 w5 o5 g5 l5
          have O5 : Hid (Ob w5 w.heap.size (.slice (some ⟨g, 0, none⟩) (L.length + 1) cap2) (P ++ (D ++ [c]))) := by unfold Hid; rw [← List.append_assoc, HL.out]; exact o5
          have B5 : Hid (Below w.heap.size w w5) := (B2.out.alloc B2.out.size _).grown g5 (by have := B2.out.size; simp; omega) (fun b hb => (O2.out.block b hb).1)
          clear o5 g5 l5
          go_wp2
          go_roundw
          case rel =>
            refine ⟨d, D ++ [c], rfl, by have := hdl.out; omega, ?_, O5.out, B5.out⟩
            rw [List.append_assoc, ← HV.out, HE.out]
            rfl
          case measure => have := hdl.out; simp [intOf]; omega
        · have hgi : ¬ (128 : Int) ≤ (y : Int) := by omega
          obtain ⟨c, hc⟩ : ∃ c, UInt8.ofNat y = c := ⟨_, rfl⟩
          have em : c.toNat = y := by rw [← hc, UInt8.toNat_ofNat']; omega
          have wy : IntKind.u8.wrap (y : Int) = (y : Int) := by rw [IntKind.wrap_u8]; omega
          have HE : Hid (D ++ [c] = Wd.num n) := by unfold Hid; rw [HX.out.1, ← HV.out, Wd.vl_small (by omega), hc]
          clear h128 hc
          go_wp2_with (at_builtin; refine app_byte _ rfl _ _ rfl w.heap.size _ L rfl (O2.out.alloc _) ⟨wr.heap.size, 0, none⟩ c rfl (by rw [em]; simp) (by have := DL.out; omega) (by have := B2.out.size; simp; omega) ?_)
          intro g cap2 w5 o5 g5 l5
          have O5 : Hid (Ob w5 w.heap.size (.slice (some ⟨g, 0, none⟩) (L.length + 1) cap2) (Wd.wr (xs.take (k + 1)))) := by unfold Hid; rw [HP.out, ← HE.out, ← List.append_assoc, HL.out]; exact o5
          have B5 : Hid (Below w.heap.size w w5) := (B2.out.alloc B2.out.size _).grown g5 (by have := B2.out.size; simp; omega) (fun b hb => (O2.out.block b hb).1)
          clear o5 g5 l5
          go_wp2
          go_roundw
          case rel => exact ⟨k + 1, rfl, by omega, O5.out, B5.out⟩
          case measure => simp [intOf]; omega
end Go.Proofs.YtifijfaefpdmpaaDoor

namespace Go.Proofs.YtifijfaefpdmpaaDoor
open Go.RowKit
set_option linter.unusedVariables false

theorem run_append_no {P : Program} {w : World} (base : Nat) (t ty e : TypeId) (i : TypeInfo) (size : Nat) (ht : P.underlying t = some (.slice e)) (hi : P.info? e = some i)
    (v : Value) (n : Nat) (xs : List Value) (hown : w.ownsRow base e size v n xs) (a : Option Addr) (c : Nat) :
    (Builtin.append_ #[t, t] ty #[v, .slice a 0 c]).run P w = .ok v w := by
  rcases hown.2 with ⟨rfl, rfl⟩ | ⟨g, cap, cur, rfl, _, _, hnc, _⟩
  · cases a <;> simp [Builtin.append_, run_underlying ht, sizeOf, typeInfo, hi, Builtin.lenOf, Builtin.firstCells, loadCells, loadCellsFrom]
  · cases a <;> simp [Builtin.append_, run_underlying ht, sizeOf, typeInfo, hi, Builtin.lenOf, Builtin.firstCells, hnc, storeCells, loadCells, loadCellsFrom]
theorem app_row {ops : Array Oper} {rest : List Oper} {o : Oper} {a : Act} {Q : Exit → Act → World → Prop} (w : World) (hgd : o.guard = none) (s x : Operand)
    (ho : o.op = .call { callee := .builtin .append, args := #[s, x], argTypes := #[44, 44] }) (base : Nat) (v : Value) (xs : List Int) (hs : a.eval s = v) (hown : Ow w base v xs)
    (u : Value) (ys : List Int) (hx : a.eval x = u) (hu : Ro w u ys) (hl : xs.length + ys.length ≤ 1000000000) (hbase : base ≤ w.heap.size)
    (h : ∀ v' w', Ow w' base v' (xs ++ ys) → w.grownBy w' v.ownBlock → (v'.ownBlock = v.ownBlock ∨ v'.ownBlock = some w.heap.size) → wpList Tryd.prog ops Q rest (a.put o.dst v') w') :
    wpList Tryd.prog ops Q (o :: rest) a w := by
  obtain ⟨i0, hi, hz0, hz1, hz2⟩ := info_parts info_int
  obtain ⟨ad, c, rfl, h1, h2, h3⟩ := hu
  by_cases hn : ys = []
  · subst hn
    refine wpList_plain hgd fun K hK => ?_
    have hrun := run_append_no (P := Tryd.prog) (w := w) base 44 o.type 3 i0 1 Tryd.underlying44 hi v xs.length _ hown ad c
    have hx' : a.eval x = .slice ad 0 c := hx
    unfold Oper.wp
    simp [execOp, ho, resolve, invoke, builtin, hs, hx', hrun, Result.andThen]
    exact hK _ _ (h v w (by simpa using hown) (World.grownBy.refl _ _) (.inl rfl))
  · obtain ⟨y, rfl, hy, hc⟩ := h3 hn
    refine wpList_append_lies w hgd s x 44 ho base 3 i0 (.int .i64 0) 1 8 Tryd.underlying44 hi hz0 hz1 hz2 rfl (by decide) v xs.length _ hs hown y ys.length c (ys.map (Value.int .i64)) hx (by simp) ?_ ?_ (List.length_pos_iff.2 hn) (by unfold maxLen; omega) (by omega) hbase _ rfl ?_
    · intro j u hj
      rw [List.getElem?_map] at hj
      cases hd : ys[j]? with
      | none => rw [hd] at hj; cases hj
      | some d => rw [hd] at hj; cases hj; exact hc j d hd
    · exact ints_oneCell _ _
    · intro g cap w' k1 k2 k3 _
      refine h _ w' ?_ k2 ?_
      · unfold Ow
        rw [List.length_append, List.map_append]
        exact k1
      · rcases k3 with k3 | k3
        · exact .inl k3.symm
        · exact .inr (by rw [k3]; rfl)
end Go.Proofs.YtifijfaefpdmpaaDoor

namespace Go.Proofs.YtifijfaefpdmpaaDoor
open Go.RowKit
set_option linter.unusedVariables false

/-- any. -/
theorem Ro.lit {w : World} {z : Nat} (xs : List Int) (cs : Array Value) (hc : cs.toList = xs.map (Value.int .i64)) (hl : xs.length ≤ 1000) (hz : w.heap.size = z) : Ro (w.alloc (.cells cs 3)) (.slice (some ⟨z, 0, none⟩) xs.length xs.length) xs := by
  subst hz
  refine ⟨_, xs.length, rfl, Nat.le_refl _, by omega, fun _ => ⟨_, rfl, by simp, fun i d hd => ?_⟩⟩
  rw [Addr.add_lit, Nat.zero_add]
  have hh := heap_alloc_new w (.cells cs 3)
  simp only [World.cell?, hh]
  rw [← Array.getElem?_toList, hc, List.getElem?_map, hd]
  rfl
end Go.Proofs.YtifijfaefpdmpaaDoor

namespace Go.Proofs.YtifijfaefpdmpaaDoor
open Go.RowKit
set_option linter.unusedVariables false

theorem Ow.bk {w : World} {base : Nat} {v : Value} {xs : List Int} (h : Ow w base v xs) : (v = .slice none 0 0 ∧ xs = []) ∨ ∃ g cap rest, v = .slice (some ⟨g, 0, none⟩) xs.length cap ∧ base ≤ g ∧ xs.length ≤ cap ∧ cap ≤ maxLen ∧ xs.length + rest.size = cap ∧ Bk w g xs rest := by
  rcases h.2 with ⟨h1, h2⟩ | ⟨g, cap, cur, h1, h2, h3, h4, h5, h6, h7⟩
  · exact .inl ⟨h1, List.length_eq_zero_iff.1 h2⟩
  · have e6 : cur.toList.length = cap := by simpa using h6
    refine .inr ⟨g, cap, (cur.toList.drop xs.length).toArray, h1, h2, h4, h5, ?_, ?_⟩
    · simp only [List.size_toArray, List.length_drop, e6]; omega
    · have e : cur = (intCells xs).toArray ++ (cur.toList.drop xs.length).toArray := by
        apply Array.ext'
        rw [Nat.mul_one] at h7
        have h8 : cur.toList.take xs.length = intCells xs := h7
        rw [Array.toList_append]
        show cur.toList = intCells xs ++ cur.toList.drop xs.length
        rw [← h8, List.take_append_drop]
      unfold Bk
      rw [h3, ← e]
theorem Bk.ow {w : World} {base g cap : Nat} {xs : List Int} {rest : Array Value} (h : Bk w g xs rest) (hb : base ≤ g) (h1 : xs.length ≤ cap) (h2 : cap ≤ maxLen) (h3 : xs.length + rest.size = cap) : Ow w base (.slice (some ⟨g, 0, none⟩) xs.length cap) xs := by
  refine ⟨by simp, .inr ⟨g, cap, _, rfl, hb, h, h1, h2, ?_, ?_⟩⟩
  · simp [intCells]; omega
  · simp [intCells]
end Go.Proofs.YtifijfaefpdmpaaDoor

namespace Go.Proofs.YtifijfaefpdmpaaDoor
open Go.RowKit
set_option linter.unusedVariables false

namespace Fe
theorem chain_in : ∀ {l : List ChV} {p : Int}, (∀ c ∈ l, ¬ Bad c) → 0 ≤ p → p ≤ 5999 → ∀ n ∈ chain p l, Wd.In64 n
  | [], p, _, _, _, n, h => by simp [chain] at h
  | c :: l, p, hl, h1, h2, n, h => by
    have hc := hl c (by simp)
    unfold Bad at hc
    unfold chain at h
    simp only [List.mem_cons] at h
    rcases h with rfl | rfl | rfl | h
    · unfold Wd.In64; omega
    · unfold Wd.In64; omega
    · unfold Wd.In64; omega
    · exact chain_in (fun d hd => hl d (by simp [hd])) (by omega) (by omega) n h
theorem chain_len : ∀ {l : List ChV} {p : Int}, (chain p l).length = 3 * l.length
  | [], p => rfl
  | c :: l, p => by simp only [chain, List.length_cons, chain_len (l := l)]; omega
end Fe
/-- what Pack tells. -/
def PackSays (l : List ChV) (w w' : World) (v r : Value) : Prop :=
  (chk (fun _ => true) l ≠ 0 ∧ v = .slice none 0 0 ∧ Er r (chk (fun _ => true) l)) ∨ (chk (fun _ => true) l = 0 ∧ r = .nilIface ∧ Ob w' w.heap.size v (Wd.wr (Fe.nums l)))
set_option maxRecDepth 100000 in
set_option maxHeartbeats 8000000 in
theorem Pack_any (vl : Value) (ks : List ChV) (w : World) (hl : Chl w vl ks) :
    Calls Tryd.prog 11 #[vl] w fun e w' => ∃ v r, e = .returned (.tuple #[v, r]) ∧ PackSays ks w w' v r ∧ Below w.heap.size w w' := by
  have L : Hid (Chl w vl ks) := hl
  obtain ⟨pl, cl, rfl, l1, l2, -⟩ := hl
  go_enter Tryd.func11, Tryd.ntmps11
  go_wp2_with fail
  refine (fcheck_any 20 (by intro args w; go_simp) _ #[] ks (fun _ => true) w L.out (fun W hW c hc => anywhere_any c W)).mono ?_
  rintro e w1 ⟨r, rfl, hr, hb⟩
  have B1 : Hid (Below w.heap.size w w1) := hb
  obtain ⟨f, hf⟩ : ∃ f, chk (fun _ => true) ks = f := ⟨_, rfl⟩
  have HF : Hid (chk (fun _ => true) ks = f) := hf
  rw [hf] at hr
  have HR : Hid (Er r f) := hr
  clear hr hb hf
  rcases HR.out with ⟨rfl, rfl⟩ | ⟨hne, rfl⟩
  case inr =>
    have NE : Hid (f ≠ 0) := hne
    clear hne
    go_wp2
    go_ret2
    exact ⟨_, _, rfl, .inl ⟨by rw [HF.out]; exact NE.out, rfl, by rw [HF.out]; exact HR.out⟩, B1.out⟩
  obtain ⟨k1, k2⟩ := chk_zero HF.out
  have KF : Hid (ks.length ≤ 6000 ∧ ∀ c ∈ ks, ¬ Fe.Bad c) := ⟨k1, Fe.fine_mem k2⟩
  have l6 : (ks.length : Int) ≤ 6000 := by omega
  clear k1 k2
  have SW : Hid (w.heap.size ≤ w1.heap.size) := B1.out.size
  have O1 : Hid (Ow (w1.alloc (.cells #[.int .i64 (ks.length : Nat)] 3)) w.heap.size (.slice (some ⟨w1.heap.size, 0, none⟩) 1 1) [(ks.length : Int)]) := Ow.one _ SW.out rfl
  have B2 : Hid (Below w.heap.size w (w1.alloc (.cells #[.int .i64 (ks.length : Nat)] 3))) := B1.out.alloc SW.out _
  go_wp2_with fail
  go_loopw [5, 6, 19] (fun nv pv iv W => ∃ (n : Nat) (p : Int) (xs : List Int), n ≤ ks.length ∧ pv = .int .i64 p ∧ iv = .int .i64 (n : Nat) ∧ 0 ≤ p ∧ p ≤ 5999 ∧ xs.length = 3 * n + 1 ∧ xs ++ Fe.chain p (ks.drop n) = Fe.nums ks ∧ Ow W w.heap.size nv xs ∧ Below w.heap.size w W) (fun _ _ iv _ => ks.length - (intOf iv).toNat)
  case atStart => exact ⟨0, 0, [(ks.length : Int)], Nat.zero_le _, rfl, rfl, by omega, by omega, rfl, rfl, O1.out, B2.out⟩
  case round =>
  obtain ⟨n, p, xs, hn, rfl, rfl, hp0, hp1, hxl, hx, ho, hb⟩ := hrel
  have HX : Hid (xs ++ Fe.chain p (ks.drop n) = Fe.nums ks) := hx
  have XL : Hid (xs.length = 3 * n + 1) := hxl
  have O : Hid (Ow wr w.heap.size u5 xs) := ho
  have BW : Hid (Below w.heap.size w wr) := hb
  obtain ⟨op, oc, rfl⟩ := ho.len
  clear hx hxl ho hb O1 B2
  by_cases hne : n = ks.length
  · have HE : Hid (xs = Fe.nums ks) := by
      have := HX.out
      rw [hne, List.drop_length] at this
      unfold Hid
      simpa [Fe.chain] using this
    have IN : Hid (∀ n ∈ Fe.nums ks, Wd.In64 n) := by
      intro n hn
      unfold Fe.nums at hn
      rcases List.mem_cons.1 hn with rfl | hn
      · unfold Wd.In64; omega
      · exact Fe.chain_in KF.out.2 (by omega) (by omega) n hn
    subst hne
    go_wp2_with fail
    refine (write_any _ xs wr O.out.ro (by rw [HE.out]; exact IN.out) (by have := XL.out; omega)).mono ?_
    rintro e w5 ⟨u, rfl, hu, hb⟩
    have B5 : Hid (Below w.heap.size w w5) := BW.out.trans (hb.mono BW.out.size)
    have OU : Hid (Ob w5 w.heap.size u (Wd.wr (Fe.nums ks))) := by unfold Hid; rw [← HE.out]; exact Go.Joins.ownsRow_le hu BW.out.size
    clear hu hb
    go_wp2
    go_ret2
    exact ⟨_, _, rfl, .inr ⟨HF.out, rfl, OU.out⟩, B5.out⟩
  have hnl : n < ks.length := by omega
  have hnl' : (n : Int) < (ks.length : Int) := by omega
  obtain ⟨c, hc⟩ : ∃ c, ks[n]? = some c := ⟨_, List.getElem?_eq_getElem hnl⟩
  have HC : Hid (ks.drop n = c :: ks.drop (n + 1)) := by
    unfold Hid
    rw [List.drop_eq_getElem_cons hnl]
    congr 1
    rw [List.getElem?_eq_getElem hnl] at hc
    injection hc
  have nb := KF.out.2 c (List.mem_of_getElem? hc)
  have HY : Hid ((xs ++ [c.at_ - p, c.old + 1, c.new + 1]) ++ Fe.chain c.at_ (ks.drop (n + 1)) = Fe.nums ks) := by
    have := HX.out
    rw [HC.out] at this
    unfold Hid
    rw [← this, List.append_assoc]
    rfl
  obtain ⟨a', c', e', -, -, hq⟩ := L.out.below BW.out
  injection e' with e1 e2 e3
  subst e1 e3
  obtain ⟨x, rfl, -, hcc⟩ := hq (by rintro rfl; simp at hnl)
  obtain ⟨d0, d1, d2⟩ := hcc n c hc
  clear hq hcc hc
  obtain ⟨ca, co, cn⟩ := c
  unfold Fe.Bad at nb
  simp only at d0 d1 d2 HY nb
  have wa : IntKind.i64.wrap (ca - p) = ca - p := by rw [IntKind.wrap_i64]; omega
  have wo : IntKind.i64.wrap (co + 1) = co + 1 := by rw [IntKind.wrap_i64]; omega
  have wn : IntKind.i64.wrap (cn + 1) = cn + 1 := by rw [IntKind.wrap_i64]; omega
  have CA : Hid (0 ≤ ca ∧ ca ≤ 5999) := by unfold Hid; omega
  have SR : Hid (w.heap.size ≤ wr.heap.size) := BW.out.size
  obtain ⟨w2, hw2⟩ : ∃ W, wr.alloc (Obj.cells #[.int .i64 ca, .int .i64 co, .int .i64 cn] 41) = W := ⟨_, rfl⟩
  have B2 : Hid (Below w.heap.size w w2) := by rw [← hw2]; exact BW.out.alloc SR.out _
  have O2 : Hid (Ow w2 w.heap.size (.slice op xs.length oc) xs) := by rw [← hw2]; exact O.out.alloc _
  have y0 : w2.cell? ⟨wr.heap.size, 0, none⟩ = some (.int .i64 ca) := by rw [← hw2]; simp
  have y1 : w2.cell? ⟨wr.heap.size, 1, none⟩ = some (.int .i64 co) := by rw [← hw2]; simp
  have y2 : w2.cell? ⟨wr.heap.size, 2, none⟩ = some (.int .i64 cn) := by rw [← hw2]; simp
  have Z2 : Hid (wr.heap.size < w2.heap.size) := by unfold Hid; rw [← hw2]; simp
  clear nb
  go_upto_region 9 with fail
  try rw [hw2]
  clear hw2
  have SR2 : Hid (w.heap.size ≤ w2.heap.size) := B2.out.size
  go_wp2_with (at_builtin; refine app_row _ rfl _ _ rfl w.heap.size _ xs rfl (O2.out.alloc _) _ [ca - p, co + 1, cn + 1] rfl (Ro.lit [ca - p, co + 1, cn + 1] _ rfl (by simp) rfl) (by have := XL.out; simp; omega) (by have := SR2.out; simp; omega) ?_)
  intro v' w5 o5 g5 _
  have O5 : Hid (Ow w5 w.heap.size v' (xs ++ [ca - p, co + 1, cn + 1])) := o5
  have hob : ∀ j, (Value.slice op xs.length oc).ownBlock = some j → w.heap.size ≤ j := fun j hj => (O2.out.block j hj).1
  have B5 : Hid (Below w.heap.size w w5) := (B2.out.alloc SR2.out _).grown g5 (by have := SR2.out; simp; omega) hob
  have z0 : w5.cell? ⟨wr.heap.size, 0, none⟩ = some (.int .i64 ca) := by
    have hk := g5.block wr.heap.size (by have := Z2.out; simp; omega) (fun e => by have := (O.out.block _ e.symm).2; omega)
    have y0' : (w2.alloc (Obj.cells #[.int .i64 (ca - p), .int .i64 (co + 1), .int .i64 (cn + 1)] 3)).cell? ⟨wr.heap.size, 0, none⟩ = some (.int .i64 ca) := by
      rw [((Below.refl _ _).alloc (Nat.le_refl _) _).cell (p := ⟨wr.heap.size, 0, none⟩) Z2.out]; exact y0
    simp only [World.cell?, hk] at y0' ⊢
    exact y0'
  clear o5 g5 hob
  go_wp2
  go_roundw
  case rel => exact ⟨n + 1, ca, xs ++ [ca - p, co + 1, cn + 1], by omega, rfl, by go_num, CA.out.1, CA.out.2, by rw [List.length_append, XL.out]; simp; omega, HY.out, O5.out, B5.out⟩
  case measure => simp [intOf]; omega
end Go.Proofs.YtifijfaefpdmpaaDoor

namespace Go.Proofs.YtifijfaefpdmpaaDoor
open Go.RowKit
set_option linter.unusedVariables false

theorem Ob.by_ {w : World} {base : Nat} {v : Value} {l : List UInt8} (h : Ob w base v l) : By w v l := by
  rcases h.2 with ⟨hv, h0⟩ | ⟨g, cap, cur, hv, hb, hg, h1, h2, h3, h4⟩
  · exact ⟨none, 0, by rw [hv, h0], by omega, by omega, fun hn => absurd (List.length_eq_zero_iff.1 h0) hn⟩
  · refine ⟨_, cap, hv, h1, h2, fun hn => ⟨_, rfl, lt_of_block hg, fun i d hd => ?_⟩⟩
    have hi : i < l.length := (List.getElem?_eq_some_iff.1 hd).1
    rw [Addr.add_lit, Nat.zero_add]
    have h5 : w.ownsRow base 5 1 (.slice (some ⟨g, 0, none⟩) l.length cap) l.length (byteCells l) := by rw [← hv]; exact h
    rw [h5.cellAt i (by omega), byteCells, List.getElem?_map, hd]
    rfl
theorem By.take {w : World} {ad : Option Addr} {n c k : Nat} {l : List UInt8} (h : By w (.slice ad n c) l) (hk : k ≤ l.length) : By w (.slice ad k c) (l.take k) := by
  obtain ⟨a, c', e, h1, h2, h3⟩ := h
  injection e with e1 e2 e3
  subst e1 e3
  have hl : (l.take k).length = k := by rw [List.length_take]; omega
  refine ⟨ad, c, by rw [hl], by omega, h2, fun hn => ?_⟩
  obtain ⟨x, e, hx, hc⟩ := h3 (by intro h; subst h; simp at hn)
  refine ⟨x, e, hx, fun i d hd => hc i d ?_⟩
  rw [List.getElem?_take] at hd
  split at hd
  · exact hd
  · cases hd
set_option maxRecDepth 100000 in
theorem By.conv {w : World} {ad : Option Addr} {n c : Nat} {l : List UInt8} (h : By w (.slice ad n c) l) : (convert 22 9 (.slice ad n c)).run Tryd.prog w = .ok (.string ⟨l.toArray⟩) w := by
  obtain ⟨a, c', e, h1, h2, h3⟩ := h
  injection e with e1 e2 e3
  subst e1 e2 e3
  by_cases hn : l = []
  · subst hn
    cases ad with
    | none => rw [show ([] : List UInt8).length = 0 from rfl, run_convert_bytes_string w 22 9 5 none 0 c Tryd.underlying22 Tryd.underlying5 Tryd.underlying9]; rfl
    | some a => exact run_convert_bytes_back (P := Tryd.prog) w 22 9 5 a c [] Tryd.underlying22 Tryd.underlying5 Tryd.underlying9 (fun j hj => by simp at hj)
  · obtain ⟨x, rfl, hx, hc⟩ := h3 hn
    exact run_convert_bytes_back (P := Tryd.prog) w 22 9 5 x c l Tryd.underlying22 Tryd.underlying5 Tryd.underlying9 (fun j hj => hc j _ (List.getElem?_eq_getElem hj))
theorem app_bytes {ops : Array Oper} {rest : List Oper} {o : Oper} {a : Act} {Q : Exit → Act → World → Prop} (w : World) (hgd : o.guard = none) (s x : Operand)
    (ho : o.op = .call { callee := .builtin .append, args := #[s, x], argTypes := #[22, 22] }) (base : Nat) (v : Value) (xs : List UInt8) (hs : a.eval s = v) (hown : Ob w base v xs)
    (u : Value) (ys : List UInt8) (hx : a.eval x = u) (hu : By w u ys) (hl : xs.length + ys.length ≤ 1000000000) (hbase : base ≤ w.heap.size)
    (h : ∀ v' w', Ob w' base v' (xs ++ ys) → w.grownBy w' v.ownBlock → wpList Tryd.prog ops Q rest (a.put o.dst v') w') :
    wpList Tryd.prog ops Q (o :: rest) a w := by
  obtain ⟨i0, hi, hz0, hz1, hz2⟩ := info_parts info_byte
  obtain ⟨ad, c, rfl, h1, h2, h3⟩ := hu
  by_cases hn : ys = []
  · subst hn
    refine wpList_plain hgd fun K hK => ?_
    have hrun := run_append_no (P := Tryd.prog) (w := w) base 22 o.type 5 i0 1 Tryd.underlying22 hi v xs.length _ hown ad c
    have hx' : a.eval x = .slice ad 0 c := hx
    unfold Oper.wp
    simp [execOp, ho, resolve, invoke, builtin, hs, hx', hrun, Result.andThen]
    exact hK _ _ (h v w (by simpa using hown) (World.grownBy.refl _ _))
  · obtain ⟨y, rfl, hy, hc⟩ := h3 hn
    refine wpList_append_own w hgd s x 22 ho base 5 i0 (.int .u8 0) 1 1 Tryd.underlying22 hi hz0 hz1 hz2 rfl (by decide) v xs.length _ hs hown y ys.length c (byteCells ys) hx (by simp [byteCells]) ?_ ?_ (by unfold maxLen; omega) (by omega) hbase ?_
    · intro j u hj
      rw [byteCells, List.getElem?_map] at hj
      cases hd : ys[j]? with
      | none => rw [hd] at hj; cases hj
      | some d => rw [hd] at hj; cases hj; exact hc j d hd
    · intro u hu
      simp only [byteCells, List.mem_map] at hu
      obtain ⟨b, -, rfl⟩ := hu
      rfl
    · intro v' w' k1 k2 _
      refine h v' w' ?_ k2
      unfold Ob
      rw [List.length_append, byteCells, List.map_append]
      exact k1
end Go.Proofs.YtifijfaefpdmpaaDoor

namespace Go.Proofs.YtifijfaefpdmpaaDoor
open Go.RowKit
set_option linter.unusedVariables false

/-- what stays where the list v grows to u. -/
structure Gb (w : World) (v : Value) (w' : World) (u : Value) : Prop where
  g : w.grownBy w' v.ownBlock
  o : u.ownBlock = v.ownBlock ∨ ∃ k, u.ownBlock = some k ∧ w.heap.size ≤ k
theorem Gb.refl (w : World) (v : Value) : Gb w v w v := ⟨World.grownBy.refl _ _, .inl rfl⟩
theorem Gb.trans {w w1 w2 : World} {v u t : Value} (h : Gb w v w1 u) (k : Gb w1 u w2 t) : Gb w v w2 t := by
  refine ⟨⟨k.g.os.trans h.g.os, k.g.tape.trans h.g.tape, k.g.output.trans h.g.output, Nat.le_trans h.g.size k.g.size, fun i hi hne => ?_⟩, ?_⟩
  · refine (k.g.block i (Nat.lt_of_lt_of_le hi h.g.size) ?_).trans (h.g.block i hi hne)
    rcases h.o with e | ⟨b, e, hb⟩
    · rw [e]; exact hne
    · rw [e]; intro h; injection h with h; omega
  · rcases k.o with e | ⟨b, e, hb⟩
    · rcases h.o with e' | ⟨b, e', hb⟩
      · exact .inl (e.trans e')
      · exact .inr ⟨b, e.trans e', hb⟩
    · exact .inr ⟨b, e, Nat.le_trans h.g.size hb⟩
theorem Gb.below {w w' : World} {v u : Value} {B : Nat} (h : Gb w v w' u) (hB : B ≤ w.heap.size) (hr : ∀ b, v.ownBlock = some b → B ≤ b) : Below B w w' := (Below.refl _ _).grown h.g hB hr
theorem Gb.alloc {w w' : World} {v u : Value} {o : Obj} (h : Gb (w.alloc o) v w' u) : Gb w v w' u := by
  refine ⟨⟨h.g.os, h.g.tape, h.g.output, ?_, fun i hi hne => ?_⟩, ?_⟩
  · have := h.g.size; simp at this; omega
  · rw [h.g.block i (by simp; omega) hne]
    exact heap_alloc_old w o hi
  · rcases h.o with e | ⟨b, e, hb⟩
    · exact .inl e
    · simp at hb
      exact .inr ⟨b, e, by omega⟩
theorem app_byte2 {ops : Array Oper} {rest : List Oper} {o : Oper} {a : Act} {Q : Exit → Act → World → Prop} (w : World) (hgd : o.guard = none) (s x : Operand)
    (ho : o.op = .call { callee := .builtin .append, args := #[s, x], argTypes := #[22, 22] }) (base : Nat) (v : Value) (l : List UInt8) (hs : a.eval s = v) (hown : Ob w base v l)
    (ad : Addr) (b : UInt8) (hx : a.eval x = .slice (some ad) 1 1) (hd : w.cell? ad = some (.int .u8 (b.toNat : Nat))) (hl : l.length ≤ 2000000000) (hbase : base ≤ w.heap.size)
    (h : ∀ v' w', Ob w' base v' (l ++ [b]) → Gb w v w' v' → wpList Tryd.prog ops Q rest (a.put o.dst v') w') :
    wpList Tryd.prog ops Q (o :: rest) a w := by
  obtain ⟨i0, hi, hz0, hz1, hz2⟩ := info_parts info_byte
  refine wpList_append_lies w hgd s x 22 ho base 5 i0 (.int .u8 0) 1 1 Tryd.underlying22 hi hz0 hz1 hz2 rfl (by decide) v l.length _ hs hown ad 1 1 [.int .u8 (b.toNat : Nat)] hx rfl ?_ ?_ (by decide) (by unfold maxLen; omega) (by omega) hbase _ rfl ?_
  · intro j u hj
    match j, hj with
    | 0, hj => simp at hj; subst hj; exact hd
  · intro u hu
    simp at hu
    subst hu
    rfl
  · intro g cap w' h1 h2 h3 h4
    refine h _ w' ?_ ⟨h2, ?_⟩
    · unfold Ob
      rw [List.length_append, byteCells_snoc]
      exact h1
    · rcases h3 with h3 | h3
      · exact .inl (by rw [h3]; rfl)
      · exact .inr ⟨g, rfl, by omega⟩
set_option maxRecDepth 100000 in
set_option maxHeartbeats 4000000 in
theorem rnumb_any (base : Nat) (v : Value) (l : List UInt8) (n : Int) (w : World) (h : Ob w base v l) (hb : base ≤ w.heap.size) (hl : l.length ≤ 1000000000) (hi : Wd.In64 n) :
    Calls Tryd.prog 19 #[v, .int .i64 n] w fun e w' => ∃ u, e = .returned u ∧ Ob w' base u (l ++ Wd.num n) ∧ Gb w v w' u := by
  have O : Hid (Ob w base v l) := h
  have LL : Hid (l.length ≤ 1000000000 ∧ base ≤ w.heap.size) := ⟨hl, hb⟩
  obtain ⟨x, hx⟩ : ∃ x, Wd.zz n = x := ⟨_, rfl⟩
  have HX : Hid (Wd.num n = Wd.vl x ∧ x < 18446744073709551616) := ⟨by unfold Wd.num; rw [hx], by rw [← hx]; exact Wd.zz_lt hi⟩
  unfold Wd.In64 at hi
  have START : ∃ p : Nat, IntKind.u64.wrap n = (p : Nat) ∧ ∃ q : Nat, (p : Int) * 2 = (q : Nat) ∧ ∃ r : Nat, IntKind.u64.wrap (q : Nat) = (r : Nat) ∧ (0 ≤ n → r = x) := by
    refine ⟨(IntKind.u64.wrap n).toNat, ?_, _, rfl, ?_⟩
    · rw [IntKind.wrap_u64]; omega
    · refine ⟨(IntKind.u64.wrap (((IntKind.u64.wrap n).toNat * 2 : Nat) : Int)).toNat, ?_, ?_⟩
      · rw [IntKind.wrap_u64]; omega
      · intro h0
        rw [← hx]
        unfold Wd.zz
        rw [if_neg (by omega), IntKind.wrap_u64, IntKind.wrap_u64]
        omega
  obtain ⟨p, ep, q, eq, r, er, hr⟩ := START
  have LOOP : Hid True := trivial
  clear h hl hb
  by_cases h0 : n < 0
  · obtain ⟨m, hm⟩ : ∃ m : Nat, -(n + 1) = (m : Nat) := ⟨(-(n + 1)).toNat, by omega⟩
    obtain ⟨m1, hm1⟩ : ∃ m1 : Int, n + 1 = m1 := ⟨_, rfl⟩
    rw [hm1] at hm
    have wm1 : IntKind.i64.wrap m1 = m1 := by rw [IntKind.wrap_i64]; omega
    have wm : IntKind.i64.wrap (m : Int) = (m : Int) := by rw [IntKind.wrap_i64]; omega
    obtain ⟨m2, hm2⟩ : ∃ m2, m * 2 = m2 := ⟨_, rfl⟩
    have em2 : (m : Int) * 2 = (m2 : Nat) := by omega
    have wm2 : IntKind.u64.wrap ((m2 : Nat) : Int) = (m2 : Nat) := by rw [IntKind.wrap_u64]; omega
    have wmu : IntKind.u64.wrap ((m : Nat) : Int) = (m : Nat) := by rw [IntKind.wrap_u64]; omega
    have ex : ((m2 : Nat) : Int) + 1 = (x : Nat) := by
      rw [← hx]; unfold Wd.zz; rw [if_pos h0]; omega
    have wx : IntKind.u64.wrap ((x : Nat) : Int) = (x : Nat) := by rw [IntKind.wrap_u64]; have := HX.out.2; omega
    clear hx hr hi
    go_enter Tryd.func19, Tryd.ntmps19
    go_wp2
    go_loopw [0, 5] (fun bv xv W => ∃ (y : Nat) (D : List UInt8), xv = .int .u64 (y : Nat) ∧ y < 18446744073709551616 ∧ D ++ Wd.vl y = Wd.vl x ∧ Ob W base bv (l ++ D) ∧ Gb w v W bv) (fun _ xv _ => (intOf xv).toNat)
    case atStart => exact ⟨x, [], rfl, HX.out.2, rfl, by rw [List.append_nil]; exact O.out, Gb.refl _ _⟩
    case round =>
      obtain ⟨y, D, rfl, hy, hv, ho, hg⟩ := hrel
      have O2 : Hid (Ob wr base u0 (l ++ D)) := ho
      have G2 : Hid (Gb w v wr u0) := hg
      have HV : Hid (D ++ Wd.vl y = Wd.vl x) := hv
      have DL : Hid ((l ++ D).length ≤ 1000000010) := by
        unfold Hid
        have h1 := vl_len HX.out.2
        have h2 := congrArg List.length hv
        have h3 := LL.out.1
        rw [List.length_append] at h2 ⊢
        omega
      have BS : Hid (base ≤ wr.heap.size) := Nat.le_trans LL.out.2 hg.g.size
      clear ho hg hv
      obtain ⟨L, hL⟩ : ∃ L, l ++ D = L := ⟨_, rfl⟩
      have HL : Hid (l ++ D = L) := hL
      rw [hL] at O2 DL
      clear hL
      by_cases h128 : 128 ≤ y
      · obtain ⟨m9, hm9⟩ : ∃ m, y % 128 = m := ⟨_, rfl⟩
        obtain ⟨d, hd⟩ : ∃ d, y / 128 = d := ⟨_, rfl⟩
        have hmi : (y : Int) % 128 = m9 := by omega
        have hdi : (y : Int) / 128 = d := by omega
        have m1' : m9 < 128 := by omega
        have hgi : (127 : Int) < (y : Int) := by omega
        obtain ⟨c, hc⟩ : ∃ c, UInt8.ofNat (m9 + 128) = c := ⟨_, rfl⟩
        have em : c.toNat = m9 + 128 := by rw [← hc, UInt8.toNat_ofNat']; omega
        have HE : Hid (Wd.vl y = c :: Wd.vl d) := by unfold Hid; rw [Wd.vl_great h128, hm9, hd, hc]
        have hdl : Hid (d < y) := by unfold Hid; omega
        clear hm9 hd h128 hc
        go_wp2_with (at_builtin; refine app_byte2 _ rfl _ _ rfl base _ L rfl (O2.out.alloc _) ⟨wr.heap.size, 0, none⟩ c rfl (by rw [em]; simp) (by have := DL.out; omega) (by have := BS.out; simp; omega) ?_)
        intro v5 w5 o5 g5
        have O5 : Hid (Ob w5 base v5 (l ++ (D ++ [c]))) := by unfold Hid; rw [← List.append_assoc, HL.out]; exact o5
        have G5 : Hid (Gb w v w5 v5) := G2.out.trans g5.alloc
        clear o5 g5
        go_wp2
        go_roundw
        case rel =>
          refine ⟨d, D ++ [c], rfl, by have := hdl.out; omega, ?_, O5.out, G5.out⟩
          rw [List.append_assoc, ← HV.out, HE.out]
          rfl
        case measure => have := hdl.out; simp [intOf]; omega
      · have hgi : ¬ (127 : Int) < (y : Int) := by omega
        obtain ⟨c, hc⟩ : ∃ c, UInt8.ofNat y = c := ⟨_, rfl⟩
        have em : c.toNat = y := by rw [← hc, UInt8.toNat_ofNat']; omega
        have wy : IntKind.u8.wrap (y : Int) = (y : Int) := by rw [IntKind.wrap_u8]; omega
        have HE : Hid (D ++ [c] = Wd.num n) := by unfold Hid; rw [HX.out.1, ← HV.out, Wd.vl_small (by omega), hc]
        clear h128 hc
        go_wp2_with (at_builtin; refine app_byte2 _ rfl _ _ rfl base _ L rfl (O2.out.alloc _) ⟨wr.heap.size, 0, none⟩ c rfl (by rw [em]; simp) (by have := DL.out; omega) (by have := BS.out; simp; omega) ?_)
        intro v5 w5 o5 g5
        have O5 : Hid (Ob w5 base v5 (l ++ Wd.num n)) := by unfold Hid; rw [← HE.out, ← List.append_assoc, HL.out]; exact o5
        have G5 : Hid (Gb w v w5 v5) := G2.out.trans g5.alloc
        clear o5 g5
        go_wp2
        go_ret
        exact ⟨_, rfl, O5.out, G5.out⟩
  · have hrx := hr (by omega)
    subst hrx
    clear hx hr hi
    go_enter Tryd.func19, Tryd.ntmps19
    go_wp2
    go_loopw [0, 5] (fun bv xv W => ∃ (y : Nat) (D : List UInt8), xv = .int .u64 (y : Nat) ∧ y < 18446744073709551616 ∧ D ++ Wd.vl y = Wd.vl r ∧ Ob W base bv (l ++ D) ∧ Gb w v W bv) (fun _ xv _ => (intOf xv).toNat)
    case atStart => exact ⟨r, [], rfl, HX.out.2, rfl, by rw [List.append_nil]; exact O.out, Gb.refl _ _⟩
    case round =>
      obtain ⟨y, D, rfl, hy, hv, ho, hg⟩ := hrel
      have O2 : Hid (Ob wr base u0 (l ++ D)) := ho
      have G2 : Hid (Gb w v wr u0) := hg
      have HV : Hid (D ++ Wd.vl y = Wd.vl r) := hv
      have DL : Hid ((l ++ D).length ≤ 1000000010) := by
        unfold Hid
        have h1 := vl_len HX.out.2
        have h2 := congrArg List.length hv
        have h3 := LL.out.1
        rw [List.length_append] at h2 ⊢
        omega
      have BS : Hid (base ≤ wr.heap.size) := Nat.le_trans LL.out.2 hg.g.size
      clear ho hg hv
      obtain ⟨L, hL⟩ : ∃ L, l ++ D = L := ⟨_, rfl⟩
      have HL : Hid (l ++ D = L) := hL
      rw [hL] at O2 DL
      clear hL
      by_cases h128 : 128 ≤ y
      · obtain ⟨m9, hm9⟩ : ∃ m, y % 128 = m := ⟨_, rfl⟩
        obtain ⟨d, hd⟩ : ∃ d, y / 128 = d := ⟨_, rfl⟩
        have hmi : (y : Int) % 128 = m9 := by omega
        have hdi : (y : Int) / 128 = d := by omega
        have m1' : m9 < 128 := by omega
        have hgi : (127 : Int) < (y : Int) := by omega
        obtain ⟨c, hc⟩ : ∃ c, UInt8.ofNat (m9 + 128) = c := ⟨_, rfl⟩
        have em : c.toNat = m9 + 128 := by rw [← hc, UInt8.toNat_ofNat']; omega
        have HE : Hid (Wd.vl y = c :: Wd.vl d) := by unfold Hid; rw [Wd.vl_great h128, hm9, hd, hc]
        have hdl : Hid (d < y) := by unfold Hid; omega
        clear hm9 hd h128 hc
        go_wp2_with (at_builtin; refine app_byte2 _ rfl _ _ rfl base _ L rfl (O2.out.alloc _) ⟨wr.heap.size, 0, none⟩ c rfl (by rw [em]; simp) (by have := DL.out; omega) (by have := BS.out; simp; omega) ?_)
        intro v5 w5 o5 g5
        have O5 : Hid (Ob w5 base v5 (l ++ (D ++ [c]))) := by unfold Hid; rw [← List.append_assoc, HL.out]; exact o5
        have G5 : Hid (Gb w v w5 v5) := G2.out.trans g5.alloc
        clear o5 g5
        go_wp2
        go_roundw
        case rel =>
          refine ⟨d, D ++ [c], rfl, by have := hdl.out; omega, ?_, O5.out, G5.out⟩
          rw [List.append_assoc, ← HV.out, HE.out]
          rfl
        case measure => have := hdl.out; simp [intOf]; omega
      · have hgi : ¬ (127 : Int) < (y : Int) := by omega
        obtain ⟨c, hc⟩ : ∃ c, UInt8.ofNat y = c := ⟨_, rfl⟩
        have em : c.toNat = y := by rw [← hc, UInt8.toNat_ofNat']; omega
        have wy : IntKind.u8.wrap (y : Int) = (y : Int) := by rw [IntKind.wrap_u8]; omega
        have HE : Hid (D ++ [c] = Wd.num n) := by unfold Hid; rw [HX.out.1, ← HV.out, Wd.vl_small (by omega), hc]
        clear h128 hc
        go_wp2_with (at_builtin; refine app_byte2 _ rfl _ _ rfl base _ L rfl (O2.out.alloc _) ⟨wr.heap.size, 0, none⟩ c rfl (by rw [em]; simp) (by have := DL.out; omega) (by have := BS.out; simp; omega) ?_)
        intro v5 w5 o5 g5
        have O5 : Hid (Ob w5 base v5 (l ++ Wd.num n)) := by unfold Hid; rw [← HE.out, ← List.append_assoc, HL.out]; exact o5
        have G5 : Hid (Gb w v w5 v5) := G2.out.trans g5.alloc
        clear o5 g5
        go_wp2
        go_ret
        exact ⟨_, rfl, O5.out, G5.out⟩
end Go.Proofs.YtifijfaefpdmpaaDoor

namespace Go.Proofs.YtifijfaefpdmpaaDoor
open Go.RowKit
set_option linter.unusedVariables false

theorem wr_cons' (x : Int) (xs : List Int) : Wd.wr (x :: xs) = Wd.num x ++ Wd.wr xs := by simp [Wd.wr]
/-- what the reference's Pack tells. -/
def RPackSays (l : List ChV) (w w' : World) (v r : Value) : Prop :=
  (chk (fun _ => true) l ≠ 0 ∧ v = .slice none 0 0 ∧ r = .int .i64 (chk (fun _ => true) l)) ∨ (chk (fun _ => true) l = 0 ∧ r = .int .i64 0 ∧ Ob w' w.heap.size v (Wd.wr (Fe.nums l)))
set_option maxRecDepth 100000 in
set_option maxHeartbeats 16000000 in
theorem rPack_any (vl : Value) (ks : List ChV) (w : World) (hl : Chl w vl ks) :
    Calls Tryd.prog 10 #[vl] w fun e w' => ∃ v r, e = .returned (.tuple #[v, r]) ∧ RPackSays ks w w' v r ∧ Below w.heap.size w w' := by
  have L : Hid (Chl w vl ks) := hl
  obtain ⟨pl, cl, rfl, l1, l2, -⟩ := hl
  by_cases k6 : 6000 < ks.length
  · have k6' : (6000 : Int) < (ks.length : Int) := by omega
    have E : Hid (chk (fun _ => true) ks = 4) := by unfold Hid chk; rw [if_pos k6]
    clear k6
    go_enter Tryd.func10, Tryd.ntmps10
    go_wp2
    go_ret2
    exact ⟨_, _, rfl, .inl ⟨by rw [E.out]; decide, rfl, by rw [E.out]; rfl⟩, Below.refl _ _⟩
  have k6' : ¬ (6000 : Int) < (ks.length : Int) := by omega
  have kl6 : ks.length ≤ 6000 := by omega
  have E : Hid (chk (fun _ => true) ks = Fe.cfault (fun _ => true) (-1) ks) := by unfold Hid chk; rw [if_neg k6]
  have NL : Hid (∀ n : Int, Wd.In64 n → (Wd.num n).length ≤ 10) := fun n hn => num_len hn
  clear k6
  go_enter Tryd.func10, Tryd.ntmps10
  go_wp2_with fail
  refine (rnumb_any w.heap.size _ [] (ks.length : Nat) w (Ob.nil _ _) (Nat.le_refl _) (by simp) (by unfold Wd.In64; omega)).mono ?_
  rintro e w1 ⟨v1, rfl, ho, hg⟩
  have B1 : Hid (Below w.heap.size w w1) := hg.below (Nat.le_refl _) (fun b hb => by simp [Value.ownBlock] at hb)
  have O1 : Hid (Ob w1 w.heap.size v1 (Wd.num (ks.length : Nat))) := by unfold Hid; simpa using ho
  have L1 : Hid ((Wd.num (ks.length : Nat)).length ≤ 10) := NL.out _ (by unfold Wd.In64; omega)
  clear ho hg
  go_wp2_with fail
  go_loopw [4, 5, 6] (fun bv pv iv W => ∃ (i : Nat) (p : Int) (bs : List UInt8), i ≤ ks.length ∧ pv = .int .i64 p ∧ iv = .int .i64 (i : Nat) ∧ 0 ≤ p ∧ p ≤ 5999 ∧ bs.length ≤ 10 * (3 * i + 1) ∧ bs ++ Wd.wr (Fe.chain p (ks.drop i)) = Wd.wr (Fe.nums ks) ∧ Fe.cfault (fun _ => true) (-1) ks = Fe.cfault (fun _ => true) (Fe.ahead ks i) (ks.drop i) ∧ Ob W w.heap.size bv bs ∧ Below w.heap.size w W) (fun _ _ iv _ => ks.length - (intOf iv).toNat)
  case atStart => exact ⟨0, 0, Wd.num (ks.length : Nat), Nat.zero_le _, rfl, rfl, by omega, by omega, L1.out, by rw [List.drop_zero]; unfold Fe.nums; rw [wr_cons'], by simp [Fe.ahead], O1.out, B1.out⟩
  case round =>
  obtain ⟨i, p, bs, hi, rfl, rfl, hp0, hp1, hbl, hbs, hcf, ho, hb⟩ := hrel
  have LB : Hid (bs.length ≤ 10 * (3 * i + 1)) := hbl
  have HB : Hid (bs ++ Wd.wr (Fe.chain p (ks.drop i)) = Wd.wr (Fe.nums ks)) := hbs
  have CF : Hid (Fe.cfault (fun _ => true) (-1) ks = Fe.cfault (fun _ => true) (Fe.ahead ks i) (ks.drop i)) := hcf
  have O : Hid (Ob wr w.heap.size u4 bs) := ho
  have BW : Hid (Below w.heap.size w wr) := hb
  clear hbl hbs hcf ho hb O1 B1 L1
  by_cases hie : i = ks.length
  case pos =>
    have CE : Hid (chk (fun _ => true) ks = 0 ∧ bs = Wd.wr (Fe.nums ks)) := by
      refine ⟨?_, ?_⟩
      · rw [E.out, CF.out, hie, List.drop_length]
        rfl
      · have := HB.out
        rw [hie, List.drop_length] at this
        simpa [Fe.chain, Wd.wr] using this
    have hii : ¬ (i : Int) < (ks.length : Int) := by omega
    go_wp2
    go_ret2
    exact ⟨_, _, rfl, .inr ⟨CE.out.1, rfl, by rw [← CE.out.2]; exact O.out⟩, BW.out⟩
  case neg =>
    have hil : i < ks.length := by omega
    have hil' : (i : Int) < (ks.length : Int) := by omega
    obtain ⟨c, hc⟩ : ∃ c, ks[i]? = some c := ⟨_, List.getElem?_eq_getElem hil⟩
    have HC : Hid (ks[i]? = some c) := hc
    have DR : Hid (ks.drop i = c :: ks.drop (i + 1)) := by
      unfold Hid
      rw [List.drop_eq_getElem_cons hil]
      congr 1
      rw [List.getElem?_eq_getElem hil] at hc
      injection hc
    have EC : Hid (chk (fun _ => true) ks = if Fe.Bad c then 1 else if c.at_ ≤ Fe.ahead ks i then 5 else Fe.cfault (fun _ => true) c.at_ (ks.drop (i + 1))) := by
      unfold Hid
      rw [E.out, CF.out, DR.out]
      simp only [Fe.cfault, if_true]
    have AH : Hid (Fe.ahead ks (i + 1) = c.at_) := by
      unfold Hid
      show (match ks[i]? with | some c => c.at_ | none => -1) = _
      rw [hc]
    clear hc
    go_wp2_with fail
    refine (rchange_any _ ks i c wr (L.out.below BW.out) HC.out (by omega)).mono ?_
    rintro e w2 ⟨rfl, hb⟩
    have B2 : Hid (Below w.heap.size w w2) := BW.out.trans (hb.mono BW.out.size)
    have O2 : Hid (Ob w2 w.heap.size u4 bs) := World.ownsRow.kept O.out (row := none) ⟨hb.os, hb.tape, hb.output, hb.size, fun k hk _ => hb.block k hk⟩ (by cases u4.ownBlock <;> simp)
    clear hb
    obtain ⟨ch, hch⟩ : ∃ n, Fe.rch (Fe.ahead ks i) c = n := ⟨_, rfl⟩
    have CH : Hid (Fe.rch (Fe.ahead ks i) c = ch) := hch
    rw [hch]
    clear hch
    by_cases hc0 : ch = 0
    case neg =>
      have hcb : (ch == 0) = false := beq_eq_false_iff_ne.2 hc0
      have EF : Hid (chk (fun _ => true) ks = ch ∧ ch ≠ 0) := by
        refine ⟨?_, hc0⟩
        rw [EC.out, ← CH.out]
        have h9 := CH.out
        unfold Fe.rch at h9 ⊢
        by_cases b1 : Fe.Bad c
        · rw [if_pos b1, if_pos b1]
        · rw [if_neg b1] at h9 ⊢
          rw [if_neg b1]
          by_cases b2 : c.at_ ≤ Fe.ahead ks i
          · rw [if_pos b2, if_pos b2]
          · rw [if_neg b2] at h9
            exact absurd h9.symm hc0
      go_wp2
      go_ret2
      exact ⟨_, _, rfl, .inl ⟨by rw [EF.out.1]; exact EF.out.2, rfl, by rw [EF.out.1]; rfl⟩, B2.out⟩
    have NB : Hid (¬ Fe.Bad c ∧ ¬ c.at_ ≤ Fe.ahead ks i) := by
      have h9 := CH.out
      rw [hc0] at h9
      unfold Fe.rch at h9
      by_cases b1 : Fe.Bad c
      · rw [if_pos b1] at h9; cases h9
      · rw [if_neg b1] at h9
        by_cases b2 : c.at_ ≤ Fe.ahead ks i
        · rw [if_pos b2] at h9; cases h9
        · exact ⟨b1, b2⟩
    subst hc0
    obtain ⟨a', c', e', -, -, hq⟩ := L.out
    injection e' with e1 e2 e3
    subst e1 e3
    obtain ⟨x, rfl, xlt, hcc⟩ := hq (by rintro rfl; simp at hil)
    have RD : Hid (∀ W, Below w.heap.size w W → Chc W (x.add (i * 3)) c) := fun W hW => (hcc i c HC.out).below hW (by rw [add_block]; exact xlt)
    clear hq hcc xlt e2
    have nb := NB.out.1
    have EF : Hid (Fe.cfault (fun _ => true) (-1) ks = Fe.cfault (fun _ => true) (Fe.ahead ks (i + 1)) (ks.drop (i + 1))) := by
      unfold Hid
      rw [← E.out, EC.out, if_neg NB.out.1, if_neg NB.out.2, AH.out]
    have HY : Hid (((bs ++ Wd.num (c.at_ - p)) ++ Wd.num (c.old + 1)) ++ Wd.num (c.new + 1) ++ Wd.wr (Fe.chain c.at_ (ks.drop (i + 1))) = Wd.wr (Fe.nums ks)) := by
      unfold Hid
      rw [← HB.out, DR.out, Fe.chain, wr_cons', wr_cons', wr_cons']
      simp only [List.append_assoc]
    clear EC CF CH NB HB DR AH HC
    obtain ⟨ca, co, cn⟩ := c
    unfold Fe.Bad at nb
    simp only at nb HY EF
    have wa : IntKind.i64.wrap (ca - p) = ca - p := by rw [IntKind.wrap_i64]; omega
    have wo : IntKind.i64.wrap (co + 1) = co + 1 := by rw [IntKind.wrap_i64]; omega
    have wn : IntKind.i64.wrap (cn + 1) = cn + 1 := by rw [IntKind.wrap_i64]; omega
    have LA : Hid ((Wd.num (ca - p)).length ≤ 10 ∧ (Wd.num (co + 1)).length ≤ 10 ∧ (Wd.num (cn + 1)).length ≤ 10) := ⟨NL.out _ (by unfold Wd.In64; omega), NL.out _ (by unfold Wd.In64; omega), NL.out _ (by unfold Wd.In64; omega)⟩
    have i1 : Hid (Wd.In64 (ca - p) ∧ Wd.In64 (co + 1) ∧ Wd.In64 (cn + 1)) := by unfold Hid Wd.In64; omega
    have CA : Hid (0 ≤ ca ∧ ca ≤ 5999) := by unfold Hid; omega
    clear nb
    obtain ⟨d0, d1, d2⟩ := RD.out w2 B2.out
    simp only at d0 d1 d2
    go_wp2_with fail
    refine (rnumb_any w.heap.size _ (bs) (ca - p) w2 O2.out B2.out.size (by have := LB.out; have := LA.out; (try simp only [List.length_append]); omega) i1.out.1).mono ?_
    rintro e w3 ⟨v3, rfl, ho, hg⟩
    have B3 : Hid (Below w.heap.size w w3) := B2.out.trans (hg.below B2.out.size (fun b hb => (O2.out.block b hb).1))
    have O3 : Hid (Ob w3 w.heap.size v3 ((bs) ++ Wd.num (ca - p))) := ho
    clear ho hg d0 d1 d2 O2
    obtain ⟨d0, d1, d2⟩ := RD.out w3 B3.out
    simp only at d0 d1 d2
    go_wp2_with fail
    refine (rnumb_any w.heap.size _ (bs ++ Wd.num (ca - p)) (co + 1) w3 O3.out B3.out.size (by have := LB.out; have := LA.out; (try simp only [List.length_append]); omega) i1.out.2.1).mono ?_
    rintro e w4 ⟨v4, rfl, ho, hg⟩
    have B4 : Hid (Below w.heap.size w w4) := B3.out.trans (hg.below B3.out.size (fun b hb => (O3.out.block b hb).1))
    have O4 : Hid (Ob w4 w.heap.size v4 ((bs ++ Wd.num (ca - p)) ++ Wd.num (co + 1))) := ho
    clear ho hg d0 d1 d2 O3
    obtain ⟨d0, d1, d2⟩ := RD.out w4 B4.out
    simp only at d0 d1 d2
    go_wp2_with fail
    refine (rnumb_any w.heap.size _ ((bs ++ Wd.num (ca - p)) ++ Wd.num (co + 1)) (cn + 1) w4 O4.out B4.out.size (by have := LB.out; have := LA.out; (try simp only [List.length_append]); omega) i1.out.2.2).mono ?_
    rintro e w5 ⟨v5, rfl, ho, hg⟩
    have B5 : Hid (Below w.heap.size w w5) := B4.out.trans (hg.below B4.out.size (fun b hb => (O4.out.block b hb).1))
    have O5 : Hid (Ob w5 w.heap.size v5 (((bs ++ Wd.num (ca - p)) ++ Wd.num (co + 1)) ++ Wd.num (cn + 1))) := ho
    clear ho hg d0 d1 d2 O4
    obtain ⟨d0, d1, d2⟩ := RD.out w5 B5.out
    simp only at d0 d1 d2
    go_wp2
    go_roundw
    case rel => exact ⟨i + 1, ca, _, by omega, rfl, by go_num, CA.out.1, CA.out.2, by have := LB.out; have := LA.out; (try simp only [List.length_append]); omega, HY.out, EF.out, O5.out, B5.out⟩
    case measure => simp [intOf]; omega
end Go.Proofs.YtifijfaefpdmpaaDoor

namespace Go.Proofs.YtifijfaefpdmpaaDoor
open Go.RowKit
set_option linter.unusedVariables false

set_option maxRecDepth 100000 in
set_option maxHeartbeats 4000000 in
theorem changes_like (u v : Value) (ks : List ChV) (w : World) (hu : Chl w u ks) (hv : Chl w v ks) :
    Calls Tryd.prog 7 #[u, v] w fun e w' => e = .returned (.bool true) ∧ Below w.heap.size w w' := by
  obtain ⟨a, c, rfl, hc1, hc2, ha⟩ := hu
  obtain ⟨b, d, rfl, hd1, hd2, hb⟩ := hv
  have Ha : Hid (ks ≠ [] → ∃ x, a = some x ∧ x.block < w.heap.size ∧ ∀ (i : Nat) k, ks[i]? = some k → Chc w (x.add (i * 3)) k) := ha
  have Hb : Hid (ks ≠ [] → ∃ x, b = some x ∧ x.block < w.heap.size ∧ ∀ (i : Nat) k, ks[i]? = some k → Chc w (x.add (i * 3)) k) := hb
  clear ha hb
  go_enter Tryd.func7, Tryd.ntmps7
  go_wp2
  go_loopw [5] (fun i W' => ∃ k : Nat, k ≤ ks.length ∧ i = .int .i64 (k : Nat) ∧ ∃ n, W' = w.drewN n) (fun i _ => ks.length - (intOf i).toNat)
  case atStart => exact ⟨0, Nat.zero_le _, rfl, 0, rfl⟩
  case round =>
    obtain ⟨k, hk, rfl, n, rfl⟩ := hrel
    by_cases h0 : k = ks.length
    · subst h0
      have B : Hid (Below w.heap.size w (w.drewN n)) := ⟨rfl, rfl, rfl, Nat.le_refl _, fun _ _ => rfl⟩
      go_wp2
      go_ret
      exact ⟨rfl, B⟩
    · have hlt : k < ks.length := by omega
      have hlti : ((k : Nat) : Int) < (ks.length : Nat) := by omega
      obtain ⟨o, ho⟩ : ∃ o, ks[k]? = some o := ⟨_, List.getElem?_eq_getElem hlt⟩
      have hne : ks ≠ [] := by rintro rfl; simp at hlt
      obtain ⟨x, rfl, hx, hxc⟩ := Ha.out hne
      obtain ⟨y, rfl, hy, hyc⟩ := Hb.out hne
      have cx := hxc k o ho
      have cy := hyc k o ho
      obtain ⟨q0, q1, q2⟩ := cx
      obtain ⟨r0, r1, r2⟩ := cy
      clear hxc hyc hne ho
      go_wp2
      go_quiet (fail)
      go_wp2
      go_round
      case rel => exact ⟨k + 1, by omega, by go_num, n + nq, rfl⟩
      case measure => simp [intOf]; omega
end Go.Proofs.YtifijfaefpdmpaaDoor

namespace Go.Proofs.YtifijfaefpdmpaaDoor
open Go.ChangeShapes Go.WideShapes Go.ChangeAt Go.RowKit
set_option linter.unusedVariables false

theorem byte_of_wf {n : Int} (h : (Lit.int .u8 n).wf = true) : 0 ≤ n ∧ n < 256 := by
  simp only [Lit.wf, Bool.and_eq_true, decide_eq_true_eq] at h
  have h1 : IntKind.u8.min = 0 := by decide
  have h2 : IntKind.u8.max = 255 := by decide
  omega
theorem bulk_pos {H : Type} : ∀ d : DataW H, 1 ≤ Rows.uptoBulk d
  | .lit (.string bytes) => by simp [Rows.uptoBulk]
  | .lit (.int _ _) => by simp [Rows.uptoBulk]
  | .lit (.bool _) => by simp [Rows.uptoBulk]
  | .lit (.float .f32 _) => by simp [Rows.uptoBulk]
  | .lit (.float .f64 _) => by simp [Rows.uptoBulk]
  | .lit .nil => by simp [Rows.uptoBulk]
  | .nil => by simp [Rows.uptoBulk]
  | .ptr d => by simp [Rows.uptoBulk]
  | .slice _ _ => by simp [Rows.uptoBulk]
  | .agg _ => by simp [Rows.uptoBulk]
  | .iface _ _ => by simp [Rows.uptoBulk]
  | .map _ => by simp [Rows.uptoBulk]
  | .held _ => by simp [Rows.uptoBulk]
theorem bulk_len {H : Type} : ∀ ds : List (DataW H), ds.length ≤ Rows.uptoBulkAll ds
  | [] => by simp
  | d :: ds => by
    have h1 := bulk_pos d
    have h2 := bulk_len ds
    simp only [Rows.uptoBulkAll, List.length_cons]
    omega
theorem bulk_slice {H : Type} (es sp : List (DataW H)) : es.length ≤ Rows.uptoBulk (.slice es sp) := by
  have := bulk_len es
  simp only [Rows.uptoBulk]
  omega
end Go.Proofs.YtifijfaefpdmpaaDoor

namespace Go.Proofs.YtifijfaefpdmpaaDoor
open Go.ChangeShapes Go.WideShapes Go.ChangeAt Go.RowKit
set_option linter.unusedVariables false

set_option maxRecDepth 100000 in
theorem open_bytes {H : Type} {enc : TypeId × Value → H} {W : World} {base : Nat} {held : Bool} {fuel : Nat} {v : Value} {y : DataW H × List MemPlace} (h : DataW.trod enc Tryd.prog W base (fun _ => true) held fuel 22 [v] = some y) :
    ∃ l, By W v l ∧ l.length ≤ Rows.uptoBulk y.1 := by
  rcases open_ints Tryd.underlying22 Tryd.underlying5 (by kernel_rfl) h with ⟨hcs, rfl⟩ | ⟨x, l, c, zs, hcs, _, hl, hm, hz, rfl, hcell, hwz⟩
  · simp at hcs
    subst hcs
    exact ⟨[], ⟨none, 0, rfl, Nat.le_refl _, by omega, fun h => absurd rfl h⟩, by simp⟩
  · simp at hcs
    subst hcs
    simp only [if_true] at hz
    have hlen : ((zs.take l).map fun n => UInt8.ofNat n.toNat).length = l := by rw [List.length_map, List.length_take]; omega
    refine ⟨(zs.take l).map fun n => UInt8.ofNat n.toNat, ⟨some x, c, by rw [hlen], by omega, by omega, fun hn => ⟨x, rfl, ?_, fun i d hd => ?_⟩⟩, ?_⟩
    · have h0 : 0 < zs.length := by
        rcases Nat.eq_zero_or_pos zs.length with h | h
        · exact absurd (by rw [List.length_eq_zero_iff.1 h]; simp) hn
        · exact h
      have := cell_lt (x := x.add 0) (hcell 0 h0)
      rwa [add_block] at this
    · rw [List.getElem?_map, List.getElem?_take] at hd
      split at hd
      · rename_i hil
        have hi : i < zs.length := by omega
        rw [List.getElem?_eq_getElem hi] at hd
        simp only [Option.map_some, Option.some.injEq] at hd
        have hb := byte_of_wf (hwz zs[i] (List.getElem_mem hi))
        rw [hcell i hi, List.getD_eq_getElem?_getD, List.getElem?_eq_getElem hi, ← hd, UInt8.toNat_ofNat']
        simp only [Option.getD_some]
        congr 2
        omega
      · simp at hd
    · have := bulk_slice (H := H) (lits .u8 (zs.take l)) (lits .u8 (zs.drop l))
      rw [List.length_map]
      simpa [lits] using this
set_option maxRecDepth 100000 in
theorem bytes_in {H : Type} {enc : TypeId × Value → H} {W : World} {base b0 : Nat} {held : Bool} {v : Value} {d : DataW H} {p : List MemPlace} (hv : Value.okWide Tryd.prog W .any b0 22 v) (h : DataW.Trod enc Tryd.prog W base (fun _ => true) held 22 v d p) :
    ∃ l, By W v l ∧ l.length ≤ Rows.uptoBulk d := by
  obtain ⟨a, len, cap, rfl⟩ := okWide_slice Tryd.underlying22 hv
  obtain ⟨fuel, hf⟩ := h
  exact open_bytes hf
end Go.Proofs.YtifijfaefpdmpaaDoor

