/- turn.hire. · The program's orders: what is wrong with one. · Slices of api.Order that the call itself makes, by append. · orders.Check, unitOf, lastOnes. · Orders in a block that may be sorted in place. · The program's orders: compare. · slices.insertionSortCmpFunc of orders by compare. · slices.swapRangeCmpFunc of orders, by places. · slices.rotateCmpFunc of orders, by places. · slices.symMergeCmpFunc of orders: one in front. -/
import Derived.Test.YtkejdkajfnaieaaGreatDoorZTurnOrder3
import Derived.Test.YtkejdkajfnaieaaGreatDoorZTurnOrder5
import Derived.Test.YtkejdkajfnaieaaGreatDoorZTurnOrder10
import Derived.Test.YtkejdkajfnaieaaGreatDoorZTurnOrder4
import Derived.Test.YtkejdkajfnaieaaGreatDoorZTurnOrder1
import Derived.BigRegion
import Derived.Deep.DeepCutAuto
import Derived.Laws.Closers25
import Derived.IntWalk
import Derived.OwnWalk
import Derived.Deep.AppendLies
import Derived.LoopN
import Derived.Shelf.Abstract
namespace Go.Proofs.YtkejdkajfnaieaaGreatDoor
open Go.RowKit
set_option linter.unusedVariables false

set_option maxRecDepth 100000 in
set_option maxHeartbeats 8000000 in
theorem hire_any (z gg n cg b1 : Nat) (c0 c1 c2 c3 c4 c5 c7 : Value) (gold : List Int) (rest : Array Value) (a8 : Option Addr) (h8 : Nat) (qs : List JbV) (k : KV) (o : OrV) (pn : Nat) (g : Int) (w : World)
    (X : Wx w z c0 c1 c2 c3 c4 c5 (.slice (some ⟨gg, 0, none⟩) n cg) c7 (.slice a8 qs.length h8)) (B : Bk w gg gold rest) (J : Jbo w b1 (.slice a8 qs.length h8) qs) (hp : o.player = (pn : Nat)) (hpn : pn < n) (hg : gold[pn]? = some g) (g0 : 0 ≤ g ∧ g ≤ 1000000) (k5 : 0 ≤ k.n5 ∧ k.n5 ≤ 1000) (k6 : 0 ≤ k.n6 ∧ k.n6 ≤ 1000) (hq : qs.length ≤ 12)
    (hz : z < b1) (hgb : b1 ≤ gg) (hb : b1 ≤ w.heap.size) (hd : (Value.slice a8 qs.length h8).ownBlock ≠ some gg) :
    Calls Tryz.prog 114 #[.pointer (some ⟨z, 0, none⟩), k.val, o.val] w fun e w' => e = .returned (.tuple #[]) ∧ ∃ a8' h8', Wx w' z c0 c1 c2 c3 c4 c5 (.slice (some ⟨gg, 0, none⟩) n cg) c7 (.slice a8' (qs.length + 1) h8') ∧ Bk w' gg (gold.set pn (g - k.n5)) rest ∧ Jbo w' b1 (.slice a8' (qs.length + 1) h8') (qs ++ [⟨o.player, o.unit, o.arg, max k.n6 1⟩]) ∧ Fr (fun q => q = z ∨ q = gg ∨ (Value.slice a8 qs.length h8).ownBlock = some q) w w' ∧ ((Value.slice a8' (qs.length + 1) h8').ownBlock = (Value.slice a8 qs.length h8).ownBlock ∨ ∃ q, (Value.slice a8' (qs.length + 1) h8').ownBlock = some q ∧ w.heap.size ≤ q) := by
  have X0 : Hid (Wx w z c0 c1 c2 c3 c4 c5 (.slice (some ⟨gg, 0, none⟩) n cg) c7 (.slice a8 qs.length h8)) := X
  have B0 : Hid (Bk w gg gold rest) := B
  have J0 : Hid (Jbo w b1 (.slice a8 qs.length h8) qs) := J
  have NN : Hid (o.player = (pn : Nat) ∧ gold[pn]? = some g ∧ z < b1 ∧ b1 ≤ gg ∧ b1 ≤ w.heap.size ∧ (Value.slice a8 qs.length h8).ownBlock ≠ some gg ∧ pn < n) := ⟨hp, hg, hz, hgb, hb, hd, hpn⟩
  have ggl := B.lt
  have JL : Hid (∀ q, (Value.slice a8 qs.length h8).ownBlock = some q → q < w.heap.size) := fun q hq => (J.block q hq).2
  have zl := X.lt
  have TT : ∃ tt, max k.n6 1 = tt ∧ 1 ≤ tt ∧ tt ≤ 1000 := ⟨_, rfl, by omega, by omega⟩
  obtain ⟨tt, htt, tt1, tt2⟩ := TT
  have HT : Hid (max k.n6 1 = tt) := htt
  have zg : ¬ z = gg := by omega
  have zs : ¬ z = w.heap.size := by omega
  have zs1 : ¬ z = w.heap.size + 1 := by omega
  have gs' : ¬ gg = w.heap.size := by omega
  have gs1 : ¬ gg = w.heap.size + 1 := by omega
  have pni : ((pn : Nat) : Int) < (n : Nat) := by omega
  rw [htt]
  clear X B J hp hg hd htt hz hgb hb
  unfold KV.val OrV.val
  go_enter Tryz.func114, Tryz.ntmps114
  go_upto_region 1 with fail
  have BA : Hid (Below w.heap.size w (w.alloc (Obj.cells #[.string k.b, .int .i64 k.n0, .int .i64 k.n1, .int .i64 k.n2, .int .i64 k.n3, .int .i64 k.n4, .int .i64 k.n5, .int .i64 k.n6, .int .i64 k.n7, .bool k.f, .bool k.t] 101))) := (Below.refl _ _).alloc (Nat.le_refl _) _
  have BB : Hid (Below (w.alloc (Obj.cells #[.string k.b, .int .i64 k.n0, .int .i64 k.n1, .int .i64 k.n2, .int .i64 k.n3, .int .i64 k.n4, .int .i64 k.n5, .int .i64 k.n6, .int .i64 k.n7, .bool k.f, .bool k.t] 101)).heap.size (w.alloc (Obj.cells #[.string k.b, .int .i64 k.n0, .int .i64 k.n1, .int .i64 k.n2, .int .i64 k.n3, .int .i64 k.n4, .int .i64 k.n5, .int .i64 k.n6, .int .i64 k.n7, .bool k.f, .bool k.t] 101)) ((w.alloc (Obj.cells #[.string k.b, .int .i64 k.n0, .int .i64 k.n1, .int .i64 k.n2, .int .i64 k.n3, .int .i64 k.n4, .int .i64 k.n5, .int .i64 k.n6, .int .i64 k.n7, .bool k.f, .bool k.t] 101)).alloc (Obj.cells #[.int .i64 o.player, .int .i64 o.unit, .int .i64 o.what, .int .i64 o.arg] 40))) := (Below.refl _ _).alloc (Nat.le_refl _) _
  have B1 : Hid (Below w.heap.size w ((w.alloc (Obj.cells #[.string k.b, .int .i64 k.n0, .int .i64 k.n1, .int .i64 k.n2, .int .i64 k.n3, .int .i64 k.n4, .int .i64 k.n5, .int .i64 k.n6, .int .i64 k.n7, .bool k.f, .bool k.t] 101)).alloc (Obj.cells #[.int .i64 o.player, .int .i64 o.unit, .int .i64 o.what, .int .i64 o.arg] 40))) := BA.out.trans (BB.out.mono BA.out.size)
  have KC1 : Hid (Kc ((w.alloc (Obj.cells #[.string k.b, .int .i64 k.n0, .int .i64 k.n1, .int .i64 k.n2, .int .i64 k.n3, .int .i64 k.n4, .int .i64 k.n5, .int .i64 k.n6, .int .i64 k.n7, .bool k.f, .bool k.t] 101)).alloc (Obj.cells #[.int .i64 o.player, .int .i64 o.unit, .int .i64 o.what, .int .i64 o.arg] 40)) ⟨w.heap.size, 0, none⟩ k) := (kind_new (w := w) k rfl).below BB.out (by simp)
  have OC1 : Hid (Orc ((w.alloc (Obj.cells #[.string k.b, .int .i64 k.n0, .int .i64 k.n1, .int .i64 k.n2, .int .i64 k.n3, .int .i64 k.n4, .int .i64 k.n5, .int .i64 k.n6, .int .i64 k.n7, .bool k.f, .bool k.t] 101)).alloc (Obj.cells #[.int .i64 o.player, .int .i64 o.unit, .int .i64 o.what, .int .i64 o.arg] 40)) ⟨w.heap.size + 1, 0, none⟩ o) := Orc.mk' (w := w.alloc (Obj.cells #[.string k.b, .int .i64 k.n0, .int .i64 k.n1, .int .i64 k.n2, .int .i64 k.n3, .int .i64 k.n4, .int .i64 k.n5, .int .i64 k.n6, .int .i64 k.n7, .bool k.f, .bool k.t] 101)) o (by simp)
  clear BA BB
  obtain ⟨y, hy⟩ : ∃ y, w.heap.size = y := ⟨_, rfl⟩
  have HY : Hid (w.heap.size = y) := hy
  rw [hy] at KC1 OC1 zs zs1 gs' gs1 ⊢
  clear hy
  generalize ((w.alloc (Obj.cells #[.string k.b, .int .i64 k.n0, .int .i64 k.n1, .int .i64 k.n2, .int .i64 k.n3, .int .i64 k.n4, .int .i64 k.n5, .int .i64 k.n6, .int .i64 k.n7, .bool k.f, .bool k.t] 101)).alloc (Obj.cells #[.int .i64 o.player, .int .i64 o.unit, .int .i64 o.what, .int .i64 o.arg] 40)) = w1 at *
  have X1 : Hid (Wx w1 z c0 c1 c2 c3 c4 c5 (.slice (some ⟨gg, 0, none⟩) n cg) c7 (.slice a8 qs.length h8)) := X0.out.below B1.out zl
  have G1 : Hid (Bk w1 gg gold rest) := B0.out.below B1.out
  have J1 : Hid (Jbo w1 b1 (.slice a8 qs.length h8) qs) := J0.out.below B1.out
  obtain ⟨x0, x1, x2, x3, x4, x5, x6, x7, x8⟩ := X1.out.cells
  obtain ⟨k0, k1, k2, k3, k4, k5', k6', k7', k8, k9, k10⟩ := KC1.out
  obtain ⟨o0, o1, o2, o3⟩ := OC1.out
  simp only [Nat.zero_add] at k1 k2 k3 k4 k5' k6' k7' k8 k9 k10 o1 o2 o3
  rw [NN.out.1] at o0
  have cg' := G1.out.cell NN.out.2.1
  have tg := G1.out.thaw pn
  have wr : IntKind.i64.wrap (g - k.n5) = g - k.n5 := by rw [IntKind.wrap_i64]; omega
  clear X0 B0 J0
  go_region
  have KZ : Hid (Kp gg w1 (w1.setCell ⟨gg, pn, none⟩ (.int .i64 (g - k.n5))).drew) := (Kp.set _ _ _).trans (Kp.of (Below.refl _ _).drew)
  have G2 : Hid (Bk (w1.setCell ⟨gg, pn, none⟩ (.int .i64 (g - k.n5))).drew gg (gold.set pn (g - k.n5)) rest) := G1.out.set pn _ (List.getElem?_eq_some_iff.1 NN.out.2.1).1
  clear x0 x1 x2 x3 x4 x5 x6 x7 x8 k0 k1 k2 k3 k4 k5' k6' k7' k8 k9 k10 o0 o1 o2 o3 cg' tg wr
  generalize (w1.setCell ⟨gg, pn, none⟩ (.int .i64 (g - k.n5))).drew = w2 at *
  have F2 : Hid (Fr (fun q => q = gg) w1 w2) := Fr.kp KZ.out rfl
  have X2 : Hid (Wx w2 z c0 c1 c2 c3 c4 c5 (.slice (some ⟨gg, 0, none⟩) n cg) c7 (.slice a8 qs.length h8)) := F2.out.wx X1.out zg
  have J2 : Hid (Jbo w2 b1 (.slice a8 qs.length h8) qs) := F2.out.own J1.out (fun q hq e => NN.out.2.2.2.2.2.1 (by rw [hq, e]))
  have KC2 : Hid (Kc w2 ⟨y, 0, none⟩ k) := KC1.out.kp9 KZ.out (fun e => gs' e.symm)
  have OC2 : Hid (w2.cell? ⟨y + 1, 0, none⟩ = some (.int .i64 (pn : Nat)) ∧ w2.cell? ⟨y + 1, 1, none⟩ = some (.int .i64 o.unit) ∧ w2.cell? ⟨y + 1, 3, none⟩ = some (.int .i64 o.arg)) := by
    obtain ⟨q0, q1, q2, q3⟩ := OC1.out
    simp only [Nat.zero_add] at q1 q2 q3
    rw [NN.out.1] at q0
    exact ⟨F2.out.cell q0 (fun e => gs1 e.symm), F2.out.cell q1 (fun e => gs1 e.symm), F2.out.cell q3 (fun e => gs1 e.symm)⟩
  have QB : Hid (∀ q, (Value.slice a8 qs.length h8).ownBlock = some q → b1 ≤ q ∧ q < y) := fun q hq => by
    refine ⟨(J2.out.block q hq).1, ?_⟩
    rw [← HY.out]
    exact JL.out q hq
  have CB : Hid (∀ V, Fr (fun q => (Value.slice a8 qs.length h8).ownBlock = some q) w2 V → (V.cell? ⟨z, 8, none⟩ = some (.slice a8 qs.length h8) ∧ V.cell? ⟨y + 1, 0, none⟩ = some (.int .i64 (pn : Nat)) ∧ V.cell? ⟨y + 1, 1, none⟩ = some (.int .i64 o.unit) ∧ V.cell? ⟨y + 1, 3, none⟩ = some (.int .i64 o.arg) ∧ V.cell? ⟨y, 7, none⟩ = some (.int .i64 k.n6))) := fun V hV => by
    have hy1 : ¬ (Value.slice a8 qs.length h8).ownBlock = some (y + 1) := fun e => by have := (QB.out _ e).2; omega
    have hy0 : ¬ (Value.slice a8 qs.length h8).ownBlock = some y := fun e => by have := (QB.out _ e).2; omega
    have hzq : ¬ (Value.slice a8 qs.length h8).ownBlock = some z := fun e => by have := (QB.out _ e).1; have := NN.out.2.2.1; omega
    obtain ⟨-, -, -, -, -, -, -, -, x8⟩ := X2.out.cells
    have c7 := KC2.out.c7
    simp only [Nat.zero_add] at c7
    exact ⟨hV.cell x8 hzq, hV.cell OC2.out.1 hy1, hV.cell OC2.out.2.1 hy1, hV.cell OC2.out.2.2 hy1, hV.cell c7 hy0⟩
  go_upto_region 2 with fail
  refine wp_region_two [(true, 0), (true, 1), (true, 2), (true, 3), (true, 4), (true, 5), (true, 6), (true, 7), (true, 8), (true, 9), (true, 10), (true, 11), (true, 12), (true, 13), (true, 14), (false, 15), (false, 16), (true, 17), (true, 18)] [(false, 19)] (fun V => V.cell? ⟨z, 8, none⟩ = some (.slice a8 qs.length h8) ∧ V.cell? ⟨y + 1, 0, none⟩ = some (.int .i64 (pn : Nat)) ∧ V.cell? ⟨y + 1, 1, none⟩ = some (.int .i64 o.unit) ∧ V.cell? ⟨y + 1, 3, none⟩ = some (.int .i64 o.arg) ∧ V.cell? ⟨y, 7, none⟩ = some (.int .i64 k.n6)) (by kernel_rfl) (by kernel_rfl) (by kernel_rfl) (by decide +kernel) (by decide +kernel) (CB.out _ (Fr.below (Below.refl _ _).drew)) ?_
  have D3 : Hid (Below w2.heap.size w2 { w2 with drawn := w2.drawn + 1 }) := (Below.refl _ _).drew
  generalize ({ w2 with drawn := w2.drawn + 1 } : World) = w3 at *
  refine headT_read rfl (.pointer (some ⟨z, 0, none⟩)) (by go_simp) (fun V hV => by go_simp) ?_
  go_simp
  refine headT_read rfl (.pointer (some ⟨z, 0, none⟩)) (by go_simp) (fun V hV => by go_simp) ?_
  go_simp
  refine headT_read rfl (.pointer (some ⟨z, 0, none⟩)) (by go_simp) (fun V hV => by go_simp) ?_
  go_simp
  refine headT_read rfl (.pointer (some ⟨z, 8, none⟩)) (by go_simp) (fun V hV => by go_simp) ?_
  go_simp
  refine headT_read rfl (.slice a8 qs.length h8) (by go_simp) (fun V hV => by obtain ⟨d1, d2, d3, d4, d5⟩ := hV; go_simp) ?_
  go_simp
  refine headT_read rfl (.pointer (some ⟨y + 1, 0, none⟩)) (by go_simp) (fun V hV => by go_simp) ?_
  go_simp
  refine headT_read rfl (.int .i64 (pn : Nat)) (by go_simp) (fun V hV => by obtain ⟨d1, d2, d3, d4, d5⟩ := hV; go_simp) ?_
  go_simp
  refine headT_read rfl (.pointer (some ⟨y + 1, 1, none⟩)) (by go_simp) (fun V hV => by go_simp) ?_
  go_simp
  refine headT_read rfl (.int .i64 o.unit) (by go_simp) (fun V hV => by obtain ⟨d1, d2, d3, d4, d5⟩ := hV; go_simp) ?_
  go_simp
  refine headT_read rfl (.pointer (some ⟨y + 1, 3, none⟩)) (by go_simp) (fun V hV => by go_simp) ?_
  go_simp
  refine headT_read rfl (.int .i64 o.arg) (by go_simp) (fun V hV => by obtain ⟨d1, d2, d3, d4, d5⟩ := hV; go_simp) ?_
  go_simp
  refine headT_read rfl (.pointer (some ⟨y, 7, none⟩)) (by go_simp) (fun V hV => by go_simp) ?_
  go_simp
  refine headT_read rfl (.int .i64 k.n6) (by go_simp) (fun V hV => by obtain ⟨d1, d2, d3, d4, d5⟩ := hV; go_simp) ?_
  go_simp
  refine headT_read rfl (.int .i64 tt) (by go_simp) (fun V hV => by have h9 := HT.out; first | (go_simp; done) | (go_simp; rw [h9]) | (simp [h9]; go_simp)) ?_
  go_simp
  refine headT_read rfl (.agg #[.int .i64 (pn : Nat), .int .i64 o.unit, .int .i64 o.arg, .int .i64 tt]) (by go_simp) (fun V hV => by go_simp) ?_
  go_simp
  have BA : Hid (Below w3.heap.size w3 (w3.alloc (Obj.cells #[.int .i64 (pn : Nat), .int .i64 o.unit, .int .i64 o.arg, .int .i64 tt] 104))) := (Below.refl _ _).alloc (Nat.le_refl _) _
  have EC : Hid (Jbc (w3.alloc (Obj.cells #[.int .i64 (pn : Nat), .int .i64 o.unit, .int .i64 o.arg, .int .i64 tt] 104)) ⟨w3.heap.size, 0, none⟩ ⟨(pn : Nat), o.unit, o.arg, tt⟩) := Jbc.mk' (w := w3) ⟨(pn : Nat), o.unit, o.arg, tt⟩ rfl
  refine headT_value rfl (.slice (some ⟨w3.heap.size, 0, none⟩) 1 1) (w3.alloc (Obj.cells #[.int .i64 (pn : Nat), .int .i64 o.unit, .int .i64 o.arg, .int .i64 tt] 104)) (by go_simp) (by go_simp) (CB.out _ (Fr.below (D3.out.trans (BA.out.mono D3.out.size)))) ?_
  go_simp
  generalize (w3.alloc (Obj.cells #[.int .i64 (pn : Nat), .int .i64 o.unit, .int .i64 o.arg, .int .i64 tt] 104)) = w4 at *
  have D4 : Hid (Below w2.heap.size w2 w4) := D3.out.trans (BA.out.mono D3.out.size)
  have J4 : Hid (Jbo w4 b1 (.slice a8 qs.length h8) qs) := J2.out.below D4.out
  have S4 : Hid (b1 ≤ w4.heap.size ∧ w.heap.size ≤ w4.heap.size) := by have h1 := D4.out.size; have h2 := F2.out.size; have h3 := B1.out.size; have h4 := NN.out.2.2.2.2.1; exact ⟨by omega, by omega⟩
  obtain ⟨gq, gc, w5, hr, ho5, hg5, hw5, -⟩ := run_jb w4 27 b1 _ qs J4.out _ _ EC.out (by omega) S4.out.1
  have FQ : Hid (Fr (fun q => (Value.slice a8 qs.length h8).ownBlock = some q) w2 w5) := (Fr.below D4.out).trans (Fr.gb hg5 (fun q hq => hq))
  refine headT_value rfl (.slice (some ⟨gq, 0, none⟩) (qs.length + 1) gc) w5 (by go_simp) (exec_append _ _ _ _ rfl _ _ (by go_simp) (by go_simp) hr) (CB.out _ FQ.out) ?_
  go_simp
  refine headT_read rfl (.pointer (some ⟨z, 0, none⟩)) (by go_simp) (fun V hV => by go_simp) ?_
  go_simp
  refine headT_read rfl (.pointer (some ⟨z, 8, none⟩)) (by go_simp) (fun V hV => by go_simp) ?_
  go_simp
  unfold wpHeadT
  have X5 : Hid (Wx w5 z c0 c1 c2 c3 c4 c5 (.slice (some ⟨gg, 0, none⟩) n cg) c7 (.slice a8 qs.length h8)) := FQ.out.wx X2.out (fun e => by have := (QB.out _ e).1; have := NN.out.2.2.1; omega)
  have t8 := X5.out.thaw 8
  obtain ⟨-, -, -, -, -, -, -, -, x8⟩ := X5.out.cells
  have KX : Hid (Kp z w5 (w5.setCell ⟨z, 8, none⟩ (.slice (some ⟨gq, 0, none⟩) (qs.length + 1) gc))) := Kp.set _ _ _
  have X6 : Hid (Wx (w5.setCell ⟨z, 8, none⟩ (.slice (some ⟨gq, 0, none⟩) (qs.length + 1) gc)) z c0 c1 c2 c3 c4 c5 (.slice (some ⟨gg, 0, none⟩) n cg) c7 (.slice (some ⟨gq, 0, none⟩) (qs.length + 1) gc)) := X5.out.set8 _
  have J5 : Hid (Jbo w5 b1 (.slice (some ⟨gq, 0, none⟩) (qs.length + 1) gc) (qs ++ [⟨(pn : Nat), o.unit, o.arg, tt⟩])) := ho5
  have GQ : Hid ((Value.slice (some ⟨gq, 0, none⟩) (qs.length + 1) gc).ownBlock = (Value.slice a8 qs.length h8).ownBlock ∨ ∃ q, (Value.slice (some ⟨gq, 0, none⟩) (qs.length + 1) gc).ownBlock = some q ∧ w.heap.size ≤ q) := by
    rcases hw5 with h | h
    · exact .inl h.symm
    · exact .inr ⟨gq, rfl, by rw [h]; exact S4.out.2⟩
  clear hr ho5 hg5 hw5
  refine sched_skip rfl (w5.setCell ⟨z, 8, none⟩ (.slice (some ⟨gq, 0, none⟩) (qs.length + 1) gc)) (by go_simp) (by go_simp) trivial ?_
  go_simp
  clear t8 x8
  generalize (w5.setCell ⟨z, 8, none⟩ (.slice (some ⟨gq, 0, none⟩) (qs.length + 1) gc)) = w6 at *
  unfold wpSched
  have FA : Hid (Fr (fun q => q = z ∨ q = gg ∨ (Value.slice a8 qs.length h8).ownBlock = some q) w w6) := (((Fr.below B1.out).trans (F2.out.mono (fun q h => .inr (.inl h)))).trans (FQ.out.mono (fun q h => .inr (.inr h)))).trans (Fr.kp KX.out (.inl rfl))
  have G6 : Hid (Bk w6 gg (gold.set pn (g - k.n5)) rest) := by
    have h5 : Bk w5 gg (gold.set pn (g - k.n5)) rest := (FQ.out.block gg G2.out.lt NN.out.2.2.2.2.2.1).trans G2.out
    exact (KX.out.block gg (lt_of_block h5) (fun e => zg e.symm)).trans h5
  have J6 : Hid (Jbo w6 b1 (.slice (some ⟨gq, 0, none⟩) (qs.length + 1) gc) (qs ++ [⟨o.player, o.unit, o.arg, tt⟩])) := by
    have h5 := J5.out
    rw [← NN.out.1] at h5
    exact h5.kp KX.out NN.out.2.2.1
  go_wp2
  go_end0
  exact ⟨rfl, _, _, X6.out, G6.out, J6.out, FA.out, GQ.out⟩
end Go.Proofs.YtkejdkajfnaieaaGreatDoor

namespace Go.Proofs.YtkejdkajfnaieaaGreatDoor
open Go.RowKit
set_option linter.unusedVariables false

set_option maxHeartbeats 400000 in
theorem owin_any (x b : Int) (w : World) :
    Calls Tryz.prog 220 #[.int .i64 x, .int .i64 b] w fun e w' => e = .returned (.bool (decide (0 ≤ x ∧ x ≤ b))) ∧ w' = w := by
  by_cases h1 : 0 ≤ x
  · by_cases h2 : x ≤ b
    · go_enter Tryz.func220, Tryz.ntmps220
      go_wp2
      go_ret
      exact ⟨by simp [h1, h2], rfl⟩
    · go_enter Tryz.func220, Tryz.ntmps220
      go_wp2
      go_ret
      exact ⟨by simp; omega, rfl⟩
  · go_enter Tryz.func220, Tryz.ntmps220
    go_wp2
    go_ret
    exact ⟨by simp; omega, rfl⟩
theorem owin_is (x b : Int) (r : Bool) (h : decide (0 ≤ x ∧ x ≤ b) = r) : Hid (∀ w, Calls Tryz.prog 220 #[.int .i64 x, .int .i64 b] w fun e w' => e = .returned (.bool r) ∧ w' = w) :=
  fun w => (owin_any x b w).mono fun e w' ⟨h', hw⟩ => ⟨by rw [h', h], hw⟩

def OrdSays (o : OrV) (w : World) (e : Ending) (w' : World) : Prop := ∃ v, e = .returned v ∧ Er v (Od.fault o) ∧ Below w.heap.size w w'
set_option maxRecDepth 100000 in
set_option maxHeartbeats 4000000 in
theorem checkOrder_any (o : OrV) (w : World) : Calls Tryz.prog 187 #[o.val] w (OrdSays o w) := by
  obtain ⟨p, u, n, a⟩ := o
  have BB : Hid (Below w.heap.size w (w.alloc (Obj.cells #[.int .i64 p, .int .i64 u, .int .i64 n, .int .i64 a] 40))) := (Below.refl _ _).alloc (Nat.le_refl _) _
  have bad1 : Od.bad ⟨p, u, n, a⟩ → ∀ w', Hid (Below w.heap.size w w') → OrdSays ⟨p, u, n, a⟩ w (.returned (.iface 97 (.int .i64 1))) w' := fun hb w' hB => ⟨_, rfl, by rw [Od.fault_bad hb]; exact Er.no (by decide), hB⟩
  have B1 : Hid (Od.bad ⟨p, u, n, a⟩ → ∀ w', Hid (Below w.heap.size w w') → OrdSays ⟨p, u, n, a⟩ w (.returned (.iface 97 (.int .i64 1))) w') := bad1
  clear bad1
  unfold OrV.val
  simp only
  by_cases h1 : 0 ≤ p ∧ p ≤ 3
  · have W1 := owin_is p 3 true (decide_eq_true h1)
    by_cases h2 : 0 ≤ u ∧ u ≤ 1000000
    · have W2 := owin_is u 1000000 true (decide_eq_true h2)
      by_cases h3 : 0 ≤ a ∧ a ≤ 1000000
      · have W3 := owin_is a 1000000 true (decide_eq_true h3)
        by_cases h4 : 0 ≤ n ∧ n ≤ 3
        · have W4 := owin_is n 3 true (decide_eq_true h4)
          by_cases h5 : n = 0
          · subst h5
            by_cases h6 : a = 0
            · subst h6
              go_enter Tryz.func187, Tryz.ntmps187
              go_wp2_with fail
              refine (W1.out _).mono ?_
              rintro e w' ⟨rfl, rfl⟩
              go_wp2_with fail
              refine (W2.out _).mono ?_
              rintro e w' ⟨rfl, rfl⟩
              go_wp2_with fail
              refine (W3.out _).mono ?_
              rintro e w' ⟨rfl, rfl⟩
              go_wp2_with fail
              refine (W4.out _).mono ?_
              rintro e w' ⟨rfl, rfl⟩
              go_wp2
              go_ret
              exact ⟨_, rfl, by rw [Od.fault_ok (by unfold Od.bad; simp only; omega)]; exact Er.nil, BB⟩
            · have h6b : (a == 0) = false := beq_eq_false_iff_ne.2 h6
              go_enter Tryz.func187, Tryz.ntmps187
              go_wp2_with fail
              refine (W1.out _).mono ?_
              rintro e w' ⟨rfl, rfl⟩
              go_wp2_with fail
              refine (W2.out _).mono ?_
              rintro e w' ⟨rfl, rfl⟩
              go_wp2_with fail
              refine (W3.out _).mono ?_
              rintro e w' ⟨rfl, rfl⟩
              go_wp2_with fail
              refine (W4.out _).mono ?_
              rintro e w' ⟨rfl, rfl⟩
              go_wp2
              go_ret
              exact B1.out (.inr (.inr (.inr (.inr (.inr (.inr (.inr (.inr ⟨rfl, h6⟩)))))))) _ BB
          · have h5b : (n == 0) = false := beq_eq_false_iff_ne.2 h5
            go_enter Tryz.func187, Tryz.ntmps187
            go_wp2_with fail
            refine (W1.out _).mono ?_
            rintro e w' ⟨rfl, rfl⟩
            go_wp2_with fail
            refine (W2.out _).mono ?_
            rintro e w' ⟨rfl, rfl⟩
            go_wp2_with fail
            refine (W3.out _).mono ?_
            rintro e w' ⟨rfl, rfl⟩
            go_wp2_with fail
            refine (W4.out _).mono ?_
            rintro e w' ⟨rfl, rfl⟩
            go_wp2
            go_ret
            exact ⟨_, rfl, by rw [Od.fault_ok (by unfold Od.bad; simp only; omega)]; exact Er.nil, BB⟩
        · have W4 := owin_is n 3 false (decide_eq_false h4)
          go_enter Tryz.func187, Tryz.ntmps187
          go_wp2_with fail
          refine (W1.out _).mono ?_
          rintro e w' ⟨rfl, rfl⟩
          go_wp2_with fail
          refine (W2.out _).mono ?_
          rintro e w' ⟨rfl, rfl⟩
          go_wp2_with fail
          refine (W3.out _).mono ?_
          rintro e w' ⟨rfl, rfl⟩
          go_wp2_with fail
          refine (W4.out _).mono ?_
          rintro e w' ⟨rfl, rfl⟩
          go_wp2
          go_ret
          exact B1.out (by unfold Od.bad; simp only; omega) _ BB
      · have W3 := owin_is a 1000000 false (decide_eq_false h3)
        go_enter Tryz.func187, Tryz.ntmps187
        go_wp2_with fail
        refine (W1.out _).mono ?_
        rintro e w' ⟨rfl, rfl⟩
        go_wp2_with fail
        refine (W2.out _).mono ?_
        rintro e w' ⟨rfl, rfl⟩
        go_wp2_with fail
        refine (W3.out _).mono ?_
        rintro e w' ⟨rfl, rfl⟩
        go_wp2
        go_ret
        exact B1.out (by unfold Od.bad; simp only; omega) _ BB
    · have W2 := owin_is u 1000000 false (decide_eq_false h2)
      go_enter Tryz.func187, Tryz.ntmps187
      go_wp2_with fail
      refine (W1.out _).mono ?_
      rintro e w' ⟨rfl, rfl⟩
      go_wp2_with fail
      refine (W2.out _).mono ?_
      rintro e w' ⟨rfl, rfl⟩
      go_wp2
      go_ret
      exact B1.out (by unfold Od.bad; simp only; omega) _ BB
  · have W1 := owin_is p 3 false (decide_eq_false h1)
    go_enter Tryz.func187, Tryz.ntmps187
    go_wp2_with fail
    refine (W1.out _).mono ?_
    rintro e w' ⟨rfl, rfl⟩
    go_wp2
    go_ret
    exact B1.out (by unfold Od.bad; simp only; omega) _ BB
end Go.Proofs.YtkejdkajfnaieaaGreatDoor

namespace Go.Proofs.YtkejdkajfnaieaaGreatDoor
open Go.RowKit
set_option linter.unusedVariables false

theorem info_or : (Tryz.prog.info? 40).map (fun i => (i.zero, i.size, i.bytes)) = some (some (.agg #[.int .i64 0, .int .i64 0, .int .i64 0, .int .i64 0]), 4, 32) := by kernel_rfl
def OrV.cs (k : OrV) : List Value := [.int .i64 k.player, .int .i64 k.unit, .int .i64 k.what, .int .i64 k.arg]
theorem flat_or : ∀ (ks : List OrV) (i j : Nat) (k : OrV), ks[i]? = some k → j < 4 → (ks.flatMap OrV.cs)[i * 4 + j]? = k.cs[j]?
  | [], i, j, k, h, _ => by simp at h
  | x :: ks, 0, j, k, h, hj => by
    simp at h
    subst h
    rw [List.flatMap_cons, List.getElem?_append_left (by simp [OrV.cs]; omega)]
    simp
  | x :: ks, i + 1, j, k, h, hj => by
    rw [List.flatMap_cons, List.getElem?_append_right (by simp [OrV.cs]; omega)]
    have : (i + 1) * 4 + j - (OrV.cs x).length = i * 4 + j := by simp [OrV.cs]; omega
    rw [this]
    exact flat_or ks i j k (by simpa using h) hj
/-- v is a slice of them, in a block of its own from base on. -/
def Oro (w : World) (base : Nat) (v : Value) (ks : List OrV) : Prop := w.ownsRow base 40 4 v ks.length (ks.flatMap OrV.cs)
theorem Oro.nil (w : World) (base : Nat) : Oro w base (.slice none 0 0) [] := World.ownsRow_nil _ _ _ _
theorem Oro.below {w w' : World} {base : Nat} {v : Value} {ks : List OrV} (h : Oro w base v ks) (hb : Below w.heap.size w w') : Oro w' base v ks :=
  World.ownsRow.kept h (row := none) ⟨hb.os, hb.tape, hb.output, hb.size, fun k hk _ => hb.block k hk⟩ (by cases v.ownBlock <;> simp)
theorem Oro.kept {w w' : World} {base : Nat} {v : Value} {ks : List OrV} {row : Option Nat} (h : Oro w base v ks) (hg : w.grownBy w' row) (hne : v.ownBlock = none ∨ v.ownBlock ≠ row) : Oro w' base v ks := World.ownsRow.kept h hg hne
theorem Oro.alloc {w : World} {base : Nat} {v : Value} {ks : List OrV} (h : Oro w base v ks) (o : Obj) : Oro (w.alloc o) base v ks := World.ownsRow.alloc h o
theorem Oro.block {w : World} {base : Nat} {v : Value} {ks : List OrV} (h : Oro w base v ks) : ∀ k, v.ownBlock = some k → base ≤ k ∧ k < w.heap.size := World.ownsRow.lt h
theorem Oro.mono {w : World} {base base' : Nat} {v : Value} {ks : List OrV} (h : Oro w base v ks) (hb : base' ≤ base) : Oro w base' v ks := by
  refine ⟨h.1, ?_⟩
  rcases h.2 with h1 | ⟨g, cap, cur, h1, h2, h3⟩
  · exact .inl h1
  · exact .inr ⟨g, cap, cur, h1, Nat.le_trans hb h2, h3⟩
theorem Oro.l {w : World} {base : Nat} {v : Value} {ks : List OrV} (h : Oro w base v ks) : Orl w v ks := by
  rcases h.2 with ⟨hv, h0⟩ | ⟨g, cap, cur, hv, hb, hg, h1, h2, h3, h4⟩
  · exact ⟨none, 0, by rw [hv, h0], by omega, by omega, fun hn => absurd (List.length_eq_zero_iff.1 h0) hn⟩
  · refine ⟨_, cap, hv, h1, by unfold maxLen at h2; omega, fun _ => ⟨_, rfl, lt_of_block hg, fun i k hi => ?_⟩⟩
    have hil : i < ks.length := (List.getElem?_eq_some_iff.1 hi).1
    have h5 : w.ownsRow base 40 4 (.slice (some ⟨g, 0, none⟩) ks.length cap) ks.length (ks.flatMap OrV.cs) := by rw [← hv]; exact h
    have hc : ∀ j u, j < 4 → k.cs[j]? = some u → w.cell? ⟨g, i * 4 + j, none⟩ = some u := fun j u hj hu => by
      rw [h5.cellAt (i * 4 + j) (by omega), flat_or ks i j k hi hj, hu]
    rw [Addr.add_lit, Nat.zero_add]
    exact ⟨hc 0 _ (by decide) rfl, hc 1 _ (by decide) rfl, hc 2 _ (by decide) rfl, hc 3 _ (by decide) rfl⟩
theorem Oro.len {w : World} {base : Nat} {v : Value} {ks : List OrV} (h : Oro w base v ks) : ∃ a c, v = .slice a ks.length c := by
  obtain ⟨a, c, h1, -⟩ := h.l
  exact ⟨a, c, h1⟩

/-- one more. -/
theorem app_or {ops : Array Oper} {rest : List Oper} {o : Oper} {a : Act} {Q : Exit → Act → World → Prop} (w : World) (hgd : o.guard = none) (s x : Operand)
    (ho : o.op = .call { callee := .builtin .append, args := #[s, x], argTypes := #[30, 30] }) (base : Nat) (v : Value) (ks : List OrV) (hs : a.eval s = v) (hown : Oro w base v ks)
    (b : Nat) (d : OrV) (hx : a.eval x = .slice (some ⟨b, 0, none⟩) 1 1) (hd : Orc w ⟨b, 0, none⟩ d) (hl : ks.length ≤ 1000000) (hbase : base ≤ w.heap.size)
    (h : ∀ g cap w', Oro w' base (.slice (some ⟨g, 0, none⟩) (ks.length + 1) cap) (ks ++ [d]) → w.grownBy w' v.ownBlock → (v.ownBlock = some g ∨ g = w.heap.size) → g < w'.heap.size → wpList Tryz.prog ops Q rest (a.put o.dst (.slice (some ⟨g, 0, none⟩) (ks.length + 1) cap)) w') :
    wpList Tryz.prog ops Q (o :: rest) a w := by
  obtain ⟨i0, hi, hz0, hz1, hz2⟩ := info_parts info_or
  refine wpList_append_lies w hgd s x 30 ho base 40 i0 (.agg #[.int .i64 0, .int .i64 0, .int .i64 0, .int .i64 0]) 4 32 Tryz.underlying30 hi hz0 hz1 hz2 rfl (by decide) v ks.length _ hs hown ⟨b, 0, none⟩ 1 1 d.cs hx rfl ?_ ?_ (by decide) (by unfold maxLen; omega) (by omega) hbase _ rfl ?_
  · intro j u hj
    have hjn : j < 4 := (List.getElem?_eq_some_iff.1 hj).1
    rw [Addr.add_lit, Nat.zero_add]
    match j, hjn, hj with
    | 0, _, hj => simp [OrV.cs] at hj; subst hj; exact hd.c0
    | 1, _, hj => simp [OrV.cs] at hj; subst hj; exact hd.c1
    | 2, _, hj => simp [OrV.cs] at hj; subst hj; exact hd.c2
    | 3, _, hj => simp [OrV.cs] at hj; subst hj; exact hd.c3
  · intro u hu
    simp [OrV.cs] at hu
    rcases hu with rfl | rfl | rfl | rfl <;> rfl
  · intro g cap w' h1 h2 h3 h4
    refine h g cap w' ?_ h2 h3 h4
    unfold Oro
    rw [List.length_append, List.flatMap_append]
    simpa using h1
end Go.Proofs.YtkejdkajfnaieaaGreatDoor

namespace Go.Proofs.YtkejdkajfnaieaaGreatDoor
open Go.RowKit Go.Proofs.YtkejdkajfnaieaaGreatDoor.So
set_option linter.unusedVariables false

theorem Um.mono {w : World} {b n n' : Nat} {f : Int → Int → Int} (h : Um w b n f) (hn : n ≤ n') : Um w b n' f := by
  obtain ⟨D, h1, h2⟩ := h
  exact ⟨D, h1.mono hn, h2⟩
def OcI (ks : List OrV) (w : World) (j : Value) (W' : World) : Prop := ∃ q : Nat, q ≤ ks.length ∧ j = .int .i64 (q : Nat) ∧ (∀ (i : Nat) o, i < q → ks[i]? = some o → ¬ Od.bad o) ∧ Below w.heap.size w W'
set_option maxRecDepth 100000 in
set_option maxHeartbeats 4000000 in
theorem ocheck_any (v : Value) (ks : List OrV) (w : World) (h : Orl w v ks) :
    Calls Tryz.prog 154 #[v] w fun e w' => ∃ u, e = .returned u ∧ Er u (Od.faults ks) ∧ Below w.heap.size w w' := by
  have K0 : Hid (Orl w v ks) := h
  obtain ⟨R, hR⟩ : ∃ R, Od.faults ks = R := ⟨_, rfl⟩
  have HR : Hid (Od.faults ks = R) := hR
  rw [hR]
  clear hR
  obtain ⟨a, c, rfl, c1, c2, -⟩ := h
  by_cases h8 : 60 < ks.length
  · have E : Hid (R = 4) := by unfold Hid; rw [← HR.out]; unfold Od.faults; rw [if_pos h8]
    have h8' : (60 : Int) < (ks.length : Int) := by omega
    go_enter Tryz.func154, Tryz.ntmps154
    go_wp2
    go_ret
    exact ⟨_, rfl, by rw [E.out]; exact Er.no (by decide), Below.refl _ _⟩
  · have h8' : ¬ (60 : Int) < (ks.length : Int) := by omega
    have LE : Hid (ks.length ≤ 60) := by unfold Hid; omega
    go_enter Tryz.func154, Tryz.ntmps154
    go_wp2_with fail
    go_loopw [12] (fun j W' => OcI ks w j W') (fun j _ => ks.length - (intOf j).toNat)
    case atStart => exact ⟨0, Nat.zero_le _, rfl, fun i o hi => by omega, Below.refl _ _⟩
    case round =>
      obtain ⟨q, hq, rfl, hg, hb⟩ := hrel
      have Gq : Hid (∀ (i : Nat) o, i < q → ks[i]? = some o → ¬ Od.bad o) := hg
      have B : Hid (Below w.heap.size w wr) := hb
      clear hg hb
      by_cases hql : q = ks.length
      · have E : Hid (R = 0) := by
          unfold Hid
          rw [← HR.out]
          refine Od.faults_of LE.out fun o ho => ?_
          obtain ⟨i, hi⟩ := List.mem_iff_getElem?.1 ho
          exact Gq.out i o (by rw [hql]; exact (List.getElem?_eq_some_iff.1 hi).1) hi
        subst hql
        go_wp2
        go_ret
        exact ⟨_, rfl, by rw [E.out]; exact Er.nil, B⟩
      · have hqk : q < ks.length := by omega
        obtain ⟨k, hk⟩ : ∃ k, ks[q]? = some k := ⟨_, List.getElem?_eq_getElem hqk⟩
        have HK : Hid (ks[q]? = some k) := hk
        have K1 := K0.out.below B.out
        have CK : Hid (∀ W : World, Calls Tryz.prog 187 #[k.val] W (OrdSays k W)) := fun W => checkOrder_any k W
        obtain ⟨F, hF⟩ : ∃ F, Od.fault k = F := ⟨_, rfl⟩
        have HF : Hid (Od.fault k = F) := hF
        clear hF
        obtain ⟨a', c', e, -, -, h3⟩ := K1
        injection e with e1 e2 e3
        subst e1 e3
        obtain ⟨x, rfl, hx1, hx⟩ := h3 (by rintro rfl; simp at hqk)
        have Yc := hx q k hk
        clear hx h3 e2 hk
        obtain ⟨q0, q1, q2, q3⟩ := Yc
        unfold OrV.val at CK
        go_upto_region 6 with fail
        have B1 : Hid (Below wr.heap.size wr (wr.alloc (Obj.cells #[.int .i64 k.player, .int .i64 k.unit, .int .i64 k.what, .int .i64 k.arg] 40))) := (Below.refl _ _).alloc (Nat.le_refl _) _
        have X1 := Orc.mk' (w := wr) k rfl
        clear q0 q1 q2 q3
        generalize wr.alloc (Obj.cells #[.int .i64 k.player, .int .i64 k.unit, .int .i64 k.what, .int .i64 k.arg] 40) = w1 at *
        obtain ⟨x0, x1, x2, x3⟩ := X1
        simp only [Nat.zero_add] at x1 x2 x3
        go_wp2_with fail
        refine Calls.mono (CK.out w1) ?_
        rintro e w2 ⟨u, rfl, hu, b2⟩
        rw [HF.out] at hu
        have B3 : Hid (Below w.heap.size w w2) := B.out.trans ((B1.out.trans (b2.mono B1.out.size)).mono B.out.size)
        clear b2 CK x0 x1 x2 x3 B1
        rcases hu with ⟨hF, rfl⟩ | ⟨hF, rfl⟩
        · have G2 : Hid (∀ (i : Nat) o, i < q + 1 → ks[i]? = some o → ¬ Od.bad o) := fun i o hi ho => by
            by_cases e : i = q
            · subst e
              rw [HK.out] at ho
              obtain rfl := Option.some.inj ho
              intro hbad
              have := HF.out
              rw [Od.fault_bad hbad] at this
              omega
            · exact Gq.out i o (by omega) ho
          go_wp2
          go_round
          case rel => exact ⟨q + 1, by omega, by go_num, G2, B3⟩
          case measure => simp [intOf]; omega
        · have E : Hid (R = F ∧ F ≠ 0) := by
            have hbad : Od.bad k := by
              rcases Classical.em (Od.bad k) with h | h
              · exact h
              · exact absurd (HF.out.symm.trans (Od.fault_ok h)) hF
            refine ⟨?_, hF⟩
            rw [← HR.out, ← HF.out, Od.fault_bad hbad]
            unfold Od.faults
            rw [if_neg (by have := LE.out; omega), if_pos (List.any_eq_true.2 ⟨k, List.mem_of_getElem? HK.out, decide_eq_true hbad⟩)]
          clear hF
          go_wp2
          go_ret
          exact ⟨_, rfl, by rw [E.out.1]; exact Er.no E.out.2, B3⟩
set_option maxHeartbeats 1000000 in
theorem unitOf_any (o : OrV) (w : World) : Calls Tryz.prog 156 #[o.val] w fun e w' => e = .returned (.agg #[.int .i64 o.player, .int .i64 o.unit]) ∧ Below w.heap.size w w' := by
  unfold OrV.val
  go_enter Tryz.func156, Tryz.ntmps156
  go_wp2
  refine bodyPost_ret (v := .agg #[.int .i64 o.player, .int .i64 o.unit]) (by simp [results, Tryz.results156, go_sem]) rfl ⟨rfl, ?_⟩
  exact ((Below.refl _ _).alloc (Nat.le_refl _) _).alloc (by simp) _
def LoI (ks : List OrV) (w : World) (j : Value) (W' : World) : Prop := ∃ q : Nat, q ≤ ks.length ∧ j = .int .i64 (q : Nat) ∧ Um W' w.heap.size q (lf ks q) ∧ Below w.heap.size w W'
set_option maxRecDepth 100000 in
set_option maxHeartbeats 4000000 in
theorem lastOnes_any (v : Value) (ks : List OrV) (w : World) (h : Orl w v ks) (hl : ks.length ≤ 60) (hb : ∀ o ∈ ks, ¬ Od.bad o) :
    Calls Tryz.prog 155 #[v] w fun e w' => ∃ b n, e = .returned (.map (some b)) ∧ Um w' b n (lf ks ks.length) ∧ w.heap.size ≤ b ∧ Below w.heap.size w w' := by
  have K0 : Hid (Orl w v ks) := h
  have HB : Hid (∀ o ∈ ks, ¬ Od.bad o) := hb
  have LE : Hid (ks.length ≤ 60) := hl
  obtain ⟨a, c, rfl, c1, c2, -⟩ := h
  have hmm := @run_makeMap Tryz.prog
  clear hb
  go_enter Tryz.func155, Tryz.ntmps155
  go_wp2_with fail
  go_loopw [9] (fun j W' => LoI ks w j W') (fun j _ => ks.length - (intOf j).toNat)
  case atStart => exact ⟨0, Nat.zero_le _, rfl, um_made w, (Below.refl _ _).alloc (Nat.le_refl _) _⟩
  case round =>
    obtain ⟨q, hq, rfl, hg, hb⟩ := hrel
    have Gq : Hid (Um wr w.heap.size q (lf ks q)) := hg
    have B : Hid (Below w.heap.size w wr) := hb
    clear hg hb
    by_cases hql : q = ks.length
    · subst hql
      go_wp2
      go_ret
      exact ⟨_, _, rfl, Gq, Nat.le_refl _, B⟩
    · have hqk : q < ks.length := by omega
      obtain ⟨k, hk⟩ : ∃ k, ks[q]? = some k := ⟨_, List.getElem?_eq_getElem hqk⟩
      have HK : Hid (ks[q]? = some k) := hk
      have OK := Od.ok_of (HB.out k (List.mem_of_getElem? hk))
      have WF : Hid ((Lit.int .i64 k.player).wf = true ∧ (Lit.int .i64 k.unit).wf = true ∧ (Lit.int .i64 ((q : Nat) : Int)).wf = true) := ⟨wf64 (by omega) (by omega), wf64 (by omega) (by omega), wf64 (by omega) (by omega)⟩
      have K1 := K0.out.below B.out
      obtain ⟨a', c', e, -, -, h3⟩ := K1
      injection e with e1 e2 e3
      subst e1 e3
      obtain ⟨x, rfl, hx1, hx⟩ := h3 (by rintro rfl; simp at hqk)
      have Yc := hx q k hk
      clear hx h3 e2 hk OK
      obtain ⟨q0, q1, q2, q3⟩ := Yc
      go_upto_region 5 with fail
      have B1 : Hid (Below wr.heap.size wr (wr.alloc (Obj.cells #[.int .i64 k.player, .int .i64 k.unit, .int .i64 k.what, .int .i64 k.arg] 40))) := (Below.refl _ _).alloc (Nat.le_refl _) _
      have X1 := Orc.mk' (w := wr) k rfl
      clear q0 q1 q2 q3
      generalize wr.alloc (Obj.cells #[.int .i64 k.player, .int .i64 k.unit, .int .i64 k.what, .int .i64 k.arg] 40) = w1 at *
      have G1 : Hid (Um w1 w.heap.size q (lf ks q)) := Gq.out.below B1.out
      have B2 : Hid (Below w.heap.size w w1) := B.out.trans (B1.out.mono B.out.size)
      obtain ⟨x0, x1, x2, x3⟩ := X1
      simp only [Nat.zero_add] at x1 x2 x3
      by_cases h3 : k.what = 3
      · have NX : Hid (Um w1 w.heap.size (q + 1) (lf ks (q + 1))) := by unfold Hid; rw [lf_train HK.out h3]; exact G1.out.mono (by omega)
        go_wp2
        go_round
        case rel => exact ⟨q + 1, by omega, by go_num, NX, B2⟩
        case measure => simp [intOf]; omega
      · have h3b : (k.what == 3) = false := beq_eq_false_iff_ne.2 h3
        go_wp2_with fail
        refine Calls.mono (unitOf_any k w1) ?_
        rintro e w2 ⟨rfl, b2⟩
        have B3 : Hid (Below w.heap.size w w2) := B2.out.trans (b2.mono B2.out.size)
        have G2 : Hid (Um w2 w.heap.size q (lf ks q)) := G1.out.below b2
        obtain ⟨w3, r3, o3, g3⟩ := G2.out.put (by have := LE.out; unfold maxLen; omega) WF.out.1 WF.out.2.1 WF.out.2.2
        have NX : Hid (Um w3 w.heap.size (q + 1) (lf ks (q + 1))) := by unfold Hid; rw [lf_other HK.out h3]; exact o3
        have B4 : Hid (Below w.heap.size w w3) := B3.out.grown g3 B3.out.size (fun k hk => by cases hk; exact Nat.le_refl _)
        clear b2 o3 g3 x0 x1 x2 x3
        go_wp2
        go_round
        case rel => exact ⟨q + 1, by omega, by go_num, NX, B4⟩
        case measure => simp [intOf]; omega
end Go.Proofs.YtkejdkajfnaieaaGreatDoor

namespace Go.Proofs.YtkejdkajfnaieaaGreatDoor
open Go.RowKit
set_option linter.unusedVariables false

/-- block g has these orders, and more behind them. -/
def Rb (w : World) (g : Nat) (ks : List OrV) (rest : List Value) : Prop := w.heap[g]? = some (.cells (ks.flatMap OrV.cs ++ rest).toArray 40 (0, 0))
theorem Rb.lt {w : World} {g : Nat} {ks : List OrV} {rest : List Value} (h : Rb w g ks rest) : g < w.heap.size := lt_of_block h
theorem Rb.thaw {w : World} {g : Nat} {ks : List OrV} {rest : List Value} (h : Rb w g ks rest) (i : Nat) : w.frozen? ⟨g, i, none⟩ = false := by
  unfold Rb at h
  simp [World.frozen?, h]
theorem Rb.below {w w' : World} {g B : Nat} {ks : List OrV} {rest : List Value} (h : Rb w g ks rest) (hb : Below B w w') (hB : g < B) : Rb w' g ks rest := by
  unfold Rb at *
  rw [hb.block g hB]; exact h
theorem oflat_len (ks : List OrV) : (ks.flatMap OrV.cs).length = ks.length * 4 := by
  induction ks with
  | nil => rfl
  | cons k ks ih =>
    rw [List.flatMap_cons, List.length_append, ih, List.length_cons]
    simp [OrV.cs]
    omega
theorem Rb.at_ {w : World} {g : Nat} {ks : List OrV} {rest : List Value} (h : Rb w g ks rest) {i : Nat} {o : OrV} (ho : ks[i]? = some o) {j : Nat} (hj : j < 4) : w.cell? ⟨g, i * 4 + j, none⟩ = o.cs[j]? := by
  unfold Rb at h
  have hi : i < ks.length := (List.getElem?_eq_some_iff.1 ho).1
  simp only [World.cell?, h]
  have e : (ks.flatMap OrV.cs ++ rest).toArray[i * 4 + j]? = o.cs[j]? := by
    rw [List.getElem?_toArray, List.getElem?_append_left (by rw [oflat_len]; omega), flat_or ks i j o ho hj]
  simp only [e]
  simp
theorem Rb.cells {w : World} {g : Nat} {ks : List OrV} {rest : List Value} (h : Rb w g ks rest) {i : Nat} {o : OrV} (ho : ks[i]? = some o) :
    w.cell? ⟨g, i * 4, none⟩ = some (.int .i64 o.player) ∧ w.cell? ⟨g, i * 4 + 1, none⟩ = some (.int .i64 o.unit) ∧ w.cell? ⟨g, i * 4 + 2, none⟩ = some (.int .i64 o.what) ∧ w.cell? ⟨g, i * 4 + 3, none⟩ = some (.int .i64 o.arg) :=
  ⟨h.at_ ho (j := 0) (by decide), h.at_ ho (j := 1) (by decide), h.at_ ho (j := 2) (by decide), h.at_ ho (j := 3) (by decide)⟩
theorem oflat_set : ∀ (ks : List OrV) (i : Nat) (o : OrV) (rest : List Value), i < ks.length →
    (ks.set i o).flatMap OrV.cs ++ rest = ((((ks.flatMap OrV.cs ++ rest).set (i * 4) (.int .i64 o.player)).set (i * 4 + 1) (.int .i64 o.unit)).set (i * 4 + 2) (.int .i64 o.what)).set (i * 4 + 3) (.int .i64 o.arg)
  | [], i, o, rest, h => by simp at h
  | k :: ks, 0, o, rest, _ => by
    simp [OrV.cs]
  | k :: ks, i + 1, o, rest, h => by
    have ih := oflat_set ks i o rest (by simpa using h)
    rw [show (i + 1) * 4 = i * 4 + 4 by omega, show i * 4 + 4 + 1 = i * 4 + 1 + 4 by omega, show i * 4 + 4 + 2 = i * 4 + 2 + 4 by omega, show i * 4 + 4 + 3 = i * 4 + 3 + 4 by omega, List.set_cons_succ, List.flatMap_cons, List.append_assoc, ih, List.flatMap_cons]
    simp [OrV.cs]
theorem Rb.put {w : World} {g : Nat} {ks : List OrV} {rest : List Value} (h : Rb w g ks rest) {i : Nat} (hi : i < ks.length) (o : OrV) :
    Rb ((((w.setCell ⟨g, i * 4, none⟩ (.int .i64 o.player)).setCell ⟨g, i * 4 + 1, none⟩ (.int .i64 o.unit)).setCell ⟨g, i * 4 + 2, none⟩ (.int .i64 o.what)).setCell ⟨g, i * 4 + 3, none⟩ (.int .i64 o.arg)) g (ks.set i o) rest := by
  unfold Rb at *
  have h1 := heap_setCell_same w g (i * 4) _ _ (.int .i64 o.player) h
  have h2 := heap_setCell_same _ g (i * 4 + 1) _ _ (.int .i64 o.unit) h1
  have h3 := heap_setCell_same _ g (i * 4 + 2) _ _ (.int .i64 o.what) h2
  have h4 := heap_setCell_same _ g (i * 4 + 3) _ _ (.int .i64 o.arg) h3
  rw [h4, oflat_set ks i o rest hi]
  simp
theorem rb_below {B g : Nat} {w W : World} {i : Nat} (o : OrV) (h : Below B w W) (hb : B ≤ g) :
    Below B w ((((W.setCell ⟨g, i * 4, none⟩ (.int .i64 o.player)).setCell ⟨g, i * 4 + 1, none⟩ (.int .i64 o.unit)).setCell ⟨g, i * 4 + 2, none⟩ (.int .i64 o.what)).setCell ⟨g, i * 4 + 3, none⟩ (.int .i64 o.arg)) :=
  (((h.setCell (p := ⟨g, i * 4, none⟩) hb _).setCell (p := ⟨g, i * 4 + 1, none⟩) hb _).setCell (p := ⟨g, i * 4 + 2, none⟩) hb _).setCell (p := ⟨g, i * 4 + 3, none⟩) hb _
end Go.Proofs.YtkejdkajfnaieaaGreatDoor

namespace Go.Proofs.YtkejdkajfnaieaaGreatDoor
open Go.RowKit
set_option linter.unusedVariables false

set_option maxRecDepth 100000 in
set_option maxHeartbeats 4000000 in
theorem compare_any (a b : OrV) (w : World) : Calls Tryz.prog 158 #[a.val, b.val] w fun e w' => e = .returned (.int .i64 (cmpo a b)) ∧ Below w.heap.size w w' := by
  obtain ⟨p, u, n, x⟩ := a
  obtain ⟨p', u', n', x'⟩ := b
  have ba := (Below.refl w.heap.size w).alloc (Nat.le_refl _) (Obj.cells #[.int .i64 p, .int .i64 u, .int .i64 n, .int .i64 x] 40)
  have B0 : Hid (Below w.heap.size w ((w.alloc (Obj.cells #[.int .i64 p, .int .i64 u, .int .i64 n, .int .i64 x] 40)).alloc (Obj.cells #[.int .i64 p', .int .i64 u', .int .i64 n', .int .i64 x'] 40))) := ba.alloc (by simp) _
  have Oa : Hid (Orc ((w.alloc (Obj.cells #[.int .i64 p, .int .i64 u, .int .i64 n, .int .i64 x] 40)).alloc (Obj.cells #[.int .i64 p', .int .i64 u', .int .i64 n', .int .i64 x'] 40)) ⟨w.heap.size, 0, none⟩ ⟨p, u, n, x⟩) := (Orc.mk' (w := w) ⟨p, u, n, x⟩ rfl).below ((Below.refl _ _).alloc (Nat.le_refl _) _) (by simp)
  have Ob : Hid (Orc ((w.alloc (Obj.cells #[.int .i64 p, .int .i64 u, .int .i64 n, .int .i64 x] 40)).alloc (Obj.cells #[.int .i64 p', .int .i64 u', .int .i64 n', .int .i64 x'] 40)) ⟨w.heap.size + 1, 0, none⟩ ⟨p', u', n', x'⟩) := Orc.mk' ⟨p', u', n', x'⟩ (by simp)
  clear ba
  unfold OrV.val
  simp only
  go_enter Tryz.func158, Tryz.ntmps158
  go_upto_region 1 with fail
  generalize ((w.alloc (Obj.cells #[.int .i64 p, .int .i64 u, .int .i64 n, .int .i64 x] 40)).alloc (Obj.cells #[.int .i64 p', .int .i64 u', .int .i64 n', .int .i64 x'] 40)) = w2 at *
  have FC : Hid (∀ W, Below w2.heap.size w2 W → W.cell? ⟨w.heap.size, 0, none⟩ = some (.int .i64 p) ∧ W.cell? ⟨w.heap.size, 1, none⟩ = some (.int .i64 u) ∧ W.cell? ⟨w.heap.size, 2, none⟩ = some (.int .i64 n) ∧ W.cell? ⟨w.heap.size, 3, none⟩ = some (.int .i64 x) ∧ W.cell? ⟨w.heap.size + 1, 0, none⟩ = some (.int .i64 p') ∧ W.cell? ⟨w.heap.size + 1, 1, none⟩ = some (.int .i64 u') ∧ W.cell? ⟨w.heap.size + 1, 2, none⟩ = some (.int .i64 n') ∧ W.cell? ⟨w.heap.size + 1, 3, none⟩ = some (.int .i64 x')) := fun W hW => by
    have a := Oa.out.below hW Oa.out.lt
    have b := Ob.out.below hW Ob.out.lt
    obtain ⟨a0, a1, a2, a3⟩ := a
    obtain ⟨b0, b1, b2, b3⟩ := b
    simp only [Nat.zero_add] at a0 a1 a2 a3 b0 b1 b2 b3
    exact ⟨a0, a1, a2, a3, b0, b1, b2, b3⟩
  have CI : Hid (∀ (i j : Int) W, Below w2.heap.size w2 W → Calls Tryz.prog 190 #[.int .i64 i, .int .i64 j] W fun e w' => e = .returned (.int .i64 (sgn i j)) ∧ Below w2.heap.size w2 w') := fun i j W hW => (cmpint_any i j W).mono fun e w' ⟨h1, h2⟩ => ⟨h1, by rw [h2]; exact hW⟩
  have CR : Hid (∀ (o : OrV) W, Below w2.heap.size w2 W → Calls Tryz.prog 191 #[.agg #[.int .i64 o.player, .int .i64 o.unit, .int .i64 o.what, .int .i64 o.arg]] W fun e w' => e = .returned (.int .i64 (rnk o)) ∧ Below w2.heap.size w2 w') := fun o W hW => (rank_any o W).mono fun e w' ⟨h1, h2⟩ => ⟨h1, hW.trans (h2.mono hW.size)⟩
  refine wp_region_class 15 (fun W => Below w2.heap.size w2 W) (by kernel_rfl) (by kernel_rfl) (Below.refl _ _).drew ?_
  simp only [List.take_succ_cons, List.take_zero, List.drop_succ_cons, List.drop_zero]
  refine head_step (.pointer (some ⟨w.heap.size, 0, none⟩)) (by go_simp) (fun W hW => by go_simp) ?_
  go_simp
  refine head_step (.int .i64 p) (by go_simp) (fun W hW => by obtain ⟨a0, -, -, -, -, -, -, -⟩ := FC.out W hW; go_simp) ?_
  go_simp
  refine head_step (.pointer (some ⟨w.heap.size + 1, 0, none⟩)) (by go_simp) (fun W hW => by go_simp) ?_
  go_simp
  refine head_step (.int .i64 p') (by go_simp) (fun W hW => by obtain ⟨-, -, -, -, b0, -, -, -⟩ := FC.out W hW; go_simp) ?_
  go_simp
  refine head_call (Value.int .i64 (sgn p p')) 190 #[.int .i64 p, .int .i64 p'] (by go_simp) (fun W hW => by go_simp) (fun W hW => CI.out p p' W hW) ?_
  go_simp
  refine head_step (.pointer (some ⟨w.heap.size, 1, none⟩)) (by go_simp) (fun W hW => by go_simp) ?_
  go_simp
  refine head_step (.int .i64 u) (by go_simp) (fun W hW => by obtain ⟨-, a1, -, -, -, -, -, -⟩ := FC.out W hW; go_simp) ?_
  go_simp
  refine head_step (.pointer (some ⟨w.heap.size + 1, 1, none⟩)) (by go_simp) (fun W hW => by go_simp) ?_
  go_simp
  refine head_step (.int .i64 u') (by go_simp) (fun W hW => by obtain ⟨-, -, -, -, -, b1, -, -⟩ := FC.out W hW; go_simp) ?_
  go_simp
  refine head_call (Value.int .i64 (sgn u u')) 190 #[.int .i64 u, .int .i64 u'] (by go_simp) (fun W hW => by go_simp) (fun W hW => CI.out u u' W hW) ?_
  go_simp
  refine head_step (.agg #[.int .i64 p, .int .i64 u, .int .i64 n, .int .i64 x]) (by go_simp) (fun W hW => by obtain ⟨a0, a1, a2, a3, -, -, -, -⟩ := FC.out W hW; go_simp) ?_
  go_simp
  refine head_call (Value.int .i64 (rnk ⟨p, u, n, x⟩)) 191 #[.agg #[.int .i64 p, .int .i64 u, .int .i64 n, .int .i64 x]] (by go_simp) (fun W hW => by go_simp) (fun W hW => CR.out ⟨p, u, n, x⟩ W hW) ?_
  go_simp
  refine head_step (Value.agg #[.int .i64 p', .int .i64 u', .int .i64 n', .int .i64 x']) (by go_simp) (fun W hW => by obtain ⟨-, -, -, -, b0, b1, b2, b3⟩ := FC.out W hW; go_simp) ?_
  go_simp
  refine head_call (Value.int .i64 (rnk ⟨p', u', n', x'⟩)) 191 #[Value.agg #[.int .i64 p', .int .i64 u', .int .i64 n', .int .i64 x']] (by go_simp) (fun W hW => by go_simp) (fun W hW => CR.out ⟨p', u', n', x'⟩ W hW) ?_
  go_simp
  refine head_call (Value.int .i64 (sgn (rnk ⟨p, u, n, x⟩) (rnk ⟨p', u', n', x'⟩))) 190 #[Value.int .i64 (rnk ⟨p, u, n, x⟩), .int .i64 (rnk ⟨p', u', n', x'⟩)] (by go_simp) (fun W hW => by go_simp) (fun W hW => CI.out _ _ W hW) ?_
  go_simp
  intro W hW
  obtain ⟨s1, hs1⟩ : ∃ s, sgn p p' = s := ⟨_, rfl⟩
  obtain ⟨s2, hs2⟩ : ∃ s, sgn u u' = s := ⟨_, rfl⟩
  obtain ⟨s3, hs3⟩ : ∃ s, sgn (rnk ⟨p, u, n, x⟩) (rnk ⟨p', u', n', x'⟩) = s := ⟨_, rfl⟩
  have HC : Hid (cmpo ⟨p, u, n, x⟩ ⟨p', u', n', x'⟩ = or3 s1 s2 s3) := by unfold Hid cmpo; rw [hs3]; simp only; rw [hs1, hs2]
  rw [hs1, hs2, hs3]
  have OR := or_any s1 s2 s3 W.heap.size (W.alloc (Obj.cells #[.int .i64 s1, .int .i64 s2, .int .i64 s3] 3)) (by simp) (by simp) (by simp)
  have OR' : Hid (Calls Tryz.prog 189 #[.slice (some ⟨W.heap.size, 0, none⟩) 3 3] (W.alloc (Obj.cells #[.int .i64 s1, .int .i64 s2, .int .i64 s3] 3)) fun e w' => e = .returned (.int .i64 (or3 s1 s2 s3)) ∧ w' = (W.alloc (Obj.cells #[.int .i64 s1, .int .i64 s2, .int .i64 s3] 3))) := OR
  have BB : Hid (Below w.heap.size w (W.alloc (Obj.cells #[.int .i64 s1, .int .i64 s2, .int .i64 s3] 3))) := (B0.out.trans (hW.mono B0.out.size)).alloc (Nat.le_trans B0.out.size hW.size) _
  clear OR hW FC CI CR hs1 hs2 hs3
  go_wp2_with fail
  refine OR'.out.mono ?_
  rintro e w' ⟨rfl, rfl⟩
  go_wp2
  go_ret
  exact ⟨by rw [HC.out]; rfl, BB⟩
end Go.Proofs.YtkejdkajfnaieaaGreatDoor

namespace Go.Proofs.YtkejdkajfnaieaaGreatDoor
open Go.RowKit Go.Proofs.YtkejdkajfnaieaaGreatDoor.So
set_option linter.unusedVariables false

abbrev fs (l : List T) : List OrV := l.map Prod.fst
theorem ecmp : ∀ args w, (callFunc 158 args).run Tryz.prog w = .ok (.enter 158 args) w := enters_of Tryz.func158 (by kernel_rfl) rfl
theorem at_x (A S1 : List T) (x : T) (R : List T) : (fs (A ++ S1 ++ x :: R))[A.length + S1.length]? = some x.1 := by
  simp [fs]
theorem at_y (A S1 : List T) (y : T) (R : List T) : (fs (A ++ (S1 ++ [y]) ++ R))[A.length + S1.length]? = some y.1 := by
  simp [fs]

theorem swap_two {α : Type} : ∀ (P : List α) (y x : α) (R : List α), ((P ++ y :: x :: R).set (P.length + 1) y).set P.length x = P ++ x :: y :: R
  | [], y, x, R => rfl
  | p :: P, y, x, R => by
    have := swap_two P y x R
    simp only [List.cons_append, List.length_cons, List.set_cons_succ]
    rw [this]
/-- between two rounds of the outer loop. -/
def IsoO (A UU B : List T) (g : Nat) (rest : List Value) (w : World) (m a : Nat) (iv : Value) (W : World) : Prop := ∃ (S V : List T), S.Pairwise lt ∧ S ≠ [] ∧ S.Perm (UU.take S.length) ∧ V = UU.drop S.length ∧ S.length ≤ m ∧ iv = .int .i64 ((a + S.length : Nat) : Int) ∧ Rb W g (fs (A ++ S ++ (V ++ B))) rest ∧ Kp g w W
/-- between two rounds of the inner loop. -/
def IsoI (A S : List T) (x : T) (VB : List T) (g : Nat) (rest : List Value) (w : World) (a : Nat) (jv : Value) (W : World) : Prop := ∃ (S1 S2 : List T), jv = .int .i64 ((a + S1.length : Nat) : Int) ∧ S1 ++ S2 = S ∧ (∀ y ∈ S2, lt x y) ∧ Rb W g (fs (A ++ S1 ++ x :: (S2 ++ VB))) rest ∧ Kp g w W
def SortSays (A U B : List T) (g : Nat) (rest : List Value) (w : World) (e : Ending) (w' : World) : Prop := e = .returned (.tuple #[]) ∧ ∃ S, S.Perm U ∧ S.Pairwise lt ∧ Rb w' g (fs (A ++ S ++ B)) rest ∧ Kp g w w'
set_option maxRecDepth 100000 in
set_option maxHeartbeats 8000000 in
theorem isort_any (A U B : List T) (g cap : Nat) (rest : List Value) (w : World) (hU : U.Pairwise (fun x y => x.2 < y.2)) (hr : Rb w g (fs (A ++ U ++ B)) rest) (hn : (A ++ U ++ B).length ≤ 1000) :
    Calls Tryz.prog 221 #[.slice (some ⟨g, 0, none⟩) (A ++ U ++ B).length cap, .int .i64 (A.length : Nat), .int .i64 ((A.length + U.length : Nat) : Int), .func (.func 158) #[] #[]] w
      (SortSays A U B g rest w) := by
  obtain ⟨L, hL⟩ : ∃ L, (A ++ U ++ B).length = L := ⟨_, rfl⟩
  have HL : Hid ((A ++ U ++ B).length = L) := hL
  have HL2 : Hid (A.length + U.length + B.length = L) := by unfold Hid; rw [← hL]; simp; omega
  obtain ⟨a, ha⟩ : ∃ a, A.length = a := ⟨_, rfl⟩
  obtain ⟨m, hm⟩ : ∃ m, U.length = m := ⟨_, rfl⟩
  have Ha : Hid (A.length = a) := ha
  have Hm : Hid (U.length = m) := hm
  have hle : a + m ≤ L := by have := HL2.out; omega
  have R0 : Hid (Rb w g (fs (A ++ U ++ B)) rest) := hr
  have HU : Hid (U.Pairwise (fun x y => x.2 < y.2)) := hU
  rw [hL, ha, hm]
  obtain ⟨q, hq⟩ : ∃ q, a + m = q := ⟨_, rfl⟩
  rw [hq]
  rw [hL] at hn
  clear hL ha hm hr hU
  go_enter Tryz.func221, Tryz.ntmps221
  go_wp2
  cases U with
  | nil =>
    have hm0 : m = 0 := by have := Hm.out; simpa using this.symm
    have hqa : ¬ ((a : Nat) : Int) + 1 < (q : Int) := by omega
    refine wp_loop_rounds 1 ?_
    rw [rounds_succ]
    go_wp2
    go_end0
    exact ⟨rfl, [], List.Perm.refl _, List.Pairwise.nil, R0, Kp.refl _ _⟩
  | cons u U' =>
    have hm1 : 1 ≤ m := by have := Hm.out; simp at this; omega
    go_loopw [8] (fun iv W => IsoO A (u :: U') B g rest w m a iv W) (fun iv _ => q - (intOf iv).toNat)
    case atStart =>
      refine ⟨[u], U', by simp, by simp, by simp, by simp, hm1, by simp, ?_, Kp.refl _ _⟩
      have := R0.out
      simpa using this
    case round =>
      obtain ⟨S, V, hS, hne, hp, hV, hle2, rfl, hrb, hk⟩ := hrel
      have RB : Hid (Rb wr g (fs (A ++ S ++ (V ++ B))) rest) := hrb
      have KK : Hid (Kp g w wr) := hk
      have HS : Hid (S.Pairwise lt ∧ S.Perm ((u :: U').take S.length)) := ⟨hS, hp⟩
      clear hrb hk hS hp
      obtain ⟨i, hi⟩ : ∃ i, a + S.length = i := ⟨_, rfl⟩
      rw [hi]
      by_cases he : S.length = m
      · have hlt : ¬ ((i : Nat) : Int) < ((q : Nat) : Int) := by omega
        have FIN : Hid (∃ S', S'.Perm (u :: U') ∧ S'.Pairwise lt ∧ Rb wr g (fs (A ++ S' ++ B)) rest ∧ Kp g w wr) := by
          have h1 : (u :: U').length = m := Hm.out
          have h2 : V = [] := by rw [hV]; exact List.drop_eq_nil_of_le (by omega)
          have h3 := HS.out.2
          rw [List.take_of_length_le (by omega)] at h3
          have h4 := RB.out
          rw [h2] at h4
          exact ⟨S, h3, HS.out.1, by simpa using h4, KK.out⟩
        clear hV
        go_wp2
        go_end0
        exact ⟨rfl, FIN⟩
      · have hlt : ((i : Nat) : Int) < ((q : Nat) : Int) := by omega
        have hUl : (u :: U').length = m := Hm.out
        obtain ⟨x, V', hVx⟩ : ∃ x V', V = x :: V' := by
          cases hv : V with
          | nil =>
            rw [hV] at hv
            have := List.drop_eq_nil_iff.1 hv
            omega
          | cons x V' => exact ⟨x, V', rfl⟩
        have HX : Hid (∀ y ∈ S, y.2 < x.2) := fun y hy => by
          have hy2 := HS.out.2.mem_iff.1 hy
          have hsp : (u :: U') = (u :: U').take S.length ++ x :: V' := by rw [← hVx, hV, List.take_append_drop]
          have h2 := HU.out
          rw [hsp, List.pairwise_append] at h2
          exact h2.2.2 y hy2 x (List.mem_cons_self ..)
        have HV : Hid ((u :: U').take (S.length + 1) = (u :: U').take S.length ++ [x] ∧ (u :: U').drop (S.length + 1) = V') := by
          have hsp : (u :: U').drop S.length = x :: V' := by rw [← hV, hVx]
          refine ⟨?_, ?_⟩
          · rw [List.take_add_one, ← List.head?_drop, hsp]; rfl
          · rw [← List.drop_drop, hsp]; rfl
        have RX : Hid (Rb wr g (fs (A ++ S ++ x :: (V' ++ B))) rest) := by
          have := RB.out
          rw [hVx] at this
          exact this
        clear hV RB hVx
        go_wp2_with fail
        go_loopw [9] (fun jv W => IsoI A S x (V' ++ B) g rest w a jv W) (fun jv _ => (intOf jv).toNat)
        case atStart => exact ⟨S, [], by rw [hi], by simp, by simp, RX, KK⟩
        case round =>
          obtain ⟨S1, S2, rfl, h12, h2x, hrb, hk⟩ := hrel
          have RB : Hid (Rb wr g (fs (A ++ S1 ++ x :: (S2 ++ (V' ++ B)))) rest) := hrb
          have K1 : Hid (Kp g w wr) := hk
          have H2 : Hid (∀ y ∈ S2, lt x y) := h2x
          have H12 : Hid (S1 ++ S2 = S) := h12
          have hj : a + S1.length < L := by
            have h1 := congrArg List.length h12
            simp at h1
            omega
          have hji : ((a + S1.length : Nat) : Int) < (L : Int) := by omega
          clear hrb hk h2x h12
          rcases List.eq_nil_or_concat S1 with h0 | ⟨S1', y, h0⟩
          · subst h0
            have hgt : ¬ ((a : Nat) : Int) < ((a + ([] : List T).length : Nat) : Int) := by simp
            have NEXT : Hid (∃ (S' V2 : List T), S'.Pairwise lt ∧ S' ≠ [] ∧ S'.Perm ((u :: U').take S'.length) ∧ V2 = (u :: U').drop S'.length ∧ S'.length ≤ m ∧ S'.length = S.length + 1 ∧ Rb wr g (fs (A ++ S' ++ (V2 ++ B))) rest ∧ Kp g w wr) := by
              have e := H12.out
              simp only [List.nil_append] at e
              have hl : (x :: S2).length = S.length + 1 := by rw [e]; rfl
              refine ⟨x :: S2, V', ?_, by simp, ?_, ?_, by omega, hl, ?_, K1.out⟩
              · exact List.pairwise_cons.2 ⟨H2.out, by rw [e]; exact HS.out.1⟩
              · rw [hl, HV.out.1, e]
                exact ((HS.out.2.cons x).trans (List.perm_append_singleton x _).symm)
              · rw [hl, HV.out.2]
              · have := RB.out
                simpa using this
            simp only [List.length_nil, Nat.add_zero]
            go_upto_region 4 with fail
            go_quiet (fail)
            go_wp2
            go_round
            case rel =>
              obtain ⟨S', V2, q1, q2, q3, q4, q5, q6, q7, q8⟩ := NEXT.out
              exact ⟨S', V2, q1, q2, q3, q4, q5, by rw [q6, ← Nat.add_assoc, hi]; go_num, q7, q8.drewN _⟩
            case measure => simp [intOf]; omega
          · subst h0
            obtain ⟨k, hk⟩ : ∃ k, a + S1'.length = k := ⟨_, rfl⟩
            have hk1 : a + (S1'.concat y).length = k + 1 := by rw [← hk]; simp; omega
            have hkL : k + 1 < L := by omega
            have Hx : Hid ((fs (A ++ S1'.concat y ++ x :: (S2 ++ (V' ++ B))))[k + 1]? = some x.1) := by
              unfold Hid
              rw [← hk1, ← Ha.out]
              exact at_x A _ x _
            have Hy : Hid ((fs (A ++ S1'.concat y ++ x :: (S2 ++ (V' ++ B))))[k]? = some y.1) := by
              unfold Hid
              rw [← hk, ← Ha.out, List.concat_eq_append]
              exact at_y A _ y _
            have FC : Hid (∀ W, Below wr.heap.size wr W → W.cell? ⟨g, (k + 1) * 4, none⟩ = some (.int .i64 x.1.player) ∧ W.cell? ⟨g, (k + 1) * 4 + 1, none⟩ = some (.int .i64 x.1.unit) ∧ W.cell? ⟨g, (k + 1) * 4 + 2, none⟩ = some (.int .i64 x.1.what) ∧ W.cell? ⟨g, (k + 1) * 4 + 3, none⟩ = some (.int .i64 x.1.arg) ∧ W.cell? ⟨g, k * 4, none⟩ = some (.int .i64 y.1.player) ∧ W.cell? ⟨g, k * 4 + 1, none⟩ = some (.int .i64 y.1.unit) ∧ W.cell? ⟨g, k * 4 + 2, none⟩ = some (.int .i64 y.1.what) ∧ W.cell? ⟨g, k * 4 + 3, none⟩ = some (.int .i64 y.1.arg)) := fun W hW => by
              have r := RB.out.below hW RB.out.lt
              obtain ⟨x0, x1, x2, x3⟩ := r.cells Hx.out
              obtain ⟨y0, y1, y2, y3⟩ := r.cells Hy.out
              exact ⟨x0, x1, x2, x3, y0, y1, y2, y3⟩
            have CC : Hid (∀ W, Below wr.heap.size wr W → Calls Tryz.prog 158 #[.agg #[.int .i64 x.1.player, .int .i64 x.1.unit, .int .i64 x.1.what, .int .i64 x.1.arg], .agg #[.int .i64 y.1.player, .int .i64 y.1.unit, .int .i64 y.1.what, .int .i64 y.1.arg]] W fun e w' => e = .returned (.int .i64 (cmpo x.1 y.1)) ∧ Below wr.heap.size wr w') := fun W hW => (compare_any x.1 y.1 W).mono fun e w' ⟨h1, h2⟩ => ⟨h1, hW.trans (h2.mono hW.size)⟩
            have ec := ecmp
            have hgt : ((a : Nat) : Int) < ((k : Nat) : Int) + 1 := by omega
            have kpos : ¬ ((k : Nat) : Int) + 1 < 0 := by omega
            have hki : ((k : Nat) : Int) + 1 < (L : Int) := by omega
            have hki0 : ((k : Nat) : Int) < (L : Int) := by omega
            have kk1 : ((k : Nat) : Int) + 1 - 1 = k := by omega
            have kw : IntKind.i64.wrap ((k : Nat) : Int) = k := by rw [IntKind.wrap_i64]; omega
            have e1 : ((a + (S1'.concat y).length : Nat) : Int) = (k : Int) + 1 := by rw [hk1]; rfl
            rw [e1]
            clear hji hj
            go_upto_region 4 with fail
            refine wp_region_class 16 (fun W => Below wr.heap.size wr W) (by kernel_rfl) (by kernel_rfl) (Below.refl _ _).drew ?_
            simp only [List.take_succ_cons, List.take_zero, List.drop_succ_cons, List.drop_zero]
            refine head_step (.int .i64 ((k : Int) + 1)) (by go_simp) (fun W hW => by go_simp) ?_
            go_simp
            refine head_step (.int .i64 (a : Int)) (by go_simp) (fun W hW => by go_simp) ?_
            go_simp
            refine head_step (.bool true) (by go_simp) (fun W hW => by go_simp) ?_
            go_simp
            refine head_step (.bool true) (by go_simp) (fun W hW => by go_simp) ?_
            go_simp
            refine head_step (.func (.func 158) #[] #[]) (by go_simp) (fun W hW => by go_simp) ?_
            go_simp
            refine head_step (.slice (some ⟨g, 0, none⟩) L cap) (by go_simp) (fun W hW => by go_simp) ?_
            go_simp
            refine head_step (.int .i64 ((k : Int) + 1)) (by go_simp) (fun W hW => by go_simp) ?_
            go_simp
            refine head_step (.pointer (some ⟨g, (k + 1) * 4, none⟩)) (by go_simp) (fun W hW => by go_simp) ?_
            go_simp
            refine head_step (.agg #[.int .i64 x.1.player, .int .i64 x.1.unit, .int .i64 x.1.what, .int .i64 x.1.arg]) (by go_simp) (fun W hW => by obtain ⟨x0, x1, x2, x3, -⟩ := FC.out W hW; go_simp) ?_
            go_simp
            refine head_step (.slice (some ⟨g, 0, none⟩) L cap) (by go_simp) (fun W hW => by go_simp) ?_
            go_simp
            refine head_step (.int .i64 ((k : Int) + 1)) (by go_simp) (fun W hW => by go_simp) ?_
            go_simp
            refine head_step (.int .i64 (k : Int)) (by go_simp) (fun W hW => by go_simp) ?_
            go_simp
            refine head_step (.pointer (some ⟨g, k * 4, none⟩)) (by go_simp) (fun W hW => by go_simp) ?_
            go_simp
            refine head_step (.agg #[.int .i64 y.1.player, .int .i64 y.1.unit, .int .i64 y.1.what, .int .i64 y.1.arg]) (by go_simp) (fun W hW => by obtain ⟨-, -, -, -, y0, y1, y2, y3⟩ := FC.out W hW; go_simp) ?_
            go_simp
            refine head_call (.int .i64 (cmpo x.1 y.1)) 158 #[.agg #[.int .i64 x.1.player, .int .i64 x.1.unit, .int .i64 x.1.what, .int .i64 x.1.arg], .agg #[.int .i64 y.1.player, .int .i64 y.1.unit, .int .i64 y.1.what, .int .i64 y.1.arg]] (by go_simp) (fun W hW => by go_simp) (fun W hW => CC.out W hW) ?_
            go_simp
            refine head_step (.bool (decide (cmpo x.1 y.1 < 0))) (by go_simp) (fun W hW => by go_simp) ?_
            go_simp
            intro W hW
            have RW : Hid (Rb W g (fs (A ++ S1'.concat y ++ x :: (S2 ++ (V' ++ B)))) rest) := RB.out.below hW RB.out.lt
            have KW : Hid (Kp g w W) := K1.out.trans (Kp.of hW)
            have IX : Hid (∀ z ∈ S1'.concat y, z.2 < x.2) := fun z hz => HX.out z (by rw [← H12.out]; exact List.mem_append_left _ hz)
            have PW : Hid ((S1'.concat y ++ S2).Pairwise lt) := by unfold Hid; rw [H12.out]; exact HS.out.1
            by_cases hc : cmpo x.1 y.1 < 0
            · have LX : Hid (lt x y) := (ask_lt (IX.out y (by simp))).1 ((klt_iff _ _).1 hc)
              obtain ⟨x0, x1, x2, x3, y0, y1, y2, y3⟩ := FC.out W hW
              have f0 := RW.out.thaw ((k + 1) * 4)
              have f1 := RW.out.thaw ((k + 1) * 4 + 1)
              have f2 := RW.out.thaw ((k + 1) * 4 + 2)
              have f3 := RW.out.thaw ((k + 1) * 4 + 3)
              have f4 := RW.out.thaw (k * 4)
              have f5 := RW.out.thaw (k * 4 + 1)
              have f6 := RW.out.thaw (k * 4 + 2)
              have f7 := RW.out.thaw (k * 4 + 3)
              clear hW FC CC
              go_wp2_with fail
              go_region
              have hlen : (fs (A ++ S1'.concat y ++ x :: (S2 ++ (V' ++ B)))).length = L := by
                have h1 := HL2.out
                have h2 := congrArg List.length H12.out
                have h3 := congrArg List.length HV.out.2
                simp [fs] at h2 h3 ⊢
                have h4 : (u :: U').length = m := Hm.out
                have h5 := Ha.out
                simp at h4 h1
                omega
              have rr := (RW.out.put (i := k + 1) (by rw [hlen]; exact hkL) y.1).put (i := k) (by rw [List.length_set, hlen]; omega) x.1
              have el : ((fs (A ++ S1'.concat y ++ x :: (S2 ++ (V' ++ B)))).set (k + 1) y.1).set k x.1 = fs (A ++ S1' ++ x :: (y :: S2 ++ (V' ++ B))) := by
                have hP : (fs (A ++ S1')).length = k := by simp [fs, ← hk, Ha.out]
                have h1 := swap_two (fs (A ++ S1')) y.1 x.1 (fs (S2 ++ (V' ++ B)))
                rw [hP] at h1
                have e1 : fs (A ++ S1'.concat y ++ x :: (S2 ++ (V' ++ B))) = fs (A ++ S1') ++ y.1 :: x.1 :: fs (S2 ++ (V' ++ B)) := by simp [fs]
                have e2 : fs (A ++ S1' ++ x :: (y :: S2 ++ (V' ++ B))) = fs (A ++ S1') ++ x.1 :: y.1 :: fs (S2 ++ (V' ++ B)) := by simp [fs]
                rw [e1, e2]
                exact h1
              rw [el] at rr
              have RR : Hid (Rb _ g (fs (A ++ S1' ++ x :: (y :: S2 ++ (V' ++ B)))) rest) := rr
              have KR : Hid (Kp g w _) := (((((((KW.out.trans (Kp.set W ((k + 1) * 4) (.int .i64 y.1.player))).trans (Kp.set _ ((k + 1) * 4 + 1) (.int .i64 y.1.unit))).trans (Kp.set _ ((k + 1) * 4 + 2) (.int .i64 y.1.what))).trans (Kp.set _ ((k + 1) * 4 + 3) (.int .i64 y.1.arg))).trans (Kp.set _ (k * 4) (.int .i64 x.1.player))).trans (Kp.set _ (k * 4 + 1) (.int .i64 x.1.unit))).trans (Kp.set _ (k * 4 + 2) (.int .i64 x.1.what))).trans (Kp.set _ (k * 4 + 3) (.int .i64 x.1.arg))
              clear rr
              go_wp2
              go_roundw
              case rel =>
                refine ⟨S1', y :: S2, by rw [hk], by rw [← H12.out]; simp, fun z hz => ?_, RR.out.below (Below.refl _ _).drew RR.out.lt, KR.out.trans (Kp.of (Below.refl _ _).drew)⟩
                rcases List.mem_cons.1 hz with rfl | hz
                · exact LX.out
                · exact H2.out z hz
              case measure => simp [intOf]
            · have LX : Hid (lt y x) := (ask_ge (IX.out y (by simp))).1 (fun h => hc ((klt_iff _ _).2 h))
              have NEXT : Hid (∃ (S' V2 : List T), S'.Pairwise lt ∧ S' ≠ [] ∧ S'.Perm ((u :: U').take S'.length) ∧ V2 = (u :: U').drop S'.length ∧ S'.length ≤ m ∧ S'.length = S.length + 1 ∧ Rb W g (fs (A ++ S' ++ (V2 ++ B))) rest ∧ Kp g w W) := by
                have hl : (S1'.concat y ++ x :: S2).length = S.length + 1 := by
                  rw [← H12.out]
                  simp
                  omega
                refine ⟨S1'.concat y ++ x :: S2, V', ?_, by simp, ?_, ?_, by omega, hl, ?_, KW.out⟩
                · refine put_rise PW.out (fun z hz => ?_) H2.out
                  rw [List.concat_eq_append] at hz
                  rcases List.mem_append.1 hz with hz | hz
                  · have h1 := PW.out
                    rw [List.concat_eq_append, List.append_assoc, List.pairwise_append] at h1
                    exact lt_trans (h1.2.2 z hz y (by simp)) LX.out
                  · simp at hz
                    subst hz
                    exact LX.out
                · rw [hl, HV.out.1]
                  refine List.Perm.trans List.perm_middle ?_
                  rw [H12.out]
                  exact ((HS.out.2.cons x).trans (List.perm_append_singleton x _).symm)
                · rw [hl, HV.out.2]
                · have := RW.out
                  simpa using this
              clear hW FC CC
              go_wp2
              go_round
              case rel =>
                obtain ⟨S', V2, q1, q2, q3, q4, q5, q6, q7, q8⟩ := NEXT.out
                exact ⟨S', V2, q1, q2, q3, q4, q5, by rw [q6, ← Nat.add_assoc, hi]; go_num, q7, q8⟩
              case measure => simp [intOf]; omega
end Go.Proofs.YtkejdkajfnaieaaGreatDoor

namespace Go.Proofs.YtkejdkajfnaieaaGreatDoor
open Go.RowKit Go.Proofs.YtkejdkajfnaieaaGreatDoor.So
set_option linter.unusedVariables false

theorem swap_far {α : Type} : ∀ (U V Z : List α) (x y : α), ((U ++ x :: (V ++ y :: Z)).set U.length y).set (U.length + 1 + V.length) x = U ++ y :: (V ++ x :: Z)
  | [], V, Z, x, y => by
    have : ∀ (V : List α), (V ++ y :: Z).set V.length x = V ++ x :: Z := fun V => by simp
    simp only [List.nil_append, List.length_nil, List.set_cons_zero, Nat.zero_add]
    rw [Nat.add_comm, List.set_cons_succ, this]
  | u :: U, V, Z, x, y => by
    have h := swap_far U V Z x y
    have e : (u :: U).length + 1 + V.length = (U.length + 1 + V.length) + 1 := by simp; omega
    rw [e]
    simp only [List.cons_append, List.length_cons, List.set_cons_succ]
    rw [h]
theorem at_far {α : Type} (U V Z : List α) (x y : α) : (U ++ x :: (V ++ y :: Z))[U.length]? = some x ∧ (U ++ x :: (V ++ y :: Z))[U.length + 1 + V.length]? = some y := by
  refine ⟨by simp, ?_⟩
  rw [List.getElem?_append_right (by omega)]
  have : U.length + 1 + V.length - U.length = V.length + 1 := by omega
  rw [this]
  simp
/-- between two rounds of swapRange's loop. -/
def SwI (P X M Y Q : List OrV) (g : Nat) (rest : List Value) (w : World) (n : Nat) (iv : Value) (W : World) : Prop := ∃ (X1 X2 Y1 Y2 : List OrV), iv = .int .i64 (X1.length : Nat) ∧ X1 ++ X2 = X ∧ Y1 ++ Y2 = Y ∧ X1.length = Y1.length ∧ X1.length ≤ n ∧ Rb W g (P ++ Y1 ++ (X2 ++ (M ++ X1) ++ (Y2 ++ Q))) rest ∧ Kp g w W
set_option maxRecDepth 100000 in
set_option maxHeartbeats 8000000 in
theorem swaps_any (P X M Y Q : List OrV) (fv : Value) (g cap L a b n : Nat) (rest : List Value) (w : World) (hr : Rb w g (P ++ X ++ M ++ Y ++ Q) rest) (hL : (P ++ X ++ M ++ Y ++ Q).length = L) (hn : L ≤ 1000) (hX : X.length = n) (hY : Y.length = n) (ha : P.length = a) (hb : (P ++ X ++ M).length = b) :
    Calls Tryz.prog 248 #[.slice (some ⟨g, 0, none⟩) L cap, .int .i64 (a : Nat), .int .i64 (b : Nat), .int .i64 (n : Nat), fv] w
      (fun e w' => e = .returned (.tuple #[]) ∧ Rb w' g (P ++ Y ++ M ++ X ++ Q) rest ∧ Kp g w w') := by
  have R0 : Hid (Rb w g (P ++ X ++ M ++ Y ++ Q) rest) := hr
  have HL : Hid ((P ++ X ++ M ++ Y ++ Q).length = L) := hL
  have HX : Hid (X.length = n) := hX
  have HY : Hid (Y.length = n) := hY
  have Ha : Hid (P.length = a) := ha
  have Hb : Hid (a + n + M.length = b) := by unfold Hid; rw [← hb, ← ha, ← hX]; simp; omega
  have HL2 : Hid (b + n ≤ L) := by unfold Hid; rw [← hL, ← hb, ← hY]; simp; omega
  clear hr hL hX hY ha hb
  have HA2 : Hid (a + n ≤ b) := by unfold Hid; have := Hb.out; omega
  go_enter Tryz.func248, Tryz.ntmps248
  go_wp2
  go_loopw [10] (fun iv W => SwI P X M Y Q g rest w n iv W) (fun iv _ => n - (intOf iv).toNat)
  case atStart =>
    refine ⟨[], X, [], Y, rfl, rfl, rfl, rfl, by simp, ?_, Kp.refl _ _⟩
    have := R0.out
    simpa using this
  case round =>
    obtain ⟨X1, X2, Y1, Y2, rfl, hx, hy, hxy, hle, hrb, hk⟩ := hrel
    have RB : Hid (Rb wr g (P ++ Y1 ++ (X2 ++ (M ++ X1) ++ (Y2 ++ Q))) rest) := hrb
    have K1 : Hid (Kp g w wr) := hk
    have H1 : Hid (X1 ++ X2 = X ∧ Y1 ++ Y2 = Y ∧ X1.length = Y1.length) := ⟨hx, hy, hxy⟩
    have l1 : X1.length + X2.length = n := by have := congrArg List.length hx; simp at this; rw [this]; exact HX.out
    have l2 : Y1.length + Y2.length = n := by have := congrArg List.length hy; simp at this; rw [this]; exact HY.out
    obtain ⟨i, hi⟩ : ∃ i, X1.length = i := ⟨_, rfl⟩
    have Hi : Hid (X1.length = i) := hi
    rw [hi] at l1 hxy hle
    rw [hi]
    clear hrb hk hx hy hi
    by_cases he : i = n
    · have hlt : ¬ ((i : Nat) : Int) < ((n : Nat) : Int) := by omega
      have FIN : Hid (Rb wr g (P ++ (Y ++ (M ++ (X ++ Q)))) rest) := by
        unfold Hid
        have e1 : X2 = [] := List.length_eq_zero_iff.1 (by omega)
        have e2 : Y2 = [] := List.length_eq_zero_iff.1 (by omega)
        obtain ⟨q1, q2, q3⟩ := H1.out
        have := RB.out
        rw [e1] at q1 this
        rw [e2] at q2 this
        simp only [List.append_nil] at q1 q2
        rw [q1, q2] at this
        simpa using this
      clear l1 l2 hxy he
      go_wp2
      go_end0
      exact ⟨rfl, FIN.out, K1.out⟩
    · have hlt : ((i : Nat) : Int) < ((n : Nat) : Int) := by omega
      obtain ⟨x, X3, hx3⟩ : ∃ x X3, X2 = x :: X3 := by
        cases X2 with
        | nil => simp at l1; omega
        | cons x X3 => exact ⟨x, X3, rfl⟩
      obtain ⟨y, Y3, hy3⟩ : ∃ y Y3, Y2 = y :: Y3 := by
        cases Y2 with
        | nil => simp at l2; omega
        | cons y Y3 => exact ⟨y, Y3, rfl⟩
      subst hx3 hy3
      have l3 : i + X3.length + 1 = n := by simp at l1; omega
      obtain ⟨p, hp⟩ : ∃ p, a + i = p := ⟨_, rfl⟩
      obtain ⟨r, hr⟩ : ∃ r, b + i = r := ⟨_, rfl⟩
      have hpr : p < r := by have := HA2.out; omega
      have hrL : r < L := by have := HL2.out; omega
      have ep : (P ++ Y1).length = p := by rw [← hp, List.length_append, Ha.out, hxy]
      have er : (P ++ Y1).length + 1 + (X3 ++ (M ++ X1)).length = r := by
        have h1 := Hb.out
        have h2 := Hi.out
        rw [ep]
        simp
        omega
      have EL : Hid (P ++ Y1 ++ (x :: X3 ++ (M ++ X1) ++ (y :: Y3 ++ Q)) = (P ++ Y1) ++ x :: ((X3 ++ (M ++ X1)) ++ y :: (Y3 ++ Q))) := by unfold Hid; simp
      have RC : Hid (Rb wr g ((P ++ Y1) ++ x :: ((X3 ++ (M ++ X1)) ++ y :: (Y3 ++ Q))) rest) := by unfold Hid; rw [← EL.out]; exact RB.out
      have AF := at_far (P ++ Y1) (X3 ++ (M ++ X1)) (Y3 ++ Q) x y
      rw [er, ep] at AF
      obtain ⟨x0, x1, x2, x3⟩ := RC.out.cells AF.1
      obtain ⟨y0, y1, y2, y3⟩ := RC.out.cells AF.2
      have SW := swap_far (P ++ Y1) (X3 ++ (M ++ X1)) (Y3 ++ Q) x y
      rw [er, ep] at SW
      have HSW : Hid (_ = _) := SW
      have f0 := RC.out.thaw (p * 4)
      have f1 := RC.out.thaw (p * 4 + 1)
      have f2 := RC.out.thaw (p * 4 + 2)
      have f3 := RC.out.thaw (p * 4 + 3)
      have f4 := RC.out.thaw (r * 4)
      have f5 := RC.out.thaw (r * 4 + 1)
      have f6 := RC.out.thaw (r * 4 + 2)
      have f7 := RC.out.thaw (r * 4 + 3)
      have sp : ((a : Nat) : Int) + (i : Int) = p := by omega
      have sr : ((b : Nat) : Int) + (i : Int) = r := by omega
      have pw : IntKind.i64.wrap ((p : Nat) : Int) = p := by rw [IntKind.wrap_i64]; omega
      have rw' : IntKind.i64.wrap ((r : Nat) : Int) = r := by rw [IntKind.wrap_i64]; omega
      have hpL : ((p : Nat) : Int) < (L : Int) := by omega
      have hrL' : ((r : Nat) : Int) < (L : Int) := by omega
      have n1 : ¬ p * 4 = r * 4 := by omega
      have LL : Hid (((P ++ Y1) ++ x :: ((X3 ++ (M ++ X1)) ++ y :: (Y3 ++ Q))).length = L) := by
        have h1 := HL.out
        have h2 := congrArg List.length H1.out.1
        have h3 := congrArg List.length H1.out.2.1
        unfold Hid
        simp at h1 h2 h3 ⊢
        omega
      have HP : Hid (p < r ∧ r < L) := ⟨hpr, hrL⟩
      have HM : Hid (i + 1 ≤ n ∧ i < n ∧ i = Y1.length) := ⟨by omega, by omega, hxy⟩
      clear SW AF EL ep er l1 l2 l3 hxy RB hp hr
      go_wp2_with fail
      go_region
      have rr := (RC.out.put (i := p) (by rw [LL.out]; have := HP.out; omega) y).put (i := r) (by rw [List.length_set, LL.out]; exact HP.out.2) x
      rw [HSW.out] at rr
      have RR : Hid (Rb _ g ((P ++ Y1) ++ y :: ((X3 ++ (M ++ X1)) ++ x :: (Y3 ++ Q))) rest) := rr
      have KR : Hid (Kp g w _) := (((((((K1.out.trans (Kp.set wr (p * 4) (.int .i64 y.player))).trans (Kp.set _ (p * 4 + 1) (.int .i64 y.unit))).trans (Kp.set _ (p * 4 + 2) (.int .i64 y.what))).trans (Kp.set _ (p * 4 + 3) (.int .i64 y.arg))).trans (Kp.set _ (r * 4) (.int .i64 x.player))).trans (Kp.set _ (r * 4 + 1) (.int .i64 x.unit))).trans (Kp.set _ (r * 4 + 2) (.int .i64 x.what))).trans (Kp.set _ (r * 4 + 3) (.int .i64 x.arg))
      clear rr
      go_wp2
      go_roundw
      case rel =>
        have h1 := H1.out
        have h2 := Hi.out
        have h3 := HM.out
        refine ⟨X1 ++ [x], X3, Y1 ++ [y], Y3, by simp [h2], by rw [← h1.1]; simp, by rw [← h1.2.1]; simp, by simp; omega, by simp; omega, ?_, KR.out.trans (Kp.of (Below.refl _ _).drew)⟩
        have h4 := RR.out.below (Below.refl _ _).drew RR.out.lt
        have e : P ++ (Y1 ++ [y]) ++ (X3 ++ (M ++ (X1 ++ [x])) ++ (Y3 ++ Q)) = (P ++ Y1) ++ y :: ((X3 ++ (M ++ X1)) ++ x :: (Y3 ++ Q)) := by simp
        rw [e]
        exact h4
      case measure => have := HM.out; simp [intOf]; omega
end Go.Proofs.YtkejdkajfnaieaaGreatDoor

namespace Go.Proofs.YtkejdkajfnaieaaGreatDoor
open Go.RowKit Go.Proofs.YtkejdkajfnaieaaGreatDoor.So
set_option linter.unusedVariables false

/-- between two rounds of rotate's loop. -/
def RoI (P u v Q : List OrV) (g : Nat) (rest : List Value) (w : World) (iv jv : Value) (W : World) : Prop := ∃ (F u' v' E : List OrV), iv = .int .i64 (u'.length : Nat) ∧ jv = .int .i64 (v'.length : Nat) ∧ u' ≠ [] ∧ v' ≠ [] ∧ F ++ (v' ++ u') ++ E = v ++ u ∧ F.length + u'.length = u.length ∧ Rb W g (P ++ F ++ u' ++ v' ++ (E ++ Q)) rest ∧ Kp g w W
set_option maxRecDepth 100000 in
set_option maxHeartbeats 8000000 in
theorem rotate_any (P u v Q : List OrV) (fv : Value) (g cap L a m b : Nat) (rest : List Value) (w : World) (hr : Rb w g (P ++ u ++ v ++ Q) rest) (hL : (P ++ u ++ v ++ Q).length = L) (hn : L ≤ 1000) (hu : u ≠ []) (hv : v ≠ []) (ha : P.length = a) (hm : a + u.length = m) (hb : m + v.length = b) :
    Calls Tryz.prog 240 #[.slice (some ⟨g, 0, none⟩) L cap, .int .i64 (a : Nat), .int .i64 (m : Nat), .int .i64 (b : Nat), fv] w
      (fun e w' => e = .returned (.tuple #[]) ∧ Rb w' g (P ++ v ++ u ++ Q) rest ∧ Kp g w w') := by
  have R0 : Hid (Rb w g (P ++ u ++ v ++ Q) rest) := hr
  have HL : Hid (a + u.length + v.length + Q.length = L) := by unfold Hid; rw [← hL, ← ha]; simp; omega
  have Ha : Hid (P.length = a) := ha
  have Hm : Hid (a + u.length = m) := hm
  have Hb : Hid (m + v.length = b) := hb
  have Hne : Hid (u ≠ [] ∧ v ≠ []) := ⟨hu, hv⟩
  have hbL : b ≤ L := by have := HL.out; omega
  have smi : ((m : Nat) : Int) - (a : Int) = (u.length : Nat) := by omega
  have sbm : ((b : Nat) : Int) - (m : Int) = (v.length : Nat) := by omega
  have wmi : IntKind.i64.wrap ((u.length : Nat) : Int) = (u.length : Nat) := by rw [IntKind.wrap_i64]; omega
  have wbm : IntKind.i64.wrap ((v.length : Nat) : Int) = (v.length : Nat) := by rw [IntKind.wrap_i64]; omega
  clear hr hL hu hv ha hm hb
  go_enter Tryz.func240, Tryz.ntmps240
  go_wp2
  go_loopw [10, 11] (fun iv jv W => RoI P u v Q g rest w iv jv W) (fun iv jv _ => (intOf iv).toNat + (intOf jv).toNat)
  case atStart =>
    refine ⟨[], u, v, [], rfl, rfl, Hne.out.1, Hne.out.2, by simp, by simp, ?_, Kp.refl _ _⟩
    have := R0.out
    simpa using this
  case round =>
    obtain ⟨F, u', v', E, rfl, rfl, hu, hv, hF, hlen, hrb, hk⟩ := hrel
    have RB : Hid (Rb wr g (P ++ F ++ u' ++ v' ++ (E ++ Q)) rest) := hrb
    have K1 : Hid (Kp g w wr) := hk
    have HF : Hid (F ++ (v' ++ u') ++ E = v ++ u) := hF
    have HFl : Hid (F.length + u'.length = u.length) := hlen
    have hlF : F.length + v'.length + u'.length + E.length = v.length + u.length := by have := congrArg List.length hF; simp at this; omega
    obtain ⟨i, hi⟩ : ∃ i, u'.length = i := ⟨_, rfl⟩
    obtain ⟨j, hj⟩ : ∃ j, v'.length = j := ⟨_, rfl⟩
    have Hi : Hid (u'.length = i) := hi
    have Hj : Hid (v'.length = j) := hj
    have i1 : 1 ≤ i := by rw [← hi]; exact List.length_pos_iff.2 hu
    have j1 : 1 ≤ j := by rw [← hj]; exact List.length_pos_iff.2 hv
    obtain ⟨c, hc⟩ : ∃ c, a + F.length = c := ⟨_, rfl⟩
    have Hc : Hid ((P ++ F).length = c) := by unfold Hid; rw [← hc, List.length_append, Ha.out]
    have hci : c + i = m := by have := Hm.out; omega
    have hjb : m + j ≤ b := by have := Hm.out; have := Hb.out; omega
    have HLL : Hid ((P ++ F ++ u' ++ v' ++ (E ++ Q)).length = L) := by
      have h1 := HL.out
      have h2 := Ha.out
      unfold Hid
      simp
      omega
    rw [hi, hj]
    have smc : ((m : Nat) : Int) - (i : Int) = (c : Nat) := by omega
    have wc : IntKind.i64.wrap ((c : Nat) : Int) = (c : Nat) := by rw [IntKind.wrap_i64]; omega
    clear hrb hk hF hlen hlF hu hv hc smi sbm wmi wbm
    by_cases he : i = j
    · subst he
      have CL := swaps_any (P ++ F) u' [] v' (E ++ Q) fv g cap L c m i rest wr (by simpa using RB.out) (by simpa using HLL.out) hn Hi.out Hj.out Hc.out (by have := Hc.out; have := Hi.out; simp at *; omega)
      have hne : ¬ ((i : Nat) : Int) ≠ (i : Int) := by simp
      clear hi hj
      go_wp2_with fail
      refine Calls.mono CL ?_
      rintro e w1 ⟨rfl, hr1, hk1⟩
      have R1 : Hid (Rb w1 g (P ++ F ++ v' ++ [] ++ u' ++ (E ++ Q)) rest) := hr1
      have K2 : Hid (Kp g wr w1) := hk1
      clear hr1 hk1
      go_wp2
      go_end0
      refine ⟨rfl, ?_, K1.out.trans K2.out⟩
      have h := R1.out
      have e : P ++ F ++ v' ++ [] ++ u' ++ (E ++ Q) = P ++ (v ++ u) ++ Q := by rw [← HF.out]; simp
      rw [e] at h
      simpa using h
    · by_cases hgt : j < i
      · obtain ⟨x, y, hxy, hx⟩ : ∃ x y, u' = x ++ y ∧ x.length = j := ⟨u'.take j, u'.drop j, (List.take_append_drop _ _).symm, by rw [List.length_take]; omega⟩
        have hy : y.length = i - j := by have := congrArg List.length hxy; simp at this; omega
        subst hxy
        have CL := swaps_any (P ++ F) x y v' (E ++ Q) fv g cap L c m j rest wr (by simpa using RB.out) (by have := HLL.out; simp at this ⊢; omega) hn hx Hj.out Hc.out (by have := Hc.out; have := Hi.out; simp at *; omega)
        have HXY : Hid (x.length = j ∧ y.length = i - j) := ⟨hx, hy⟩
        have hne : ¬ ((i : Nat) : Int) = (j : Int) := by omega
        have hgi : ((j : Nat) : Int) < (i : Int) := by omega
        obtain ⟨d, hd⟩ : ∃ d, i - j = d := ⟨_, rfl⟩
        have Hd : Hid (1 ≤ d ∧ d + j = i ∧ y.length = d) := ⟨by omega, by omega, by omega⟩
        have sij : ((i : Nat) : Int) - (j : Int) = (d : Nat) := by omega
        have wd : IntKind.i64.wrap ((d : Nat) : Int) = (d : Nat) := by rw [IntKind.wrap_i64]; omega
        clear hi hj hx hy hd
        go_wp2_with fail
        refine Calls.mono CL ?_
        rintro e w1 ⟨rfl, hr1, hk1⟩
        have R1 : Hid (Rb w1 g (P ++ F ++ v' ++ y ++ x ++ (E ++ Q)) rest) := hr1
        have K2 : Hid (Kp g wr w1) := hk1
        clear hr1 hk1
        go_wp2
        go_roundw
        case rel =>
          obtain ⟨d1, d2, d3⟩ := Hd.out
          obtain ⟨e1, e2⟩ := HXY.out
          have e3 := Hj.out
          have e4 := HFl.out
          refine ⟨F ++ v', y, x, E, by rw [d3], by rw [e1], by intro h; rw [h] at d3; simp at d3; omega, by intro h; rw [h] at e1; simp at e1; omega, by rw [← HF.out]; simp, ?_, ?_, K1.out.trans K2.out⟩
          · simp at e4 ⊢; omega
          · have h := R1.out
            simpa using h
        case measure => have := Hd.out; simp [intOf]; omega
      · obtain ⟨x, y, hxy, hx⟩ : ∃ x y, v' = x ++ y ∧ x.length = j - i := ⟨v'.take (j - i), v'.drop (j - i), (List.take_append_drop _ _).symm, by rw [List.length_take]; omega⟩
        have hy : y.length = i := by have := congrArg List.length hxy; simp at this; omega
        subst hxy
        obtain ⟨d, hd⟩ : ∃ d, j - i = d := ⟨_, rfl⟩
        obtain ⟨t, ht⟩ : ∃ t, m + d = t := ⟨_, rfl⟩
        have CL := swaps_any (P ++ F) u' x y (E ++ Q) fv g cap L c t i rest wr (by simpa using RB.out) (by have := HLL.out; simp at this ⊢; omega) hn Hi.out hy Hc.out (by have := Hc.out; have := Hi.out; simp at *; omega)
        have HXY : Hid (x.length = d ∧ y.length = i) := ⟨by omega, hy⟩
        have hne : ¬ ((i : Nat) : Int) = (j : Int) := by omega
        have hgi : ¬ ((j : Nat) : Int) < (i : Int) := by omega
        have Hd : Hid (1 ≤ d ∧ d + i = j ∧ 1 ≤ i) := ⟨by omega, by omega, i1⟩
        obtain ⟨mj, hmj⟩ : ∃ mj, m + j = mj := ⟨_, rfl⟩
        have smj : ((m : Nat) : Int) + (j : Int) = (mj : Nat) := by omega
        have wmj : IntKind.i64.wrap ((mj : Nat) : Int) = (mj : Nat) := by rw [IntKind.wrap_i64]; omega
        have smt : ((mj : Nat) : Int) - (i : Int) = (t : Nat) := by omega
        have wt : IntKind.i64.wrap ((t : Nat) : Int) = (t : Nat) := by rw [IntKind.wrap_i64]; omega
        have sij : ((j : Nat) : Int) - (i : Int) = (d : Nat) := by omega
        have wd : IntKind.i64.wrap ((d : Nat) : Int) = (d : Nat) := by rw [IntKind.wrap_i64]; omega
        clear hi hj hx hy hd ht hmj
        go_wp2_with fail
        refine Calls.mono CL ?_
        rintro e w1 ⟨rfl, hr1, hk1⟩
        have R1 : Hid (Rb w1 g (P ++ F ++ y ++ x ++ u' ++ (E ++ Q)) rest) := hr1
        have K2 : Hid (Kp g wr w1) := hk1
        clear hr1 hk1
        go_wp2
        go_roundw
        case rel =>
          obtain ⟨d1, d2, d3⟩ := Hd.out
          obtain ⟨e1, e2⟩ := HXY.out
          have e3 := Hi.out
          have e4 := HFl.out
          refine ⟨F, y, x, u' ++ E, by rw [e2], by rw [e1], by intro h; rw [h] at e2; simp at e2; omega, by intro h; rw [h] at e1; simp at e1; omega, by rw [← HF.out]; simp, ?_, ?_, K1.out.trans K2.out⟩
          · omega
          · have h := R1.out
            simpa using h
        case measure => have := Hd.out; simp [intOf]; omega
end Go.Proofs.YtkejdkajfnaieaaGreatDoor

namespace Go.Proofs.YtkejdkajfnaieaaGreatDoor
open Go.RowKit Go.Proofs.YtkejdkajfnaieaaGreatDoor.So
set_option linter.unusedVariables false

/-- what is looked for among the Y. -/
def BsX (A : List T) (x : T) (Y B : List T) (g : Nat) (rest : List Value) (w : World) (m : Nat) (iv jv : Value) (W : World) : Prop := ∃ (Y1 Y2 Y3 : List T), iv = .int .i64 ((m + Y1.length : Nat) : Int) ∧ jv = .int .i64 ((m + Y1.length + Y2.length : Nat) : Int) ∧ Y1 ++ Y2 ++ Y3 = Y ∧ (∀ z ∈ Y1, lt z x) ∧ (∀ z ∈ Y3, lt x z) ∧ Rb W g (fs (A ++ x :: (Y ++ B))) rest ∧ Kp g w W
/-- it goes up. -/
def UpX (A : List T) (x : T) (Y1 YB : List T) (g : Nat) (rest : List Value) (w : World) (a : Nat) (kv : Value) (W : World) : Prop := ∃ (U V : List T), kv = .int .i64 ((a + U.length : Nat) : Int) ∧ U ++ V = Y1 ∧ Rb W g (fs (A ++ U) ++ x.1 :: (fs V ++ fs YB)) rest ∧ Kp g w W
def MergeSays (A XY B : List T) (g : Nat) (rest : List Value) (w : World) (e : Ending) (w' : World) : Prop := e = .returned (.tuple #[]) ∧ ∃ Z : List T, Z.Perm XY ∧ Z.Pairwise lt ∧ Rb w' g (fs (A ++ Z ++ B)) rest ∧ Kp g w w'
theorem swap_up {α : Type} (P : List α) (x y : α) (R : List α) : ((P ++ x :: y :: R).set P.length y).set (P.length + 1) x = P ++ y :: x :: R := swap_far P [] R x y
set_option maxRecDepth 100000 in
set_option maxHeartbeats 8000000 in
theorem sym_one (A : List T) (x : T) (Y B : List T) (g cap L a m b : Nat) (rest : List Value) (w : World) (hY : Y.Pairwise lt) (hpl : ∀ y ∈ Y, x.2 < y.2) (hr : Rb w g (fs (A ++ x :: (Y ++ B))) rest) (hL : A.length + 1 + Y.length + B.length = L) (hn : L ≤ 1000) (ha : A.length = a) (hm : a + 1 = m) (hb : m + Y.length = b) :
    Calls Tryz.prog 222 #[.slice (some ⟨g, 0, none⟩) L cap, .int .i64 (a : Nat), .int .i64 (m : Nat), .int .i64 (b : Nat), .func (.func 158) #[] #[]] w
      (MergeSays A (x :: Y) B g rest w) := by
  have R0 : Hid (Rb w g (fs (A ++ x :: (Y ++ B))) rest) := hr
  have HL : Hid (A.length + 1 + Y.length + B.length = L) := hL
  have Ha : Hid (A.length = a) := ha
  have Hm : Hid (a + 1 = m) := hm
  have Hb : Hid (m + Y.length = b) := hb
  have HY : Hid (Y.Pairwise lt ∧ ∀ y ∈ Y, x.2 < y.2) := ⟨hY, hpl⟩
  have hbL : b ≤ L := by omega
  have smi : ((m : Nat) : Int) - (a : Int) = 1 := by omega
  have haL : ((a : Nat) : Int) < (L : Int) := by omega
  clear hr hL hY hpl ha hm hb
  go_enter Tryz.func222, Tryz.ntmps222
  go_wp2
  go_loopw [10, 11] (fun iv jv W => BsX A x Y B g rest w m iv jv W) (fun iv jv _ => (intOf jv).toNat - (intOf iv).toNat)
  case atStart =>
    refine ⟨[], Y, [], by simp, by have := Hb.out; simp; omega, by simp, by simp, by simp, R0.out, Kp.refl _ _⟩
  case round =>
    obtain ⟨Y1, Y2, Y3, rfl, rfl, h12, hlo, hhi, hrb, hk⟩ := hrel
    have RB : Hid (Rb wr g (fs (A ++ x :: (Y ++ B))) rest) := hrb
    have K1 : Hid (Kp g w wr) := hk
    have H12 : Hid (Y1 ++ Y2 ++ Y3 = Y) := h12
    have HLO : Hid (∀ z ∈ Y1, lt z x) := hlo
    have HHI : Hid (∀ z ∈ Y3, lt x z) := hhi
    have hlY : Y1.length + Y2.length + Y3.length = Y.length := by have := congrArg List.length h12; simp at this; omega
    obtain ⟨i, hi⟩ : ∃ i, m + Y1.length = i := ⟨_, rfl⟩
    obtain ⟨j, hj⟩ : ∃ j, i + Y2.length = j := ⟨_, rfl⟩
    rw [hi, hj]
    have hjb : j ≤ b := by have := Hb.out; omega
    clear hrb hk h12 hlo hhi
    by_cases he : i = j
    · have hlt : ¬ ((i : Nat) : Int) < (j : Int) := by omega
      have e2 : Y2 = [] := List.length_eq_zero_iff.1 (by omega)
      subst e2
      have HI : Hid (a + Y1.length + 1 = i) := by unfold Hid; have := Hm.out; omega
      have SI : Hid (((i : Nat) : Int) - 1 = ((a + Y1.length : Nat) : Int)) := by unfold Hid; have := HI.out; omega
      have hib : i ≤ b := by omega
      clear hlY hj he
      have si : ((i : Nat) : Int) - 1 = ((a + Y1.length : Nat) : Int) := SI.out
      obtain ⟨t, ht⟩ : ∃ t, a + Y1.length = t := ⟨_, rfl⟩
      have Ht : Hid (a + Y1.length = t) := ht
      have htL : t < L := by have := HI.out; omega
      rw [ht] at si
      have wt : IntKind.i64.wrap ((t : Nat) : Int) = (t : Nat) := by rw [IntKind.wrap_i64]; omega
      have e12 : Y1 ++ [] ++ Y3 = Y1 ++ Y3 := by simp
      have H13 : Hid (Y1 ++ Y3 = Y) := by unfold Hid; rw [← e12]; exact H12.out
      clear ht e12 hi SI
      go_wp2_with fail
      go_loopw [13] (fun kv W => UpX A x Y1 (Y3 ++ B) g rest w a kv W) (fun kv _ => t - (intOf kv).toNat)
      case atStart =>
        refine ⟨[], Y1, by simp, by simp, ?_, K1.out⟩
        have h := RB.out
        rw [← H13.out] at h
        simpa [fs] using h
      case round =>
        obtain ⟨U, V, rfl, hUV, hrb, hk⟩ := hrel
        have R1 : Hid (Rb wr g (fs (A ++ U) ++ x.1 :: (fs V ++ fs (Y3 ++ B))) rest) := hrb
        have K2 : Hid (Kp g w wr) := hk
        have HUV : Hid (U ++ V = Y1) := hUV
        have hl : U.length + V.length = Y1.length := by have := congrArg List.length hUV; simpa using this
        obtain ⟨k, hk'⟩ : ∃ k, a + U.length = k := ⟨_, rfl⟩
        have Hk : Hid (a + U.length = k) := hk'
        rw [hk']
        clear hrb hk hUV
        cases V with
        | nil =>
          have hnk : ¬ ((k : Nat) : Int) < (t : Int) := by have := Ht.out; simp at hl; omega
          clear hk' hl
          go_wp2
          go_end0
          refine ⟨rfl, Y1 ++ x :: Y3, ?_, ?_, ?_, K2.out⟩
          · rw [← H13.out]; exact List.perm_middle
          · exact put_rise (by rw [H13.out]; exact HY.out.1) HLO.out HHI.out
          · have h := R1.out
            have e := HUV.out
            simp only [List.append_nil] at e
            rw [e] at h
            simpa [fs] using h
        | cons y V' =>
          have hnk : ((k : Nat) : Int) < (t : Int) := by have := Ht.out; simp at hl; omega
          have hkt : k < t := by omega
          have HKT : Hid (k < t ∧ t < L) := ⟨hkt, htL⟩
          have hP : (fs (A ++ U)).length = k := by have := Ha.out; simp [fs]; omega
          have RC : Hid (Rb wr g (fs (A ++ U) ++ x.1 :: y.1 :: (fs V' ++ fs (Y3 ++ B))) rest) := by have := R1.out; simpa [fs, Hid] using this
          have AF := at_far (fs (A ++ U)) [] (fs V' ++ fs (Y3 ++ B)) x.1 y.1
          simp only [List.nil_append, List.length_nil, Nat.add_zero] at AF
          have SW : Hid (_ = _) := swap_up (fs (A ++ U)) x.1 y.1 (fs V' ++ fs (Y3 ++ B))
          rw [hP] at AF SW
          have LL : Hid ((fs (A ++ U) ++ x.1 :: y.1 :: (fs V' ++ fs (Y3 ++ B))).length = L) := by
            have h1 := HL.out
            have h2 := congrArg List.length H13.out
            have h3 := Ha.out
            have h4 := hP
            unfold Hid
            simp at h2 hl ⊢
            simp at h4
            omega
          obtain ⟨x0, x1, x2, x3⟩ := RC.out.cells AF.1
          obtain ⟨y0, y1, y2, y3⟩ := RC.out.cells AF.2
          have f0 := RC.out.thaw (k * 4)
          have f1 := RC.out.thaw (k * 4 + 1)
          have f2 := RC.out.thaw (k * 4 + 2)
          have f3 := RC.out.thaw (k * 4 + 3)
          have f4 := RC.out.thaw ((k + 1) * 4)
          have f5 := RC.out.thaw ((k + 1) * 4 + 1)
          have f6 := RC.out.thaw ((k + 1) * 4 + 2)
          have f7 := RC.out.thaw ((k + 1) * 4 + 3)
          have kpos : ¬ ((k : Nat) : Int) + 1 < 0 := by omega
          have hki : ((k : Nat) : Int) + 1 < (L : Int) := by omega
          have hki0 : ((k : Nat) : Int) < (L : Int) := by omega
          clear AF hP hl hk' R1
          go_wp2_with fail
          go_region
          have rr := (RC.out.put (i := k) (by rw [LL.out]; have := HKT.out; omega) y.1).put (i := k + 1) (by rw [List.length_set, LL.out]; have := HKT.out; omega) x.1
          rw [SW.out] at rr
          have RR : Hid (Rb _ g (fs (A ++ U) ++ y.1 :: x.1 :: (fs V' ++ fs (Y3 ++ B))) rest) := rr
          have KR : Hid (Kp g w _) := (((((((K2.out.trans (Kp.set wr (k * 4) (.int .i64 y.1.player))).trans (Kp.set _ (k * 4 + 1) (.int .i64 y.1.unit))).trans (Kp.set _ (k * 4 + 2) (.int .i64 y.1.what))).trans (Kp.set _ (k * 4 + 3) (.int .i64 y.1.arg))).trans (Kp.set _ ((k + 1) * 4) (.int .i64 x.1.player))).trans (Kp.set _ ((k + 1) * 4 + 1) (.int .i64 x.1.unit))).trans (Kp.set _ ((k + 1) * 4 + 2) (.int .i64 x.1.what))).trans (Kp.set _ ((k + 1) * 4 + 3) (.int .i64 x.1.arg))
          clear rr
          go_wp2
          go_roundw
          case rel =>
            have h1 := Hk.out
            refine ⟨U ++ [y], V', by rw [← h1]; simp; omega, by rw [← HUV.out]; simp, ?_, KR.out.trans (Kp.of (Below.refl _ _).drew)⟩
            have h4 := RR.out.below (Below.refl _ _).drew RR.out.lt
            have e : fs (A ++ (U ++ [y])) ++ x.1 :: (fs V' ++ fs (Y3 ++ B)) = fs (A ++ U) ++ y.1 :: x.1 :: (fs V' ++ fs (Y3 ++ B)) := by simp [fs]
            rw [e]
            exact h4
          case measure => have := HKT.out; simp [intOf]; omega
    · have hlt : ((i : Nat) : Int) < (j : Int) := by omega
      obtain ⟨s, hs⟩ : ∃ s, i + j = s := ⟨_, rfl⟩
      obtain ⟨h, hh⟩ : ∃ h, s / 2 = h := ⟨_, rfl⟩
      have ss : ((i : Nat) : Int) + (j : Int) = (s : Nat) := by omega
      have ws : IntKind.i64.wrap ((s : Nat) : Int) = (s : Nat) := by rw [IntKind.wrap_i64]; omega
      have sh : ((s : Nat) : Int) / 2 = (h : Nat) := by omega
      have hih : i ≤ h ∧ h < j := by omega
      obtain ⟨P, y, R, hY2, hPl⟩ : ∃ P y R, Y2 = P ++ y :: R ∧ P.length = h - i := by
        have h1 : h - i < Y2.length := by omega
        exact ⟨Y2.take (h - i), Y2[h - i], Y2.drop (h - i + 1), by rw [List.getElem_cons_drop, List.take_append_drop], by rw [List.length_take]; omega⟩
      subst hY2
      have hhL : h < L := by omega
      have Hy : Hid ((fs (A ++ x :: (Y ++ B)))[h]? = some y.1) := by
        have e : A ++ x :: (Y ++ B) = (A ++ x :: (Y1 ++ P)) ++ y :: (R ++ Y3 ++ B) := by rw [← H12.out]; simp
        have e2 : h = (fs (A ++ x :: (Y1 ++ P))).length := by have := Ha.out; have := Hm.out; simp [fs]; omega
        unfold Hid
        rw [e, e2]
        simp [fs]
      have Hx : Hid ((fs (A ++ x :: (Y ++ B)))[a]? = some x.1) := by
        have e2 : a = (fs A).length := by have := Ha.out; simp [fs]; omega
        unfold Hid
        rw [e2]
        simp [fs]
      have FC : Hid (∀ W, Below wr.heap.size wr W → W.cell? ⟨g, a * 4, none⟩ = some (.int .i64 x.1.player) ∧ W.cell? ⟨g, a * 4 + 1, none⟩ = some (.int .i64 x.1.unit) ∧ W.cell? ⟨g, a * 4 + 2, none⟩ = some (.int .i64 x.1.what) ∧ W.cell? ⟨g, a * 4 + 3, none⟩ = some (.int .i64 x.1.arg) ∧ W.cell? ⟨g, h * 4, none⟩ = some (.int .i64 y.1.player) ∧ W.cell? ⟨g, h * 4 + 1, none⟩ = some (.int .i64 y.1.unit) ∧ W.cell? ⟨g, h * 4 + 2, none⟩ = some (.int .i64 y.1.what) ∧ W.cell? ⟨g, h * 4 + 3, none⟩ = some (.int .i64 y.1.arg)) := fun W hW => by
        have r := RB.out.below hW RB.out.lt
        obtain ⟨x0, x1, x2, x3⟩ := r.cells Hx.out
        obtain ⟨y0, y1, y2, y3⟩ := r.cells Hy.out
        exact ⟨x0, x1, x2, x3, y0, y1, y2, y3⟩
      have CC : Hid (∀ W, Below wr.heap.size wr W → Calls Tryz.prog 158 #[.agg #[.int .i64 y.1.player, .int .i64 y.1.unit, .int .i64 y.1.what, .int .i64 y.1.arg], .agg #[.int .i64 x.1.player, .int .i64 x.1.unit, .int .i64 x.1.what, .int .i64 x.1.arg]] W fun e w' => e = .returned (.int .i64 (cmpo y.1 x.1)) ∧ Below wr.heap.size wr w') := fun W hW => (compare_any y.1 x.1 W).mono fun e w' ⟨h1, h2⟩ => ⟨h1, hW.trans (h2.mono hW.size)⟩
      have ec := ecmp
      have hhi : ((h : Nat) : Int) < (L : Int) := by omega
      have IX : Hid (x.2 < y.2) := HY.out.2 y (by rw [← H12.out]; simp)
      have PW : Hid ((Y1 ++ (P ++ y :: R) ++ Y3).Pairwise lt) := by unfold Hid; rw [H12.out]; exact HY.out.1
      have HN : Hid (m + Y1.length = i ∧ i + P.length = h ∧ h + 1 + R.length = j) := ⟨hi, by omega, by simp at hj; omega⟩
      clear hi hj hh hs hih hPl hlY
      go_upto_region 5 with fail
      refine wp_region_class 10 (fun W => Below wr.heap.size wr W) (by kernel_rfl) (by kernel_rfl) (Below.refl _ _).drew ?_
      simp only [List.take_succ_cons, List.take_zero, List.drop_succ_cons, List.drop_zero]
      refine head_step (.func (.func 158) #[] #[]) (by go_simp) (fun W hW => by go_simp) ?_
      go_simp
      refine head_step (.slice (some ⟨g, 0, none⟩) L cap) (by go_simp) (fun W hW => by go_simp) ?_
      go_simp
      refine head_step (.int .i64 (h : Int)) (by go_simp) (fun W hW => by go_simp) ?_
      go_simp
      refine head_step (.pointer (some ⟨g, h * 4, none⟩)) (by go_simp) (fun W hW => by go_simp) ?_
      go_simp
      refine head_step (.agg #[.int .i64 y.1.player, .int .i64 y.1.unit, .int .i64 y.1.what, .int .i64 y.1.arg]) (by go_simp) (fun W hW => by obtain ⟨-, -, -, -, y0, y1, y2, y3⟩ := FC.out W hW; go_simp) ?_
      go_simp
      refine head_step (.slice (some ⟨g, 0, none⟩) L cap) (by go_simp) (fun W hW => by go_simp) ?_
      go_simp
      refine head_step (.int .i64 (a : Int)) (by go_simp) (fun W hW => by go_simp) ?_
      go_simp
      refine head_step (.pointer (some ⟨g, a * 4, none⟩)) (by go_simp) (fun W hW => by go_simp) ?_
      go_simp
      refine head_step (.agg #[.int .i64 x.1.player, .int .i64 x.1.unit, .int .i64 x.1.what, .int .i64 x.1.arg]) (by go_simp) (fun W hW => by obtain ⟨x0, x1, x2, x3, -⟩ := FC.out W hW; go_simp) ?_
      go_simp
      refine head_call (.int .i64 (cmpo y.1 x.1)) 158 #[.agg #[.int .i64 y.1.player, .int .i64 y.1.unit, .int .i64 y.1.what, .int .i64 y.1.arg], .agg #[.int .i64 x.1.player, .int .i64 x.1.unit, .int .i64 x.1.what, .int .i64 x.1.arg]] (by go_simp) (fun W hW => by go_simp) (fun W hW => CC.out W hW) ?_
      go_simp
      intro W hW
      have RW : Hid (Rb W g (fs (A ++ x :: (Y ++ B))) rest) := RB.out.below hW RB.out.lt
      have KW : Hid (Kp g w W) := K1.out.trans (Kp.of hW)
      by_cases hc : cmpo y.1 x.1 < 0
      · have LX : Hid (lt y x) := (ask_lt IX.out).1 ((klt_iff _ _).1 hc)
        clear hW FC CC
        go_wp2
        go_roundw
        case rel =>
          obtain ⟨n1, n2, n3⟩ := HN.out
          refine ⟨Y1 ++ (P ++ [y]), R, Y3, ?_, ?_, by rw [← H12.out]; simp, fun z hz => ?_, HHI.out, RW.out, KW.out⟩
          · congr 1; simp; omega
          · congr 1; simp; omega
          · rcases List.mem_append.1 hz with hz | hz
            · exact HLO.out z hz
            · rcases List.mem_append.1 hz with hz | hz
              · have h1 := PW.out
                rw [List.append_assoc, List.pairwise_append] at h1
                have h2 := h1.2.1
                rw [List.append_assoc, List.pairwise_append] at h2
                exact lt_trans (h2.2.2 z hz y (by simp)) LX.out
              · simp at hz
                subst hz
                exact LX.out
        case measure => have := HN.out; simp [intOf]; omega
      · have LX : Hid (lt x y) := (ask_ge IX.out).1 (fun h => hc ((klt_iff _ _).2 h))
        clear hW FC CC
        go_wp2
        go_roundw
        case rel =>
          obtain ⟨n1, n2, n3⟩ := HN.out
          refine ⟨Y1, P, y :: (R ++ Y3), ?_, ?_, by rw [← H12.out]; simp, HLO.out, fun z hz => ?_, RW.out, KW.out⟩
          · congr 1; omega
          · congr 1; omega
          · rcases List.mem_cons.1 hz with rfl | hz
            · exact LX.out
            · have h1 := PW.out
              have e : Y1 ++ (P ++ y :: R) ++ Y3 = (Y1 ++ P) ++ y :: (R ++ Y3) := by simp
              rw [e, List.pairwise_append] at h1
              exact lt_trans LX.out ((List.pairwise_cons.1 h1.2.1).1 z hz)
        case measure => have := HN.out; simp [intOf]; omega
end Go.Proofs.YtkejdkajfnaieaaGreatDoor

