/- What plain.Told and marchsame.Error answer of nil, and of an Errno: errors.As is walked at the target *api.Errno. · An error that is told is the reference's. · Lists of integers: what marchsame.Ints answers. · What marchsame.Field answers of two fields that are the same. · What marchsame.World answers of two worlds that are the same. · Are two lists of events the same? · How great what came in is; a byte. · What a walk is told of worlds and bytes that came in. · What a walk is told of kinds that came in. -/
import Derived.Test.YteieikgkmfglaaaGreatDoorRows
import Derived.WalkKit
import Derived.WalkSpells
import Derived.WalkLawsBesides
import Derived.LaidEql
import Derived.Stop.Asserts
import Derived.RowKitTokens
import Derived.Test.YteieikgkmfglaaaGreatDoorZWorksDo2
import Derived.Test.YteieikgkmfglaaaGreatDoorZWorksDo1
import Derived.Test.YteieikgkmfglaaaGreatDoorZWorksDo3
import Derived.Laws.Closers25
import Derived.IntWalk
import Derived.BigRegion
import Derived.Deep.SlicePairs
import Derived.ChangeArms
import Derived.ProofKit
import Derived.OpenShut
namespace Go.Proofs.YteieikgkmfglaaaGreatDoor
open Go.RowKit Go.Extern.Stop Go.Stop Go.Extern
/-- the cell of errors.errorType. -/
def Et (w : World) : Prop := w.cell? ⟨0, 0, none⟩ = some (.iface 169 (.agg #[.pointer (some ⟨2, 35, none⟩)]))
theorem Et.lt {w : World} (h : Et w) : 0 < w.heap.size := by
 rcases Nat.lt_or_ge 0 w.heap.size with h1 | h1
 ·exact h1
 ·unfold Et at h
  simp [World.cell?, Array.getElem?_eq_none h1] at h
theorem Et.below {w w' : World} (h : Et w) (hb : Below w.heap.size w w') : Et w' := by
 unfold Et
 rw [hb.cell (p := ⟨0, 0, none⟩) h.lt]
 exact h
theorem Et.alloc {w : World} (h : Et w) (o : Obj) : Et (w.alloc o) := h.below ((Below.refl _ _).alloc (Nat.le_refl _) _)
theorem tk_valueOfP (t : Addr) (w : World) : (ReflectliteValue.unpack (.iface 105 (.pointer (some t)))).run Tryz.prog w
  = .ok (.agg #[.pointer (some ⟨2, 105, none⟩), .pointer (some ⟨w.heap.size, 0, none⟩), .int .u64 150]) (w.alloc (.cells #[.pointer (some t)] 105)) := by kernel_rfl
theorem tk_typeP (a : Addr) (w : World) : (ReflectliteValue.methodAny (ReflectliteValue.valueError "reflectlite.Value.Type" 0) (fun t _ _ _ => ReflectliteType.toType t) #[.agg #[.pointer (some ⟨2, 105, none⟩), .pointer (some a), .int .u64 150]]).run Tryz.prog w
  = .ok (.iface 169 (.agg #[.pointer (some ⟨2, 105, none⟩)])) w := by kernel_rfl
theorem tk_methodKind (h : Value) (w : World) : (Go.method 358 169 (.agg #[h]) "Kind").run Tryz.prog w = .ok (197, h) w := by kernel_rfl
theorem tk_kindP (w : World) : ((ReflectliteType.abiMethod fun t => (fun a : Nat => Value.int IntKind.u8 (a : Int)) <$> Rtype.kind t) #[.pointer (some ⟨2, 105, none⟩)]).run Tryz.prog w = .ok (.int .u8 22) w := by kernel_rfl
theorem tk_kindE (w : World) : ((ReflectliteType.abiMethod fun t => (fun a : Nat => Value.int IntKind.u8 (a : Int)) <$> Rtype.kind t) #[.pointer (some ⟨2, 77, none⟩)]).run Tryz.prog w = .ok (.int .u8 2) w := by kernel_rfl
theorem tk_open (z : Sem Value) (f : TypeId → Addr → Nat → Nat → Sem Value) (v : Value) :
  ReflectliteValue.method z f #[v] = (ReflectliteValue.parts v >>= fun o => o.elim z fun q => f q.1 q.2.1 q.2.2 (q.2.2 % 32)) := by
 refine (show ReflectliteValue.method z f #[v] = (ReflectliteValue.parts v >>= _) from rfl).trans ?_
 refine congrArg (ReflectliteValue.parts v >>= ·) (funext fun o => ?_)
 cases o <;> rfl
theorem tk_partsP (a : Addr) (w : World) : (ReflectliteValue.parts (.agg #[.pointer (some ⟨2, 105, none⟩), .pointer (some a), .int .u64 150])).run Tryz.prog w = .ok (some (105, a, 150)) w := by kernel_rfl
theorem tk_isNilP (a p : Addr) (W : World) (ha : W.cell? a = some (.pointer (some p))) :
  (ReflectliteValue.method (ReflectliteValue.valueError "reflectlite.Value.IsNil" 0) ReflectliteValue.isNil #[.agg #[.pointer (some ⟨2, 105, none⟩), .pointer (some a), .int .u64 150]]).run Tryz.prog W = .ok (.bool false) W := by
 rw [tk_open]
 simp only [Sem.run_bind, tk_partsP, Result.andThen]
 simp [ReflectliteValue.isNil, loadVar, isAgg, underlying, Tryz.underlying105, ha, Result.andThen]
theorem tk_methodElem (h : Value) (w : World) : (Go.method 358 169 (.agg #[h]) "Elem").run Tryz.prog w = .ok (207, .agg #[h]) w := by kernel_rfl
theorem tk_methodImplements (h : Value) (w : World) : (Go.method 358 169 (.agg #[h]) "Implements").run Tryz.prog w = .ok (208, .agg #[h]) w := by kernel_rfl
theorem tk_methodAssignableTo (h : Value) (w : World) : (Go.method 358 169 (.agg #[h]) "AssignableTo").run Tryz.prog w = .ok (205, .agg #[h]) w := by kernel_rfl
theorem tk_elemP (w : World) : (ReflectliteType.method ReflectliteType.elem #[.agg #[.pointer (some ⟨2, 105, none⟩)]]).run Tryz.prog w = .ok (.iface 169 (.agg #[.pointer (some ⟨2, 77, none⟩)])) w := by kernel_rfl
theorem tk_implementsE (w : World) : (ReflectliteType.relation "Implements" ReflectliteType.implements_ #[.agg #[.pointer (some ⟨2, 77, none⟩)], .iface 169 (.agg #[.pointer (some ⟨2, 35, none⟩)])]).run Tryz.prog w = .ok (.bool true) w := by kernel_rfl
theorem tk_typeOfE (v : Value) (w : World) : (ReflectliteType.typeOf #[.iface 77 v]).run Tryz.prog w = .ok (.iface 169 (.agg #[.pointer (some ⟨2, 77, none⟩)])) w := by kernel_rfl
theorem tk_assignableE (w : World) : (ReflectliteType.relation "AssignableTo" ReflectliteType.assignableTo #[.agg #[.pointer (some ⟨2, 77, none⟩)], .iface 169 (.agg #[.pointer (some ⟨2, 77, none⟩)])]).run Tryz.prog w = .ok (.bool true) w := by kernel_rfl
theorem tk_valueOfE (n : Int) (w : World) : (ReflectliteValue.unpack (.iface 77 (.int .i64 n))).run Tryz.prog w
  = .ok (.agg #[.pointer (some ⟨2, 77, none⟩), .pointer (some ⟨w.heap.size, 0, none⟩), .int .u64 130]) (w.alloc (.cells #[.int .i64 n] 77)) := by kernel_rfl
theorem tk_elemOfP (w : World) : (Rtype.elem? 105).run Tryz.prog w = .ok (some 77) w := by kernel_rfl
theorem tk_mkE (p : Addr) (w : World) : (ReflectliteValue.mk 77 p ReflectliteValue.flagAddr).run Tryz.prog w = .ok (.agg #[.pointer (some ⟨2, 77, none⟩), .pointer (some p), .int .u64 386]) w := by kernel_rfl
theorem tk_elemV (a p : Addr) (W : World) (ha : W.cell? a = some (.pointer (some p))) :
  (ReflectliteValue.method (ReflectliteValue.valueError "reflectlite.Value.Elem" 0) ReflectliteValue.elem #[.agg #[.pointer (some ⟨2, 105, none⟩), .pointer (some a), .int .u64 150]]).run Tryz.prog W
   = .ok (.agg #[.pointer (some ⟨2, 77, none⟩), .pointer (some p), .int .u64 386]) W := by
 rw [tk_open]
 simp only [Sem.run_bind, tk_partsP, Result.andThen]
 simp [ReflectliteValue.elem, loadVar, isAgg, underlying, Tryz.underlying105, ha, Result.andThen, tk_elemOfP, tk_mkE]
theorem tk_partsEa (a : Addr) (w : World) : (ReflectliteValue.parts (.agg #[.pointer (some ⟨2, 77, none⟩), .pointer (some a), .int .u64 386])).run Tryz.prog w = .ok (some (77, a, 386)) w := by kernel_rfl
theorem tk_partsE (a : Addr) (w : World) : (ReflectliteValue.parts (.agg #[.pointer (some ⟨2, 77, none⟩), .pointer (some a), .int .u64 130])).run Tryz.prog w = .ok (some (77, a, 130)) w := by kernel_rfl
theorem tk_directE (w : World) : (Rtype.directlyAssignable 77 77).run Tryz.prog w = .ok true w := by kernel_rfl
theorem tk_setE (ta b : Addr) (n : Int) (old : Value) (W : World) (hb : W.cell? b = some (.int .i64 n)) (ht : W.cell? ta = some old) (hf : W.frozen? ta = false) :
  (ReflectliteValue.set #[.agg #[.pointer (some ⟨2, 77, none⟩), .pointer (some ta), .int .u64 386], .agg #[.pointer (some ⟨2, 77, none⟩), .pointer (some b), .int .u64 130]]).run Tryz.prog W
   = .ok (.tuple #[]) (W.setCell ta (.int .i64 n)) := by
 rw [show ∀ X Y : Value, ReflectliteValue.set #[X, Y] = (ReflectliteValue.parts X >>= fun p => ReflectliteValue.parts Y >>= fun q => _) from fun _ _ => rfl]
 simp only [Sem.run_bind, tk_partsEa, tk_partsE, Result.andThen]
 simp [ReflectliteValue.flagAddr, loadVar, isAgg, underlying, Tryz.underlying77, hb, Result.andThen, tk_directE, storeVar, Value.cells, storeCells, Addr.add]
 rw [run_store Tryz.prog W ta _ _ (by rfl)]
 simp [ht, hf]
set_option maxHeartbeats 4000000 in
theorem as_hit (n : Int) (t : Addr) (old : Value) (w : World) (hg : w.cell? ⟨0, 0, none⟩ = some (.iface 169 (.agg #[.pointer (some ⟨2, 35, none⟩)]))) (ht0 : w.cell? t = some old) (hf0 : w.frozen? t = false) :
  Calls Tryz.prog 62 #[.iface 77 (.int .i64 n), .iface 105 (.pointer (some t))] w fun ev w' => ev = .returned (.bool true) ∧ w' = ((((w.alloc (.cells #[.pointer (some t)] 105)).alloc (.cells #[.pointer (some ⟨2, 105, none⟩), .pointer (some ⟨w.heap.size, 0, none⟩), .int .u64 150] 134)).alloc (.cells #[.pointer (some ⟨2, 105, none⟩), .pointer (some ⟨w.heap.size, 0, none⟩), .int .u64 150] 134)).alloc (.cells #[.int .i64 n] 77)).setCell t (.int .i64 n) := by
 have h6 := @run_callFunc_extern Tryz.prog 94 _ (fun args => ReflectliteValue.unpack (args.getD 0 (.tuple #[]))) Tryz.func94 (by kernel_rfl) (by kernel_rfl) (by kernel_rfl) (by kernel_rfl)
 have h7 := @run_callFunc_extern Tryz.prog 95 _ (ReflectliteValue.methodAny (ReflectliteValue.valueError "reflectlite.Value.Type" 0) (fun t _ _ _ => ReflectliteType.toType t)) Tryz.func95 (by kernel_rfl) (by kernel_rfl) (by kernel_rfl) (by kernel_rfl)
 have h8 := @run_callFunc_extern Tryz.prog 96 _ (ReflectliteValue.method (ReflectliteValue.valueError "reflectlite.Value.IsNil" 0) ReflectliteValue.isNil) Tryz.func96 (by kernel_rfl) (by kernel_rfl) (by kernel_rfl) (by kernel_rfl)
 have h27 := @run_callFunc_extern Tryz.prog 197 _ (ReflectliteType.abiMethod fun t => do pure (.int .u8 (← Rtype.kind t))) Tryz.func197 (by kernel_rfl) (by kernel_rfl) (by kernel_rfl) (by kernel_rfl)
 have h37 := @run_callFunc_extern Tryz.prog 207 _ (ReflectliteType.method ReflectliteType.elem) Tryz.func207 (by kernel_rfl) (by kernel_rfl) (by kernel_rfl) (by kernel_rfl)
 have h38 := @run_callFunc_extern Tryz.prog 208 _ (ReflectliteType.relation "Implements" ReflectliteType.implements_) Tryz.func208 (by kernel_rfl) (by kernel_rfl) (by kernel_rfl) (by kernel_rfl)
 have h10 := @run_callFunc_extern Tryz.prog 122 _ ReflectliteType.typeOf Tryz.func122 (by kernel_rfl) (by kernel_rfl) (by kernel_rfl) (by kernel_rfl)
 have h35 := @run_callFunc_extern Tryz.prog 205 _ (ReflectliteType.relation "AssignableTo" ReflectliteType.assignableTo) Tryz.func205 (by kernel_rfl) (by kernel_rfl) (by kernel_rfl) (by kernel_rfl)
 have h11 := @run_callFunc_extern Tryz.prog 123 _ (ReflectliteValue.method (ReflectliteValue.valueError "reflectlite.Value.Elem" 0) ReflectliteValue.elem) Tryz.func123 (by kernel_rfl) (by kernel_rfl) (by kernel_rfl) (by kernel_rfl)
 have h12 := @run_callFunc_extern Tryz.prog 124 _ ReflectliteValue.set Tryz.func124 (by kernel_rfl) (by kernel_rfl) (by kernel_rfl) (by kernel_rfl)
 have tO := tk_typeOfE
 have mA := tk_methodAssignableTo
 have a25 := tk_assignableE
 have v25 := tk_valueOfE
 have f6 := tk_valueOfP
 have f7 := tk_typeP
 have mK := tk_methodKind
 have mE := tk_methodElem
 have mI := tk_methodImplements
 have k27 := tk_kindP
 have k25 := tk_kindE
 have e27 := tk_elemP
 have i25 := tk_implementsE
 have n8 := tk_isNilP ⟨w.heap.size, 0, none⟩ t ((w.alloc (.cells #[.pointer (some t)] 105)).alloc (.cells #[.pointer (some ⟨2, 105, none⟩), .pointer (some ⟨w.heap.size, 0, none⟩), .int .u64 150] 134)) (by simp)
 have hlt : 0 < w.heap.size := Et.lt hg
 have hg2 : ((w.alloc (.cells #[.pointer (some t)] 105)).alloc (.cells #[.pointer (some ⟨2, 105, none⟩), .pointer (some ⟨w.heap.size, 0, none⟩), .int .u64 150] 134)).cell? ⟨0, 0, none⟩ = some (.iface 169 (.agg #[.pointer (some ⟨2, 35, none⟩)])) := by
  rw [World.cell?_alloc_lt _ _ ⟨0, 0, none⟩ (by simp; try omega), World.cell?_alloc_lt _ _ ⟨0, 0, none⟩ hlt]; exact hg
 have htl : t.block < w.heap.size := by
  rcases Nat.lt_or_ge t.block w.heap.size with h | h
  ·exact h
  ·simp [World.cell?, Array.getElem?_eq_none h] at ht0
 have el := tk_elemV ⟨w.heap.size, 0, none⟩ t (((w.alloc (.cells #[.pointer (some t)] 105)).alloc (.cells #[.pointer (some ⟨2, 105, none⟩), .pointer (some ⟨w.heap.size, 0, none⟩), .int .u64 150] 134)).alloc (.cells #[.pointer (some ⟨2, 105, none⟩), .pointer (some ⟨w.heap.size, 0, none⟩), .int .u64 150] 134)) (by rw [World.cell?_alloc_lt _ _ ⟨w.heap.size, 0, none⟩ (by simp; omega)]; simp)
 have st := tk_setE t ⟨w.heap.size + 1 + 1 + 1, 0, none⟩ n old ((((w.alloc (.cells #[.pointer (some t)] 105)).alloc (.cells #[.pointer (some ⟨2, 105, none⟩), .pointer (some ⟨w.heap.size, 0, none⟩), .int .u64 150] 134)).alloc (.cells #[.pointer (some ⟨2, 105, none⟩), .pointer (some ⟨w.heap.size, 0, none⟩), .int .u64 150] 134)).alloc (.cells #[.int .i64 n] 77))
  (by rw [World.cell?_alloc_at _ _ _ _ (by simp)]; rfl)
  (by rw [World.cell?_alloc_lt _ _ t (by simp; omega), World.cell?_alloc_lt _ _ t (by simp; omega), World.cell?_alloc_lt _ _ t (by simp; omega), World.cell?_alloc_lt _ _ t htl]; exact ht0)
  (by rw [World.frozen?_alloc_old _ _ t (by simp; omega), World.frozen?_alloc_old _ _ t (by simp; omega), World.frozen?_alloc_old _ _ t (by simp; omega), World.frozen?_alloc_old _ _ t (Nat.ne_of_lt htl)]; exact hf0)
 go_enter Tryz.func62, Tryz.ntmps62
 go_wp2
 refine wp_loop_rounds 1 ?_
 rw [rounds_succ]
 go_wp2
 go_ret
 exact ⟨rfl, rfl⟩
set_option maxHeartbeats 400000 in
theorem told_nil (w : World) : Calls Tryz.prog 35 #[.nilIface] w fun e w' => e = .returned (.int .i64 0) ∧ w' = w := by
 go_enter Tryz.func35, Tryz.ntmps35
 go_wp2
 go_ret
 exact ⟨rfl, rfl⟩
set_option maxHeartbeats 1000000 in
theorem told_hit (n : Int) (w : World) (hg : Et w) :
  Calls Tryz.prog 35 #[.iface 77 (.int .i64 n)] w fun e w' => e = .returned (.int .i64 n) ∧ Below w.heap.size w w' := by
 have hA : (w.alloc (.cells #[.int .i64 0] 77)).cell? ⟨0, 0, none⟩ = some (.iface 169 (.agg #[.pointer (some ⟨2, 35, none⟩)])) := hg.alloc _
 have hB : (w.alloc (.cells #[.int .i64 0] 77)).cell? ⟨w.heap.size, 0, none⟩ = some (.int .i64 0) := by simp
 have hC : (w.alloc (.cells #[.int .i64 0] 77)).frozen? ⟨w.heap.size, 0, none⟩ = false := by simp
 go_enter Tryz.func35, Tryz.ntmps35
 go_wp2_with (go_at_call 62; refine (as_hit _ _ (.int .i64 0) _ hA hB hC).mono ?_; rintro e w' ⟨rfl, rfl⟩)
 go_ret
 refine ⟨rfl, ?_⟩
 repeat (first | exact Below.refl _ _ | refine Below.alloc ?_ (by simp; try omega) _)
set_option maxHeartbeats 400000 in
theorem same_nil (x : Int) (w : World) : Calls Tryz.prog 10 #[.nilIface, .int .i64 x] w fun e w' => e = .returned (.bool (0 == x)) ∧ w' = w := by
 go_enter Tryz.func10, Tryz.ntmps10
 go_wp2_with (go_at_call 35; refine (told_nil _).mono ?_; rintro e w' ⟨rfl, rfl⟩)
 go_ret
 exact ⟨rfl, rfl⟩
set_option maxHeartbeats 400000 in
theorem same_hit (n x : Int) (w : World) (hg : Et w) : Calls Tryz.prog 10 #[.iface 77 (.int .i64 n), .int .i64 x] w fun e w' => e = .returned (.bool (n == x)) ∧ Below w.heap.size w w' := by
 have Hg : Hid (Et w) := hg
 clear hg
 go_enter Tryz.func10, Tryz.ntmps10
 go_wp2_with fail
 refine (told_hit _ _ Hg).mono ?_
 rintro e w1 ⟨rfl, hb⟩
 have Hb : Hid (Below w.heap.size w w1) := hb
 clear hb
 go_wp2
 go_ret
 exact ⟨rfl, Hb⟩
end Go.Proofs.YteieikgkmfglaaaGreatDoor
namespace Go.Proofs.YteieikgkmfglaaaGreatDoor
open Go.RowKit
theorem er_same (u : Value) (n : Int) (w : World) (h : Er u n) (hg : Et w) :
  Calls Tryz.prog 10 #[u, .int .i64 n] w fun e w' => e = .returned (.bool true) ∧ Below w.heap.size w w' := by
 rcases h with ⟨rfl, rfl⟩ | ⟨h0, rfl⟩
 ·exact (same_nil 0 w).mono fun e w' ⟨h1, h2⟩ => ⟨h1, by rw [h2]; exact Below.refl _ _⟩
 ·exact (same_hit n n w hg).mono fun e w' ⟨h1, h2⟩ => ⟨by rw [h1, beq_self_eq_true], h2⟩
end Go.Proofs.YteieikgkmfglaaaGreatDoor
namespace Go.Proofs.YteieikgkmfglaaaGreatDoor
open Go.RowKit
set_option maxHeartbeats 400000 in
theorem ints_any (u v : Value) (xs ys : List Int) (w : World) (hu : Ro w u xs) (hv : Ro w v ys) :
  Calls Tryz.prog 20 #[u, v] w fun e w' => e = .returned (.bool (decide (xs = ys))) ∧ ∃ n, w' = w.drewN n := by
 obtain ⟨a, c, rfl, hc1, hc2, ha⟩ := hu
 obtain ⟨b, d, rfl, hd1, hd2, hb⟩ := hv
 have Ha : Hid (Cells w a xs) := ha
 have Hb : Hid (Cells w b ys) := hb
 clear ha hb
 by_cases hl : xs.length = ys.length
 ·have Hl : Hid (xs.length = ys.length) := hl
  rw [← hl] at hd1 ⊢
  clear hl
  go_enter Tryz.func20, Tryz.ntmps20
  go_wp2_with fail
  go_loopw [5] (fun i W => ∃ (k q : Nat), k ≤ xs.length ∧ i = .int .i64 (k : Nat) ∧ xs.take k = ys.take k ∧ W = w.drewN q) (fun i _ => xs.length - (intOf i).toNat)
  case atStart => exact ⟨0, 0, Nat.zero_le _, rfl, by simp, rfl⟩
  case round =>
   obtain ⟨k, q, hk, rfl, ht, rfl⟩ := hrel
   have Ht : Hid (xs.take k = ys.take k) := ht
   clear ht
   by_cases h0 : k = xs.length
   ·subst h0
    go_wp2
    go_ret
    refine ⟨?_, q, rfl⟩
    have e := Ht.out
    rw [List.take_of_length_le (Nat.le_refl _), Hl.out, List.take_of_length_le (Nat.le_refl _)] at e
    simp [e]
   ·have hkx : k < xs.length := by omega
    have hky : k < ys.length := by rw [← Hl.out]; exact hkx
    obtain ⟨x, rfl, -, hx⟩ := Ha.out (by intro h; rw [h] at hkx; simp at hkx)
    obtain ⟨y, rfl, -, hy⟩ := Hb.out (by intro h; rw [h] at hky; simp at hky)
    have cx := hx k xs[k] (List.getElem?_eq_getElem hkx)
    have cy := hy k ys[k] (List.getElem?_eq_getElem hky)
    have Te : Hid (xs.take (k + 1) = ys.take (k + 1) ↔ xs[k] = ys[k]) := by
     unfold Hid
     rw [List.take_succ_eq_append_getElem hkx, List.take_succ_eq_append_getElem hky, Ht.out]
     exact ⟨fun h => (List.cons.inj (List.append_cancel_left h)).1, fun h => by rw [h]⟩
    generalize xs[k] = p at *
    generalize ys[k] = r at *
    clear hx hy
    by_cases hpr : p = r
    ·subst hpr
     go_wp2
     go_quiet (fail)
     go_wp2
     go_round
     case rel => exact ⟨k + 1, q + nq, by omega, by go_num, by first | exact Te.out.2 rfl | exact Te.out.2 trivial, rfl⟩
     case measure => simp [intOf]; omega
    ·go_wp2
     go_quiet (fail)
     go_wp2
     go_ret
     refine ⟨?_, q + nq, by rw [World.drewN_drewN]⟩
     have : xs ≠ ys := fun h => hpr (Te.out.1 (by rw [h]))
     simp [this]
 ·go_enter Tryz.func20, Tryz.ntmps20
  go_wp2
  go_ret
  refine ⟨?_, 0, rfl⟩
  have : xs ≠ ys := fun h => hl (by rw [h])
  simp [this]
end Go.Proofs.YteieikgkmfglaaaGreatDoor
namespace Go.Proofs.YteieikgkmfglaaaGreatDoor
open Go.RowKit
set_option linter.unusedVariables false
set_option maxHeartbeats 1000000 in
theorem same_field (u v : Value) (W H : Int) (gs os : List Int) (w : World) (hu : Fl w u W H gs os) (hv : Fl w v W H gs os) :
  Calls Tryz.prog 36 #[u, v] w fun e w' => e = .returned (.bool true) ∧ Below w.heap.size w w' := by
 obtain ⟨a1, a2, rfl, ha1, ha2⟩ := hu
 obtain ⟨b1, b2, rfl, hb1, hb2⟩ := hv
 have A1 : Hid (Ro w a1 gs) := ha1
 have A2 : Hid (Ro w a2 os) := ha2
 have B1 : Hid (Ro w b1 gs) := hb1
 have B2 : Hid (Ro w b2 os) := hb2
 clear ha1 ha2 hb1 hb2
 go_enter Tryz.func36, Tryz.ntmps36
 go_wp2_with fail
 have K0 : Below w.heap.size w ((w.alloc (Obj.cells #[.int .i64 W, .int .i64 H, a1, a2] 25)).alloc (Obj.cells #[.int .i64 W, .int .i64 H, b1, b2] 25)) := ((Below.refl _ _).alloc (Nat.le_refl _) _).alloc (by simp) _
 have X0 := (Bf.mk' (w := w) W H a1 a2 rfl).below ((Below.refl _ _).alloc (Nat.le_refl _) (Obj.cells #[.int .i64 W, .int .i64 H, b1, b2] 25)) (by simp)
 have Y0 := Bf.mk' (w := w.alloc (Obj.cells #[.int .i64 W, .int .i64 H, a1, a2] 25)) (z := w.heap.size + 1) W H b1 b2 (by simp)
 generalize (w.alloc (Obj.cells #[.int .i64 W, .int .i64 H, a1, a2] 25)).alloc (Obj.cells #[.int .i64 W, .int .i64 H, b1, b2] 25) = w0 at *
 refine (ints_any _ _ gs gs _ (A1.out.below K0) (B1.out.below K0)).mono ?_
 rintro e w1 ⟨rfl, q1, hq1⟩
 rw [decide_eq_true rfl]
 have k1 : Below w0.heap.size w0 w1 := by rw [hq1]; exact _root_.Go.below_drewN (Below.refl _ _) _
 have K1 : Below w.heap.size w w1 := K0.trans (k1.mono K0.size)
 have X1 : Hid (Bf w1 w.heap.size W H a1 a2) := X0.below k1 X0.lt
 have Y1 : Hid (Bf w1 (w.heap.size + 1) W H b1 b2) := Y0.below k1 Y0.lt
 clear hq1 k1 X0 Y0 K0
 obtain ⟨x0, x1, x2, x3⟩ := X1.out
 obtain ⟨y0, y1, y2, y3⟩ := Y1.out
 have K1' : Hid (Below w.heap.size w w1) := K1
 clear K1
 go_wp2_with fail
 refine (ints_any _ _ os os _ (A2.out.below K1'.out) (B2.out.below K1'.out)).mono ?_
 rintro e w2 ⟨rfl, q2, hq2⟩
 rw [decide_eq_true rfl]
 have k2 : Below w1.heap.size w1 w2 := by rw [hq2]; exact _root_.Go.below_drewN (Below.refl _ _) _
 have K2 : Hid (Below w.heap.size w w2) := K1'.out.trans (k2.mono K1'.out.size)
 have X2 : Hid (Bf w2 w.heap.size W H a1 a2) := X1.out.below k2 X1.out.lt
 have Y2 : Hid (Bf w2 (w.heap.size + 1) W H b1 b2) := Y1.out.below k2 Y1.out.lt
 clear hq2 k2 x0 x1 x2 x3 y0 y1 y2 y3 X1 Y1 K1'
 obtain ⟨x0, x1, x2, x3⟩ := X2.out
 obtain ⟨y0, y1, y2, y3⟩ := Y2.out
 go_wp2
 go_ret
 exact ⟨rfl, K2⟩
end Go.Proofs.YteieikgkmfglaaaGreatDoor
namespace Go.Proofs.YteieikgkmfglaaaGreatDoor
open Go.RowKit
set_option linter.unusedVariables false
theorem ints_like (u v : Value) (xs : List Int) (w : World) (hu : Ro w u xs) (hv : Ro w v xs) :
  Calls Tryz.prog 20 #[u, v] w fun e w' => e = .returned (.bool true) ∧ Below w.heap.size w w' :=
 (ints_any u v xs xs w hu hv).mono fun e w' ⟨h1, q, h2⟩ => ⟨by rw [h1, decide_eq_true rfl], by rw [h2]; exact _root_.Go.below_drewN (Below.refl _ _) _⟩
set_option maxRecDepth 100000 in
set_option maxHeartbeats 4000000 in
theorem worlds_like (u v : Value) (W : WV) (w : World) (hu : Wl w u W) (hv : Wl w v W) :
  Calls Tryz.prog 11 #[u, v] w fun e w' => e = .returned (.bool true) ∧ Below w.heap.size w w' := by
 obtain ⟨u1, u2, u3, u4, u5, rfl, g1, g2, g3, g4, g5⟩ := hu
 obtain ⟨v1, v2, v3, v4, v5, rfl, k1, k2, k3, k4, k5⟩ := hv
 obtain ⟨a4, c4, rfl, gl4, gc4, ga4⟩ := g4
 obtain ⟨b4, d4, rfl, kl4, kc4, ka4⟩ := k4
 obtain ⟨a5, c5, rfl, gl5, gc5, ga5⟩ := g5
 obtain ⟨b5, d5, rfl, kl5, kc5, ka5⟩ := k5
 have R : Hid (Ro w u1 W.gs ∧ Ro w u2 W.os ∧ Ro w u3 W.gold ∧ Ro w v1 W.gs ∧ Ro w v2 W.os ∧ Ro w v3 W.gold) := ⟨g1, g2, g3, k1, k2, k3⟩
 have GU : Hid (W.us ≠ [] → ∃ x, a4 = some x ∧ x.block < w.heap.size ∧ ∀ (i : Nat) k, W.us[i]? = some k → Unc w (x.add (i * 8)) k) := ga4
 have KU : Hid (W.us ≠ [] → ∃ x, b4 = some x ∧ x.block < w.heap.size ∧ ∀ (i : Nat) k, W.us[i]? = some k → Unc w (x.add (i * 8)) k) := ka4
 have GJ : Hid (W.qs ≠ [] → ∃ x, a5 = some x ∧ x.block < w.heap.size ∧ ∀ (i : Nat) k, W.qs[i]? = some k → Jbc w (x.add (i * 4)) k) := ga5
 have KJ : Hid (W.qs ≠ [] → ∃ x, b5 = some x ∧ x.block < w.heap.size ∧ ∀ (i : Nat) k, W.qs[i]? = some k → Jbc w (x.add (i * 4)) k) := ka5
 have hul : W.us.length ≤ 9223372036854775807 := by omega
 have hql : W.qs.length ≤ 9223372036854775807 := by omega
 clear g1 g2 g3 k1 k2 k3 ga4 ka4 ga5 ka5 gl4 gc4 kl4 kc4 gl5 gc5 kl5 kc5
 go_enter Tryz.func11, Tryz.ntmps11
 go_wp2_with fail
 have K0 : Below w.heap.size w ((w.alloc (Obj.cells #[.int .i64 W.turn, .int .i64 W.next, .int .i64 W.wide, .int .i64 W.high, u1, u2, u3, .slice a4 W.us.length c4, .slice a5 W.qs.length c5] 29)).alloc (Obj.cells #[.int .i64 W.turn, .int .i64 W.next, .int .i64 W.wide, .int .i64 W.high, v1, v2, v3, .slice b4 W.us.length d4, .slice b5 W.qs.length d5] 29)) := ((Below.refl _ _).alloc (Nat.le_refl _) _).alloc (by simp) _
 have X0 := (Bw.mk' (w := w) W u1 u2 u3 (.slice a4 W.us.length c4) (.slice a5 W.qs.length c5) rfl).below ((Below.refl _ _).alloc (Nat.le_refl _) (Obj.cells #[.int .i64 W.turn, .int .i64 W.next, .int .i64 W.wide, .int .i64 W.high, v1, v2, v3, .slice b4 W.us.length d4, .slice b5 W.qs.length d5] 29)) (by simp)
 have Y0 := Bw.mk' (w := w.alloc (Obj.cells #[.int .i64 W.turn, .int .i64 W.next, .int .i64 W.wide, .int .i64 W.high, u1, u2, u3, .slice a4 W.us.length c4, .slice a5 W.qs.length c5] 29)) (z := w.heap.size + 1) W v1 v2 v3 (.slice b4 W.us.length d4) (.slice b5 W.qs.length d5) (by simp)
 generalize ((w.alloc (Obj.cells #[.int .i64 W.turn, .int .i64 W.next, .int .i64 W.wide, .int .i64 W.high, u1, u2, u3, .slice a4 W.us.length c4, .slice a5 W.qs.length c5] 29)).alloc (Obj.cells #[.int .i64 W.turn, .int .i64 W.next, .int .i64 W.wide, .int .i64 W.high, v1, v2, v3, .slice b4 W.us.length d4, .slice b5 W.qs.length d5] 29)) = w0 at *
 refine (same_field _ _ W.wide W.high W.gs W.os w0 ⟨_, _, rfl, R.out.1.below K0, R.out.2.1.below K0⟩ ⟨_, _, rfl, R.out.2.2.2.1.below K0, R.out.2.2.2.2.1.below K0⟩).mono ?_
 rintro e w1 ⟨rfl, hb1⟩
 have K1 : Hid (Below w.heap.size w w1) := K0.trans (hb1.mono K0.size)
 have X1 : Hid (Bw w1 w.heap.size W u1 u2 u3 (.slice a4 W.us.length c4) (.slice a5 W.qs.length c5)) := X0.below hb1 X0.lt
 have Y1 : Hid (Bw w1 (w.heap.size + 1) W v1 v2 v3 (.slice b4 W.us.length d4) (.slice b5 W.qs.length d5)) := Y0.below hb1 Y0.lt
 clear K0 X0 Y0 hb1
 obtain ⟨x0, x1, x2, x3, x4, x5, x6, x7, x8⟩ := X1.out
 obtain ⟨y0, y1, y2, y3, y4, y5, y6, y7, y8⟩ := Y1.out
 go_wp2_with fail
 refine (ints_like _ _ W.gold w1 (R.out.2.2.1.below K1.out) (R.out.2.2.2.2.2.below K1.out)).mono ?_
 rintro e w2 ⟨rfl, hb2⟩
 have K2' : Hid (Below w.heap.size w w2) := K1.out.trans (hb2.mono K1.out.size)
 have X2 : Hid (Bw w2 w.heap.size W u1 u2 u3 (.slice a4 W.us.length c4) (.slice a5 W.qs.length c5)) := X1.out.below hb2 X1.out.lt
 have Y2 : Hid (Bw w2 (w.heap.size + 1) W v1 v2 v3 (.slice b4 W.us.length d4) (.slice b5 W.qs.length d5)) := Y1.out.below hb2 Y1.out.lt
 clear hb2 x0 x1 x2 x3 x4 x5 x6 x7 x8 y0 y1 y2 y3 y4 y5 y6 y7 y8 X1 Y1 K1
 obtain ⟨x0, x1, x2, x3, x4, x5, x6, x7, x8⟩ := X2.out
 obtain ⟨y0, y1, y2, y3, y4, y5, y6, y7, y8⟩ := Y2.out
 go_wp2
 clear x0 x1 x2 x3 x4 x5 x6 x7 x8 y0 y1 y2 y3 y4 y5 y6 y7 y8
 go_loopw [7] (fun i W' => ∃ k : Nat, k ≤ W.us.length ∧ i = .int .i64 (k : Nat) ∧ Bw W' w.heap.size W u1 u2 u3 (.slice a4 W.us.length c4) (.slice a5 W.qs.length c5) ∧ Bw W' (w.heap.size + 1) W v1 v2 v3 (.slice b4 W.us.length d4) (.slice b5 W.qs.length d5) ∧ Below w.heap.size w W') (fun i _ => W.us.length - (intOf i).toNat)
 case atStart => exact ⟨0, Nat.zero_le _, rfl, X2.out, Y2.out, K2'.out⟩
 case round =>
  obtain ⟨k, hk, rfl, hX, hY, hB⟩ := hrel
  have XB : Hid (Bw wr w.heap.size W u1 u2 u3 (.slice a4 W.us.length c4) (.slice a5 W.qs.length c5)) := hX
  have YB : Hid (Bw wr (w.heap.size + 1) W v1 v2 v3 (.slice b4 W.us.length d4) (.slice b5 W.qs.length d5)) := hY
  have B : Hid (Below w.heap.size w wr) := hB
  clear hX hY hB X2 Y2 K2'
  by_cases h0 : k = W.us.length
  ·subst h0
   have x7 := XB.out.c7
   clear hk
   go_wp2
   clear x7
   go_loopw [8] (fun i W' => ∃ k : Nat, k ≤ W.qs.length ∧ i = .int .i64 (k : Nat) ∧ Bw W' w.heap.size W u1 u2 u3 (.slice a4 W.us.length c4) (.slice a5 W.qs.length c5) ∧ Bw W' (w.heap.size + 1) W v1 v2 v3 (.slice b4 W.us.length d4) (.slice b5 W.qs.length d5) ∧ Below w.heap.size w W') (fun i _ => W.qs.length - (intOf i).toNat)
   case atStart => exact ⟨0, Nat.zero_le _, rfl, XB.out, YB.out, B.out⟩
   case round =>
    obtain ⟨k, hk, rfl, hX, hY, hB⟩ := hrel
    have XB : Hid (Bw wr w.heap.size W u1 u2 u3 (.slice a4 W.us.length c4) (.slice a5 W.qs.length c5)) := hX
    have YB : Hid (Bw wr (w.heap.size + 1) W v1 v2 v3 (.slice b4 W.us.length d4) (.slice b5 W.qs.length d5)) := hY
    have B : Hid (Below w.heap.size w wr) := hB
    clear hX hY hB
    by_cases h0 : k = W.qs.length
    ·subst h0
     have x8 := XB.out.c8
     clear hk
     go_wp2
     go_ret
     exact ⟨rfl, B.out⟩
    ·have hlt : k < W.qs.length := by omega
     have hlti : ((k : Nat) : Int) < (W.qs.length : Nat) := by omega
     obtain ⟨o, ho⟩ : ∃ o, W.qs[k]? = some o := ⟨_, List.getElem?_eq_getElem hlt⟩
     have hne : W.qs ≠ [] := by intro e; rw [e] at hlt; simp at hlt
     obtain ⟨x, rfl, hx, hxc⟩ := GJ.out hne
     obtain ⟨y, rfl, hy, hyc⟩ := KJ.out hne
     obtain ⟨q0, q1, q2, q3⟩ := (hxc k o ho).below B.out (by rw [add_block]; exact hx)
     obtain ⟨r0, r1, r2, r3⟩ := (hyc k o ho).below B.out (by rw [add_block]; exact hy)
     have x8 := XB.out.c8
     have y8 := YB.out.c8
     clear hxc hyc hne ho hx hy
     go_wp2
     go_quiet (fail)
     go_wp2
     go_round
     case rel => exact ⟨k + 1, by omega, by go_num, XB.out.below (_root_.Go.below_drewN (Below.refl _ _) _) XB.out.lt, YB.out.below (_root_.Go.below_drewN (Below.refl _ _) _) YB.out.lt, _root_.Go.below_drewN B.out _⟩
     case measure => simp [intOf]; omega
  ·have hlt : k < W.us.length := by omega
   have hlti : ((k : Nat) : Int) < (W.us.length : Nat) := by omega
   obtain ⟨o, ho⟩ : ∃ o, W.us[k]? = some o := ⟨_, List.getElem?_eq_getElem hlt⟩
   have hne : W.us ≠ [] := by intro e; rw [e] at hlt; simp at hlt
   obtain ⟨x, rfl, hx, hxc⟩ := GU.out hne
   obtain ⟨y, rfl, hy, hyc⟩ := KU.out hne
   obtain ⟨q0, q1, q2, q3, q4, q5, q6, q7⟩ := (hxc k o ho).below B.out (by rw [add_block]; exact hx)
   obtain ⟨r0, r1, r2, r3, r4, r5, r6, r7⟩ := (hyc k o ho).below B.out (by rw [add_block]; exact hy)
   have x7 := XB.out.c7
   have y7 := YB.out.c7
   clear hxc hyc hne ho hx hy
   go_wp2
   go_quiet (fail)
   go_wp2
   go_round
   case rel => exact ⟨k + 1, by omega, by go_num, XB.out.below (_root_.Go.below_drewN (Below.refl _ _) _) XB.out.lt, YB.out.below (_root_.Go.below_drewN (Below.refl _ _) _) YB.out.lt, _root_.Go.below_drewN B.out _⟩
   case measure => simp [intOf]; omega
end Go.Proofs.YteieikgkmfglaaaGreatDoor
namespace Go.Proofs.YteieikgkmfglaaaGreatDoor
open Go.RowKit
set_option linter.unusedVariables false
set_option maxRecDepth 100000 in
set_option maxHeartbeats 4000000 in
theorem events_like (u v : Value) (ks : List EvV) (w : World) (hu : Evl w u ks) (hv : Evl w v ks) :
  Calls Tryz.prog 12 #[u, v] w fun e w' => e = .returned (.bool true) ∧ Below w.heap.size w w' := by
 obtain ⟨a, c, rfl, hc1, hc2, ha⟩ := hu
 obtain ⟨b, d, rfl, hd1, hd2, hb⟩ := hv
 have Ha : Hid (ks ≠ [] → ∃ x, a = some x ∧ x.block < w.heap.size ∧ ∀ (i : Nat) k, ks[i]? = some k → Evc w (x.add (i * 3)) k) := ha
 have Hb : Hid (ks ≠ [] → ∃ x, b = some x ∧ x.block < w.heap.size ∧ ∀ (i : Nat) k, ks[i]? = some k → Evc w (x.add (i * 3)) k) := hb
 clear ha hb
 go_enter Tryz.func12, Tryz.ntmps12
 go_wp2
 go_loopw [5] (fun i W' => ∃ k : Nat, k ≤ ks.length ∧ i = .int .i64 (k : Nat) ∧ ∃ n, W' = w.drewN n) (fun i _ => ks.length - (intOf i).toNat)
 case atStart => exact ⟨0, Nat.zero_le _, rfl, 0, rfl⟩
 case round =>
  obtain ⟨k, hk, rfl, n, rfl⟩ := hrel
  by_cases h0 : k = ks.length
  ·subst h0
   have B : Hid (Below w.heap.size w (w.drewN n)) := ⟨rfl, rfl, rfl, Nat.le_refl _, fun _ _ => rfl⟩
   go_wp2
   go_ret
   exact ⟨rfl, B⟩
  ·have hlt : k < ks.length := by omega
   have hlti : ((k : Nat) : Int) < (ks.length : Nat) := by omega
   obtain ⟨o, ho⟩ : ∃ o, ks[k]? = some o := ⟨_, List.getElem?_eq_getElem hlt⟩
   have hne : ks ≠ [] := by rintro rfl; simp at hlt
   obtain ⟨x, rfl, hx, hxc⟩ := Ha.out hne
   obtain ⟨y, rfl, hy, hyc⟩ := Hb.out hne
   have cx := hxc k o ho
   have cy := hyc k o ho
   obtain ⟨q0, q1, q2⟩ := cx
   obtain ⟨r0, r1, r2⟩ := cy
   clear hxc hyc hne ho
   go_wp2
   go_quiet (fail)
   go_wp2
   go_round
   case rel => exact ⟨k + 1, by omega, by go_num, n + nq, rfl⟩
   case measure => simp [intOf]; omega
end Go.Proofs.YteieikgkmfglaaaGreatDoor
namespace Go.Proofs.YteieikgkmfglaaaGreatDoor
open Go.ChangeShapes Go.WideShapes Go.ChangeAt Go.RowKit
set_option linter.unusedVariables false
theorem bulk_pos {H : Type} : ∀ d : DataW H, 1 ≤ Rows.uptoBulk d
 | .lit (.string bytes) => by simp [Rows.uptoBulk]
 | .lit (.int _ _) => by simp [Rows.uptoBulk]
 | .lit (.bool _) => by simp [Rows.uptoBulk]
 | .lit (.float .f32 _) => by simp [Rows.uptoBulk]
 | .lit (.float .f64 _) => by simp [Rows.uptoBulk]
 | .lit .nil => by simp [Rows.uptoBulk]
 | .nil => by simp [Rows.uptoBulk]
 | .ptr d => by simp [Rows.uptoBulk]
 | .slice _ _ => by simp [Rows.uptoBulk]
 | .agg _ => by simp [Rows.uptoBulk]
 | .iface _ _ => by simp [Rows.uptoBulk]
 | .map _ => by simp [Rows.uptoBulk]
 | .held _ => by simp [Rows.uptoBulk]
theorem bulk_len {H : Type} : ∀ ds : List (DataW H), ds.length ≤ Rows.uptoBulkAll ds
 | [] => by simp
 | d :: ds => by
  have h1 := bulk_pos d
  have h2 := bulk_len ds
  simp only [Rows.uptoBulkAll, List.length_cons]
  omega
theorem bulk_slice {H : Type} (es sp : List (DataW H)) : es.length ≤ Rows.uptoBulk (.slice es sp) := by
 have := bulk_len es
 simp only [Rows.uptoBulk]
 omega
end Go.Proofs.YteieikgkmfglaaaGreatDoor
namespace Go.Proofs.YteieikgkmfglaaaGreatDoor
open Go.ChangeShapes Go.WideShapes Go.ChangeAt Go.RowKit
set_option linter.unusedVariables false
theorem in64_of_wf {n : Int} (h : (Lit.int .i64 n).wf = true) : Wd.In64 n := by
 unfold Wd.In64
 simp only [Lit.wf, Bool.and_eq_true, decide_eq_true_eq] at h
 have h1 : IntKind.i64.min = -9223372036854775808 := by decide
 have h2 : IntKind.i64.max = 9223372036854775807 := by decide
 omega
set_option maxRecDepth 100000 in
theorem open_row64 {H : Type} {enc : TypeId × Value → H} {W : World} {base : Nat} {held : Bool} {fuel : Nat} {v : Value} {y : DataW H × List MemPlace} (h : DataW.trod enc Tryz.prog W base (fun _ => true) held fuel 23 [v] = some y) :
  ∃ zs, Ro W v zs ∧ (∀ n ∈ zs, Wd.In64 n) ∧ zs.length ≤ Rows.uptoBulk y.1 := by
 rcases open_ints Tryz.underlying23 Tryz.underlying3 (by kernel_rfl) h with ⟨hcs, rfl⟩ | ⟨x, l, c, zs, hcs, _, hl, hm, hz, rfl, hcell, hwz⟩
 ·simp at hcs
  subst hcs
  exact ⟨_, IsRow.ro (.inl ⟨rfl, rfl, rfl, rfl⟩), by simp, by simp⟩
 ·simp at hcs
  subst hcs
  refine ⟨_, IsRow.ro (zs := zs) (.inr ⟨_, rfl, hl, hm, by simpa using hz, hcell, hwz⟩), fun n hn => in64_of_wf (hwz n (List.mem_of_mem_take hn)), ?_⟩
  have := bulk_slice (H := H) (lits .i64 (zs.take l)) (lits .i64 (zs.drop l))
  simpa [lits] using this
theorem un_flds : ∃ f0 f1 f2 f3 f4 f5 f6 f7 : Field, Tryz.prog.underlying 44 = some (.struct #[f0, f1, f2, f3, f4, f5, f6, f7]) ∧ f0.offset = 0 ∧ f0.type = 3 ∧ f1.offset = 1 ∧ f1.type = 3 ∧ f2.offset = 2 ∧ f2.type = 3 ∧ f3.offset = 3 ∧ f3.type = 3 ∧ f4.offset = 4 ∧ f4.type = 3 ∧ f5.offset = 5 ∧ f5.type = 3 ∧ f6.offset = 6 ∧ f6.type = 3 ∧ f7.offset = 7 ∧ f7.type = 3 := ⟨_, _, _, _, _, _, _, _, Tryz.underlying44, rfl, rfl, rfl, rfl, rfl, rfl, rfl, rfl, rfl, rfl, rfl, rfl, rfl, rfl, rfl, rfl⟩
set_option maxRecDepth 100000 in
theorem open_un64 {H : Type} {enc : TypeId × Value → H} {W : World} {base : Nat} {held : Bool} {fuel : Nat} {cs : List Value} {y : DataW H × List MemPlace} (h : DataW.trod enc Tryz.prog W base (fun _ => true) held fuel 44 cs = some y) :
  ∃ k : UnV, cs = [.int .i64 k.id, .int .i64 k.player, .int .i64 k.kind, .int .i64 k.at_, .int .i64 k.life, .int .i64 k.load, .int .i64 k.task, .int .i64 k.goal] ∧ ∀ n ∈ Wd.unums k, Wd.In64 n := by
 obtain ⟨f0, f1, f2, f3, f4, f5, f6, f7, he, o0, t0, o1, t1, o2, t2, o3, t3, o4, t4, o5, t5, o6, t6, o7, t7⟩ := un_flds
 obtain ⟨xs, m, -, -, hlen, hxl, hf⟩ := DataW.trod_struct he h
 have csi : Tryz.prog.cellsOf 3 = 1 := by kernel_rfl
 have csk : Tryz.prog.cellsOf 44 = 8 := by kernel_rfl
 rw [csk] at hlen
 match cs, hlen with
 | [v0, v1, v2, v3, v4, v5, v6, v7], _ =>
  have hx : xs.length = 8 := hxl
  match xs, hx with
  | [x0, x1, x2, x3, x4, x5, x6, x7], _ =>
   have g0 := hf 0 f0 rfl
   rw [o0, t0, csi] at g0
   have g1 := hf 1 f1 rfl
   rw [o1, t1, csi] at g1
   have g2 := hf 2 f2 rfl
   rw [o2, t2, csi] at g2
   have g3 := hf 3 f3 rfl
   rw [o3, t3, csi] at g3
   have g4 := hf 4 f4 rfl
   rw [o4, t4, csi] at g4
   have g5 := hf 5 f5 rfl
   rw [o5, t5, csi] at g5
   have g6 := hf 6 f6 rfl
   rw [o6, t6, csi] at g6
   have g7 := hf 7 f7 rfl
   rw [o7, t7, csi] at g7
   obtain ⟨m0, e0, -, w0⟩ := DataW.trod_int Tryz.underlying3 g0
   obtain ⟨m1, e1, -, w1⟩ := DataW.trod_int Tryz.underlying3 g1
   obtain ⟨m2, e2, -, w2⟩ := DataW.trod_int Tryz.underlying3 g2
   obtain ⟨m3, e3, -, w3⟩ := DataW.trod_int Tryz.underlying3 g3
   obtain ⟨m4, e4, -, w4⟩ := DataW.trod_int Tryz.underlying3 g4
   obtain ⟨m5, e5, -, w5⟩ := DataW.trod_int Tryz.underlying3 g5
   obtain ⟨m6, e6, -, w6⟩ := DataW.trod_int Tryz.underlying3 g6
   obtain ⟨m7, e7, -, w7⟩ := DataW.trod_int Tryz.underlying3 g7
   simp at e0 e1 e2 e3 e4 e5 e6 e7
   subst e0 e1 e2 e3 e4 e5 e6 e7
   refine ⟨⟨m0, m1, m2, m3, m4, m5, m6, m7⟩, rfl, ?_⟩
   intro n hn
   simp only [Wd.unums, List.mem_cons, List.not_mem_nil, or_false] at hn
   rcases hn with rfl | rfl | rfl | rfl | rfl | rfl | rfl | rfl
   ·exact in64_of_wf w0
   ·exact in64_of_wf w1
   ·exact in64_of_wf w2
   ·exact in64_of_wf w3
   ·exact in64_of_wf w4
   ·exact in64_of_wf w5
   ·exact in64_of_wf w6
   ·exact in64_of_wf w7
theorem open_uns64 {H : Type} {enc : TypeId × Value → H} {W : World} {base : Nat} {held : Bool} {fuel : Nat} {v : Value} {y : DataW H × List MemPlace} (h : DataW.trod enc Tryz.prog W base (fun _ => true) held fuel 26 [v] = some y) :
  ∃ ks : List UnV, Unl W v ks ∧ (∀ k ∈ ks, ∀ n ∈ Wd.unums k, Wd.In64 n) ∧ ks.length ≤ Rows.uptoBulk y.1 := by
 have csk : Tryz.prog.cellsOf 44 = 8 := by kernel_rfl
 rcases Go.Deep.open_slice Tryz.underlying26 h with ⟨hcs, -⟩ | ⟨a, len, cap, m, q, D, Pl, hcs, hb, hl, hm, hmm, rfl, hx⟩
 ·simp at hcs
  subst hcs
  exact ⟨[], ⟨none, 0, rfl, Nat.le_refl _, by omega, fun h => absurd rfl h⟩, by simp, by simp⟩
 ·simp at hcs
  subst hcs
  have hlm : len ≤ m := by rw [hmm]; simp; exact hl
  have each : ∀ i, i < len → ∃ k : UnV, Unc W (a.add (i * 8)) k ∧ (∀ n ∈ Wd.unums k, Wd.In64 n) := by
   intro i hi
   obtain ⟨cs', h1, h2⟩ := hx i (by omega)
   obtain ⟨k, rfl, hk⟩ := open_un64 h2
   rw [csk] at h1
   obtain ⟨-, -, hcell⟩ := World.cells?_some h1
   refine ⟨k, ?_, hk⟩
   generalize a.add (i * 8) = y at *
   exact ⟨hcell 0 (by decide), hcell 1 (by decide), hcell 2 (by decide), hcell 3 (by decide), hcell 4 (by decide), hcell 5 (by decide), hcell 6 (by decide), hcell 7 (by decide)⟩
  have inh : Inhabited UnV := ⟨⟨0, 0, 0, 0, 0, 0, 0, 0⟩⟩
  obtain ⟨q, hq⟩ := Go.Deep.choose_lt each
  refine ⟨(List.range len).map q, ⟨some a, cap, by simp, by simpa using hl, by unfold maxLen at hm; omega, fun hn => ⟨a, rfl, ?_, fun i k hk => ?_⟩⟩, ?_, ?_⟩
  ·have h0 : 0 < len := by
    rcases Nat.eq_zero_or_pos len with h | h
    ·subst h; simp at hn
    ·exact h
   have := (hq 0 h0).1.lt
   rwa [add_block] at this
  ·have hi : i < len := by
    have := (List.getElem?_eq_some_iff.1 hk).1
    simpa using this
   rw [List.getElem?_map, List.getElem?_range hi] at hk
   injection hk with hk
   subst hk
   exact (hq i hi).1
  ·intro k hk
   obtain ⟨i, hi, rfl⟩ := List.mem_map.1 hk
   exact (hq i (List.mem_range.1 hi)).2
  ·have := bulk_slice ((List.range len).map D) ((List.range (m - len)).map fun j => D (len + j))
   simpa using this
theorem jb_flds : ∃ f0 f1 f2 f3 : Field, Tryz.prog.underlying 71 = some (.struct #[f0, f1, f2, f3]) ∧ f0.offset = 0 ∧ f0.type = 3 ∧ f1.offset = 1 ∧ f1.type = 3 ∧ f2.offset = 2 ∧ f2.type = 3 ∧ f3.offset = 3 ∧ f3.type = 3 := ⟨_, _, _, _, Tryz.underlying71, rfl, rfl, rfl, rfl, rfl, rfl, rfl, rfl⟩
set_option maxRecDepth 100000 in
theorem open_jb64 {H : Type} {enc : TypeId × Value → H} {W : World} {base : Nat} {held : Bool} {fuel : Nat} {cs : List Value} {y : DataW H × List MemPlace} (h : DataW.trod enc Tryz.prog W base (fun _ => true) held fuel 71 cs = some y) :
  ∃ k : JbV, cs = [.int .i64 k.player, .int .i64 k.unit, .int .i64 k.kind, .int .i64 k.left] ∧ ∀ n ∈ Wd.jnums k, Wd.In64 n := by
 obtain ⟨f0, f1, f2, f3, he, o0, t0, o1, t1, o2, t2, o3, t3⟩ := jb_flds
 obtain ⟨xs, m, -, -, hlen, hxl, hf⟩ := DataW.trod_struct he h
 have csi : Tryz.prog.cellsOf 3 = 1 := by kernel_rfl
 have csk : Tryz.prog.cellsOf 71 = 4 := by kernel_rfl
 rw [csk] at hlen
 match cs, hlen with
 | [v0, v1, v2, v3], _ =>
  have hx : xs.length = 4 := hxl
  match xs, hx with
  | [x0, x1, x2, x3], _ =>
   have g0 := hf 0 f0 rfl
   rw [o0, t0, csi] at g0
   have g1 := hf 1 f1 rfl
   rw [o1, t1, csi] at g1
   have g2 := hf 2 f2 rfl
   rw [o2, t2, csi] at g2
   have g3 := hf 3 f3 rfl
   rw [o3, t3, csi] at g3
   obtain ⟨m0, e0, -, w0⟩ := DataW.trod_int Tryz.underlying3 g0
   obtain ⟨m1, e1, -, w1⟩ := DataW.trod_int Tryz.underlying3 g1
   obtain ⟨m2, e2, -, w2⟩ := DataW.trod_int Tryz.underlying3 g2
   obtain ⟨m3, e3, -, w3⟩ := DataW.trod_int Tryz.underlying3 g3
   simp at e0 e1 e2 e3
   subst e0 e1 e2 e3
   refine ⟨⟨m0, m1, m2, m3⟩, rfl, ?_⟩
   intro n hn
   simp only [Wd.jnums, List.mem_cons, List.not_mem_nil, or_false] at hn
   rcases hn with rfl | rfl | rfl | rfl
   ·exact in64_of_wf w0
   ·exact in64_of_wf w1
   ·exact in64_of_wf w2
   ·exact in64_of_wf w3
theorem open_jbs64 {H : Type} {enc : TypeId × Value → H} {W : World} {base : Nat} {held : Bool} {fuel : Nat} {v : Value} {y : DataW H × List MemPlace} (h : DataW.trod enc Tryz.prog W base (fun _ => true) held fuel 27 [v] = some y) :
  ∃ ks : List JbV, Jbl W v ks ∧ (∀ k ∈ ks, ∀ n ∈ Wd.jnums k, Wd.In64 n) ∧ ks.length ≤ Rows.uptoBulk y.1 := by
 have csk : Tryz.prog.cellsOf 71 = 4 := by kernel_rfl
 rcases Go.Deep.open_slice Tryz.underlying27 h with ⟨hcs, -⟩ | ⟨a, len, cap, m, q, D, Pl, hcs, hb, hl, hm, hmm, rfl, hx⟩
 ·simp at hcs
  subst hcs
  exact ⟨[], ⟨none, 0, rfl, Nat.le_refl _, by omega, fun h => absurd rfl h⟩, by simp, by simp⟩
 ·simp at hcs
  subst hcs
  have hlm : len ≤ m := by rw [hmm]; simp; exact hl
  have each : ∀ i, i < len → ∃ k : JbV, Jbc W (a.add (i * 4)) k ∧ (∀ n ∈ Wd.jnums k, Wd.In64 n) := by
   intro i hi
   obtain ⟨cs', h1, h2⟩ := hx i (by omega)
   obtain ⟨k, rfl, hk⟩ := open_jb64 h2
   rw [csk] at h1
   obtain ⟨-, -, hcell⟩ := World.cells?_some h1
   refine ⟨k, ?_, hk⟩
   generalize a.add (i * 4) = y at *
   exact ⟨hcell 0 (by decide), hcell 1 (by decide), hcell 2 (by decide), hcell 3 (by decide)⟩
  have inh : Inhabited JbV := ⟨⟨0, 0, 0, 0⟩⟩
  obtain ⟨q, hq⟩ := Go.Deep.choose_lt each
  refine ⟨(List.range len).map q, ⟨some a, cap, by simp, by simpa using hl, by unfold maxLen at hm; omega, fun hn => ⟨a, rfl, ?_, fun i k hk => ?_⟩⟩, ?_, ?_⟩
  ·have h0 : 0 < len := by
    rcases Nat.eq_zero_or_pos len with h | h
    ·subst h; simp at hn
    ·exact h
   have := (hq 0 h0).1.lt
   rwa [add_block] at this
  ·have hi : i < len := by
    have := (List.getElem?_eq_some_iff.1 hk).1
    simpa using this
   rw [List.getElem?_map, List.getElem?_range hi] at hk
   injection hk with hk
   subst hk
   exact (hq i hi).1
  ·intro k hk
   obtain ⟨i, hi, rfl⟩ := List.mem_map.1 hk
   exact (hq i (List.mem_range.1 hi)).2
  ·have := bulk_slice ((List.range len).map D) ((List.range (m - len)).map fun j => D (len + j))
   simpa using this
theorem world_flds : ∃ f0 f1 f2 f3 f4 f5 : Field, Tryz.prog.underlying 29 = some (.struct #[f0, f1, f2, f3, f4, f5]) ∧ f0.offset = 0 ∧ f0.type = 3 ∧ f1.offset = 1 ∧ f1.type = 3 ∧ f2.offset = 2 ∧ f2.type = 25 ∧ f3.offset = 6 ∧ f3.type = 23 ∧ f4.offset = 7 ∧ f4.type = 26 ∧ f5.offset = 8 ∧ f5.type = 27 := ⟨_, _, _, _, _, _, Tryz.underlying29, rfl, rfl, rfl, rfl, rfl, rfl, rfl, rfl, rfl, rfl, rfl, rfl⟩
theorem field_flds : ∃ f0 f1 f2 f3 : Field, Tryz.prog.underlying 25 = some (.struct #[f0, f1, f2, f3]) ∧ f0.offset = 0 ∧ f0.type = 3 ∧ f1.offset = 1 ∧ f1.type = 3 ∧ f2.offset = 2 ∧ f2.type = 23 ∧ f3.offset = 3 ∧ f3.type = 23 := ⟨_, _, _, _, Tryz.underlying25, rfl, rfl, rfl, rfl, rfl, rfl, rfl, rfl⟩
theorem ro_len {w : World} {v : Value} {xs : List Int} (h : Ro w v xs) : Wd.In64 (xs.length : Int) := by
 obtain ⟨a, c, -, h1, h2, -⟩ := h
 unfold Wd.In64; omega
set_option maxRecDepth 100000 in
theorem open_world64 {H : Type} {enc : TypeId × Value → H} {W : World} {base : Nat} {held : Bool} {fuel : Nat} {cs : List Value} {y : DataW H × List MemPlace} (h : DataW.trod enc Tryz.prog W base (fun _ => true) held fuel 29 cs = some y) :
  ∃ X : WV, Wl W (.agg cs.toArray) X ∧ (∀ n ∈ Wd.nums X, Wd.In64 n) ∧ (Rows.uptoBulk y.1 ≤ 1048576 → WSmall X) := by
 obtain ⟨f0, f1, f2, f3, f4, f5, he, o0, t0, o1, t1, o2, t2, o3, t3, o4, t4, o5, t5⟩ := world_flds
 obtain ⟨xs, m, -, rfl, hlen, hxl, hf⟩ := DataW.trod_struct he h
 have csi : Tryz.prog.cellsOf 3 = 1 := by kernel_rfl
 have csf : Tryz.prog.cellsOf 25 = 4 := by kernel_rfl
 have csl : Tryz.prog.cellsOf 23 = 1 := by kernel_rfl
 have csu : Tryz.prog.cellsOf 26 = 1 := by kernel_rfl
 have csj : Tryz.prog.cellsOf 27 = 1 := by kernel_rfl
 have csk : Tryz.prog.cellsOf 29 = 9 := by kernel_rfl
 rw [csk] at hlen
 match cs, hlen with
 | [v0, v1, v2, v3, v4, v5, v6, v7, v8], _ =>
  have hx : xs.length = 6 := hxl
  match xs, hx with
  | [x0, x1, x2, x3, x4, x5], _ =>
   have g0 := hf 0 f0 rfl
   rw [o0, t0, csi] at g0
   have g1 := hf 1 f1 rfl
   rw [o1, t1, csi] at g1
   have g2 := hf 2 f2 rfl
   rw [o2, t2, csf] at g2
   have g3 := hf 3 f3 rfl
   rw [o3, t3, csl] at g3
   have g4 := hf 4 f4 rfl
   rw [o4, t4, csu] at g4
   have g5 := hf 5 f5 rfl
   rw [o5, t5, csj] at g5
   obtain ⟨m0, e0, -, w0⟩ := DataW.trod_int Tryz.underlying3 g0
   obtain ⟨m1, e1, -, w1⟩ := DataW.trod_int Tryz.underlying3 g1
   obtain ⟨r0, r1, r2, r3, he', p0, s0, p1, s1, p2, s2, p3, s3⟩ := field_flds
   obtain ⟨ys, m', -, rfl, hlen', hyl, hg⟩ := DataW.trod_struct he' g2
   have hy : ys.length = 4 := hyl
   match ys, hy with
   | [y0, y1, y2, y3], _ =>
    have k0 := hg 0 r0 rfl
    rw [p0, s0, csi] at k0
    have k1 := hg 1 r1 rfl
    rw [p1, s1, csi] at k1
    have k2 := hg 2 r2 rfl
    rw [p2, s2, csl] at k2
    have k3 := hg 3 r3 rfl
    rw [p3, s3, csl] at k3
    obtain ⟨m2, e2, -, w2⟩ := DataW.trod_int Tryz.underlying3 k0
    obtain ⟨m3, e3, -, w3⟩ := DataW.trod_int Tryz.underlying3 k1
    simp at e0 e1 e2 e3
    subst e0 e1 e2 e3
    obtain ⟨gs, hgs, igs, bgs⟩ := open_row64 k2
    obtain ⟨os, hos, ios, bos⟩ := open_row64 k3
    obtain ⟨gold, hgold, igold, bgold⟩ := open_row64 g3
    obtain ⟨us, hus, ius, bus⟩ := open_uns64 g4
    obtain ⟨qs, hqs, iqs, bqs⟩ := open_jbs64 g5
    have lu : Wd.In64 (us.length : Int) := by
     obtain ⟨a, c, -, h1, h2, -⟩ := hus
     unfold Wd.In64; omega
    have lq : Wd.In64 (qs.length : Int) := by
     obtain ⟨a, c, -, h1, h2, -⟩ := hqs
     unfold Wd.In64; omega
    refine ⟨⟨m0, m1, m2, m3, gs, os, gold, us, qs⟩, ⟨_, _, _, _, _, rfl, hgs, hos, hgold, hus, hqs⟩, ?_, ?_⟩
    ·intro n hn
     simp only [Wd.nums, List.mem_append, List.mem_cons, List.not_mem_nil, or_false, List.mem_flatMap] at hn
     rcases hn with (((((rfl | rfl | rfl | rfl) | (rfl | hn)) | (rfl | hn)) | (rfl | hn)) | (rfl | ⟨u, hu, hn⟩)) | (rfl | ⟨u, hu, hn⟩)
     ·exact in64_of_wf w0
     ·exact in64_of_wf w1
     ·exact in64_of_wf w2
     ·exact in64_of_wf w3
     ·exact ro_len hgs
     ·exact igs _ hn
     ·exact ro_len hos
     ·exact ios _ hn
     ·exact ro_len hgold
     ·exact igold _ hn
     ·exact lu
     ·exact ius u hu n hn
     ·exact lq
     ·exact iqs u hu n hn
    ·intro hb
     simp only [Rows.uptoBulk, Rows.uptoBulkAll, List.map_cons, List.map_nil] at hb
     exact ⟨by simp only; omega, by simp only; omega, by simp only; omega, by simp only; omega, by simp only; omega⟩
set_option maxRecDepth 100000 in
theorem world_in {H : Type} {enc : TypeId × Value → H} {W : World} {base b0 : Nat} {held : Bool} {v : Value} {d : DataW H} {p : List MemPlace} (hv : Value.okWide Tryz.prog W .any b0 29 v) (h : DataW.Trod enc Tryz.prog W base (fun _ => true) held 29 v d p) :
  ∃ X : WV, Wl W v X ∧ (∀ n ∈ Wd.nums X, Wd.In64 n) ∧ (Rows.uptoBulk d ≤ 1048576 → WSmall X) := by
 obtain ⟨cs, rfl, hsz⟩ := okWide_struct Tryz.underlying29 hv
 obtain ⟨fuel, hf⟩ := h
 have := open_world64 hf
 simpa [Value.cells] using this
end Go.Proofs.YteieikgkmfglaaaGreatDoor
namespace Go.Proofs.YteieikgkmfglaaaGreatDoor
open Go.ChangeShapes Go.WideShapes Go.ChangeAt Go.RowKit
set_option linter.unusedVariables false
theorem kind_fields : ∃ f0 f1 f2 f3 f4 f5 f6 f7 f8 f9 f10 : Field, Tryz.prog.underlying 68 = some (.struct #[f0, f1, f2, f3, f4, f5, f6, f7, f8, f9, f10]) ∧
  f0.offset = 0 ∧ f0.type = 9 ∧ f1.offset = 1 ∧ f1.type = 3 ∧ f2.offset = 2 ∧ f2.type = 3 ∧ f3.offset = 3 ∧ f3.type = 3 ∧ f4.offset = 4 ∧ f4.type = 3 ∧ f5.offset = 5 ∧ f5.type = 3 ∧ f6.offset = 6 ∧ f6.type = 3 ∧ f7.offset = 7 ∧ f7.type = 3 ∧ f8.offset = 8 ∧ f8.type = 3 ∧ f9.offset = 9 ∧ f9.type = 4 ∧ f10.offset = 10 ∧ f10.type = 4 := ⟨_, _, _, _, _, _, _, _, _, _, _, Tryz.underlying68, rfl, rfl, rfl, rfl, rfl, rfl, rfl, rfl, rfl, rfl, rfl, rfl, rfl, rfl, rfl, rfl, rfl, rfl, rfl, rfl, rfl, rfl⟩
set_option maxRecDepth 100000 in
theorem open_kind {H : Type} {enc : TypeId × Value → H} {W : World} {base : Nat} {held : Bool} {fuel : Nat} {cs : List Value} {y : DataW H × List MemPlace} (h : DataW.trod enc Tryz.prog W base (fun _ => true) held fuel 68 cs = some y) :
  ∃ k : KV, cs = [.string k.b, .int .i64 k.n0, .int .i64 k.n1, .int .i64 k.n2, .int .i64 k.n3, .int .i64 k.n4, .int .i64 k.n5, .int .i64 k.n6, .int .i64 k.n7, .bool k.f, .bool k.t] ∧ k.b.size ≤ maxLen := by
 obtain ⟨f0, f1, f2, f3, f4, f5, f6, f7, f8, f9, f10, he, o0, t0, o1, t1, o2, t2, o3, t3, o4, t4, o5, t5, o6, t6, o7, t7, o8, t8, o9, t9, o10, t10⟩ := kind_fields
 obtain ⟨xs, n, -, -, hlen, hxl, hf⟩ := DataW.trod_struct he h
 have cs9 : Tryz.prog.cellsOf 9 = 1 := by kernel_rfl
 have cs3 : Tryz.prog.cellsOf 3 = 1 := by kernel_rfl
 have cs4 : Tryz.prog.cellsOf 4 = 1 := by kernel_rfl
 have csk : Tryz.prog.cellsOf 68 = 11 := by kernel_rfl
 rw [csk] at hlen
 match cs, hlen with
 | [v0, v1, v2, v3, v4, v5, v6, v7, v8, v9, v10], _ =>
  have hx11 : xs.length = 11 := hxl
  match xs, hx11 with
  | [x0, x1, x2, x3, x4, x5, x6, x7, x8, x9, x10], _ =>
   have g0 := hf 0 f0 rfl
   rw [o0, t0, cs9] at g0
   have g1 := hf 1 f1 rfl
   rw [o1, t1, cs3] at g1
   have g2 := hf 2 f2 rfl
   rw [o2, t2, cs3] at g2
   have g3 := hf 3 f3 rfl
   rw [o3, t3, cs3] at g3
   have g4 := hf 4 f4 rfl
   rw [o4, t4, cs3] at g4
   have g5 := hf 5 f5 rfl
   rw [o5, t5, cs3] at g5
   have g6 := hf 6 f6 rfl
   rw [o6, t6, cs3] at g6
   have g7 := hf 7 f7 rfl
   rw [o7, t7, cs3] at g7
   have g8 := hf 8 f8 rfl
   rw [o8, t8, cs3] at g8
   have g9 := hf 9 f9 rfl
   rw [o9, t9, cs4] at g9
   have g10 := hf 10 f10 rfl
   rw [o10, t10, cs4] at g10
   obtain ⟨b, e0, -, hb⟩ := DataW.trod_string Tryz.underlying9 g0
   obtain ⟨m1, e1, -, -⟩ := DataW.trod_int Tryz.underlying3 g1
   obtain ⟨m2, e2, -, -⟩ := DataW.trod_int Tryz.underlying3 g2
   obtain ⟨m3, e3, -, -⟩ := DataW.trod_int Tryz.underlying3 g3
   obtain ⟨m4, e4, -, -⟩ := DataW.trod_int Tryz.underlying3 g4
   obtain ⟨m5, e5, -, -⟩ := DataW.trod_int Tryz.underlying3 g5
   obtain ⟨m6, e6, -, -⟩ := DataW.trod_int Tryz.underlying3 g6
   obtain ⟨m7, e7, -, -⟩ := DataW.trod_int Tryz.underlying3 g7
   obtain ⟨m8, e8, -, -⟩ := DataW.trod_int Tryz.underlying3 g8
   obtain ⟨bf, e9, -⟩ := DataW.trod_bool Tryz.underlying4 g9
   obtain ⟨bt, e10, -⟩ := DataW.trod_bool Tryz.underlying4 g10
   simp at e0 e1 e2 e3 e4 e5 e6 e7 e8 e9 e10
   subst e0 e1 e2 e3 e4 e5 e6 e7 e8 e9 e10
   exact ⟨⟨b, m1, m2, m3, m4, m5, m6, m7, m8, bf, bt⟩, rfl, hb⟩
/-- kinds that came in. -/
theorem open_kinds {H : Type} {enc : TypeId × Value → H} {W : World} {base : Nat} {held : Bool} {fuel : Nat} {v : Value} {y : DataW H × List MemPlace} (h : DataW.trod enc Tryz.prog W base (fun _ => true) held fuel 22 [v] = some y) :
  ∃ ks : List KV, Kl W v ks ∧ ∀ k ∈ ks, k.b.size ≤ maxLen := by
 have csk : Tryz.prog.cellsOf 68 = 11 := by kernel_rfl
 rcases Go.Deep.open_slice Tryz.underlying22 h with ⟨hcs, -⟩ | ⟨a, len, cap, m, n, D, Pl, hcs, hb, hl, hm, hmm, -, hx⟩
 ·simp at hcs
  subst hcs
  exact ⟨[], ⟨none, 0, rfl, Nat.le_refl _, by omega, fun h => absurd rfl h⟩, by simp⟩
 ·simp at hcs
  subst hcs
  have hlm : len ≤ m := by rw [hmm]; simp; exact hl
  have each : ∀ i, i < len → ∃ k : KV, Kc W (a.add (i * 11)) k ∧ k.b.size ≤ maxLen := by
   intro i hi
   obtain ⟨cs', h1, h2⟩ := hx i (by omega)
   obtain ⟨k, rfl, hk⟩ := open_kind h2
   rw [csk] at h1
   obtain ⟨-, -, hcell⟩ := World.cells?_some h1
   refine ⟨k, ?_, hk⟩
   generalize a.add (i * 11) = y at *
   exact ⟨hcell 0 (by decide), hcell 1 (by decide), hcell 2 (by decide), hcell 3 (by decide), hcell 4 (by decide), hcell 5 (by decide), hcell 6 (by decide), hcell 7 (by decide), hcell 8 (by decide), hcell 9 (by decide), hcell 10 (by decide)⟩
  have inh : Inhabited KV := ⟨⟨ByteArray.empty, 0, 0, 0, 0, 0, 0, 0, 0, false, false⟩⟩
  obtain ⟨q, hq⟩ := Go.Deep.choose_lt each
  refine ⟨(List.range len).map q, ⟨some a, cap, by simp, by simpa using hl, by unfold maxLen at hm; omega, fun hn => ⟨a, rfl, ?_, fun i k hk => ?_⟩⟩, ?_⟩
  ·have h0 : 0 < len := by
    rcases Nat.eq_zero_or_pos len with h | h
    ·subst h; simp at hn
    ·exact h
   have := (hq 0 h0).1.lt
   rwa [add_block] at this
  ·have hi : i < len := by
    have := (List.getElem?_eq_some_iff.1 hk).1
    simpa using this
   rw [List.getElem?_map, List.getElem?_range hi] at hk
   injection hk with hk
   subst hk
   exact (hq i hi).1
  ·intro k hk
   obtain ⟨i, hi, rfl⟩ := List.mem_map.1 hk
   exact (hq i (List.mem_range.1 hi)).2
set_option maxRecDepth 100000 in
theorem kinds_in {H : Type} {enc : TypeId × Value → H} {W : World} {base b0 : Nat} {held : Bool} {v : Value} {d : DataW H} {p : List MemPlace} (hv : Value.okWide Tryz.prog W .any b0 22 v) (h : DataW.Trod enc Tryz.prog W base (fun _ => true) held 22 v d p) :
  ∃ ks : List KV, Kl W v ks ∧ ∀ k ∈ ks, k.b.size ≤ maxLen := by
 obtain ⟨a, len, cap, rfl⟩ := okWide_slice Tryz.underlying22 hv
 obtain ⟨fuel, hf⟩ := h
 exact open_kinds hf
end Go.Proofs.YteieikgkmfglaaaGreatDoor
