/- Are two lists of orders the same? · What plain.Told and marchsame.Error answer of nil, and of an Errno: errors.As is walked at the target *api.Errno. · An error that is told is the reference's. · What a walk is told of records api.Order that came in. · What a walk is told of records api.Order that came in, and of how many there are. · orders.names, as it is laid. -/
import Derived.Test.YtelbdcljdfadbaaDoorZOrdersCount1
import Derived.Laws.Closers25
import Derived.IntWalk
import Derived.BigRegion
import Derived.Test.YtelbdcljdfadbaaDoorRows
import Derived.WalkKit
import Derived.WalkSpells
import Derived.WalkLawsBesides
import Derived.LaidEql
import Derived.Stop.Asserts
import Derived.RowKitTokens
import Derived.Test.YtelbdcljdfadbaaDoorZOrdersCount3
import Derived.Deep.SlicePairs
import Derived.ChangeArms
import Derived.ProofKit
import Derived.OpenShut
import Derived.LaidLaws
import Derived.LaidHandle
import Derived.ChangeMaps5
namespace Go.Proofs.YtelbdcljdfadbaaDoor
open Go.RowKit
set_option linter.unusedVariables false

set_option maxRecDepth 100000 in
set_option maxHeartbeats 4000000 in
theorem orders_like (u v : Value) (ks : List OrV) (w : World) (hu : Orl w u ks) (hv : Orl w v ks) :
    Calls Tryd.prog 25 #[u, v] w fun e w' => e = .returned (.bool true) ∧ Below w.heap.size w w' := by
  obtain ⟨a, c, rfl, hc1, hc2, ha⟩ := hu
  obtain ⟨b, d, rfl, hd1, hd2, hb⟩ := hv
  have Ha : Hid (ks ≠ [] → ∃ x, a = some x ∧ x.block < w.heap.size ∧ ∀ (i : Nat) k, ks[i]? = some k → Orc w (x.add (i * 4)) k) := ha
  have Hb : Hid (ks ≠ [] → ∃ x, b = some x ∧ x.block < w.heap.size ∧ ∀ (i : Nat) k, ks[i]? = some k → Orc w (x.add (i * 4)) k) := hb
  clear ha hb
  go_enter Tryd.func25, Tryd.ntmps25
  go_wp2
  go_loopw [5] (fun i W' => ∃ k : Nat, k ≤ ks.length ∧ i = .int .i64 (k : Nat) ∧ ∃ n, W' = w.drewN n) (fun i _ => ks.length - (intOf i).toNat)
  case atStart => exact ⟨0, Nat.zero_le _, rfl, 0, rfl⟩
  case round =>
    obtain ⟨k, hk, rfl, n, rfl⟩ := hrel
    by_cases h0 : k = ks.length
    · subst h0
      have B : Hid (Below w.heap.size w (w.drewN n)) := ⟨rfl, rfl, rfl, Nat.le_refl _, fun _ _ => rfl⟩
      go_wp2
      go_ret
      exact ⟨rfl, B⟩
    · have hlt : k < ks.length := by omega
      have hlti : ((k : Nat) : Int) < (ks.length : Nat) := by omega
      obtain ⟨o, ho⟩ : ∃ o, ks[k]? = some o := ⟨_, List.getElem?_eq_getElem hlt⟩
      have hne : ks ≠ [] := by rintro rfl; simp at hlt
      obtain ⟨x, rfl, hx, hxc⟩ := Ha.out hne
      obtain ⟨y, rfl, hy, hyc⟩ := Hb.out hne
      have cx := hxc k o ho
      have cy := hyc k o ho
      obtain ⟨q0, q1, q2, q3⟩ := cx
      obtain ⟨r0, r1, r2, r3⟩ := cy
      clear hxc hyc hne ho
      go_wp2
      go_quiet (fail)
      go_wp2
      go_round
      case rel => exact ⟨k + 1, by omega, by go_num, n + nq, rfl⟩
      case measure => simp [intOf]; omega
end Go.Proofs.YtelbdcljdfadbaaDoor

namespace Go.Proofs.YtelbdcljdfadbaaDoor
open Go.RowKit Go.Extern.Stop Go.Stop Go.Extern

/-- the cell of errors.errorType. -/
def Et (w : World) : Prop := w.cell? ⟨1, 0, none⟩ = some (.iface 208 (.agg #[.pointer (some ⟨11, 36, none⟩)]))

theorem Et.lt {w : World} (h : Et w) : 1 < w.heap.size := by
  rcases Nat.lt_or_ge 1 w.heap.size with h1 | h1
  · exact h1
  · unfold Et at h
    simp [World.cell?, Array.getElem?_eq_none h1] at h
theorem Et.below {w w' : World} (h : Et w) (hb : Below w.heap.size w w') : Et w' := by
  unfold Et
  rw [hb.cell (p := ⟨1, 0, none⟩) h.lt]
  exact h
theorem Et.alloc {w : World} (h : Et w) (o : Obj) : Et (w.alloc o) := h.below ((Below.refl _ _).alloc (Nat.le_refl _) _)
theorem Et.drew {w : World} (h : Et w) : Et w.drew := h.below (Below.refl _ _).drew

theorem tk_valueOfP (t : Addr) (w : World) : (ReflectliteValue.unpack (.iface 139 (.pointer (some t)))).run Tryd.prog w
    = .ok (.agg #[.pointer (some ⟨11, 139, none⟩), .pointer (some ⟨w.heap.size, 0, none⟩), .int .u64 150]) (w.alloc (.cells #[.pointer (some t)] 139)) := by kernel_rfl
theorem tk_typeP (a : Addr) (w : World) : (ReflectliteValue.methodAny (ReflectliteValue.valueError "reflectlite.Value.Type" 0) (fun t _ _ _ => ReflectliteType.toType t) #[.agg #[.pointer (some ⟨11, 139, none⟩), .pointer (some a), .int .u64 150]]).run Tryd.prog w
    = .ok (.iface 208 (.agg #[.pointer (some ⟨11, 139, none⟩)])) w := by kernel_rfl
theorem tk_methodKind (h : Value) (w : World) : (Go.method 421 208 (.agg #[h]) "Kind").run Tryd.prog w = .ok (223, h) w := by kernel_rfl
theorem tk_kindP (w : World) : ((ReflectliteType.abiMethod fun t => (fun a : Nat => Value.int IntKind.u8 (a : Int)) <$> Rtype.kind t) #[.pointer (some ⟨11, 139, none⟩)]).run Tryd.prog w = .ok (.int .u8 22) w := by kernel_rfl
theorem tk_kindE (w : World) : ((ReflectliteType.abiMethod fun t => (fun a : Nat => Value.int IntKind.u8 (a : Int)) <$> Rtype.kind t) #[.pointer (some ⟨11, 86, none⟩)]).run Tryd.prog w = .ok (.int .u8 2) w := by kernel_rfl
theorem tk_open (z : Sem Value) (f : TypeId → Addr → Nat → Nat → Sem Value) (v : Value) :
    ReflectliteValue.method z f #[v] = (ReflectliteValue.parts v >>= fun o => o.elim z fun q => f q.1 q.2.1 q.2.2 (q.2.2 % 32)) := by
  refine (show ReflectliteValue.method z f #[v] = (ReflectliteValue.parts v >>= _) from rfl).trans ?_
  refine congrArg (ReflectliteValue.parts v >>= ·) (funext fun o => ?_)
  cases o <;> rfl
theorem tk_partsP (a : Addr) (w : World) : (ReflectliteValue.parts (.agg #[.pointer (some ⟨11, 139, none⟩), .pointer (some a), .int .u64 150])).run Tryd.prog w = .ok (some (139, a, 150)) w := by kernel_rfl
theorem tk_isNilP (a p : Addr) (W : World) (ha : W.cell? a = some (.pointer (some p))) :
    (ReflectliteValue.method (ReflectliteValue.valueError "reflectlite.Value.IsNil" 0) ReflectliteValue.isNil #[.agg #[.pointer (some ⟨11, 139, none⟩), .pointer (some a), .int .u64 150]]).run Tryd.prog W = .ok (.bool false) W := by
  rw [tk_open]
  simp only [Sem.run_bind, tk_partsP, Result.andThen]
  simp [ReflectliteValue.isNil, loadVar, isAgg, underlying, Tryd.underlying139, ha, Result.andThen]
theorem tk_methodElem (h : Value) (w : World) : (Go.method 421 208 (.agg #[h]) "Elem").run Tryd.prog w = .ok (235, .agg #[h]) w := by kernel_rfl
theorem tk_methodImplements (h : Value) (w : World) : (Go.method 421 208 (.agg #[h]) "Implements").run Tryd.prog w = .ok (236, .agg #[h]) w := by kernel_rfl
theorem tk_methodAssignableTo (h : Value) (w : World) : (Go.method 421 208 (.agg #[h]) "AssignableTo").run Tryd.prog w = .ok (233, .agg #[h]) w := by kernel_rfl
theorem tk_elemP (w : World) : (ReflectliteType.method ReflectliteType.elem #[.agg #[.pointer (some ⟨11, 139, none⟩)]]).run Tryd.prog w = .ok (.iface 208 (.agg #[.pointer (some ⟨11, 86, none⟩)])) w := by kernel_rfl
theorem tk_implementsE (w : World) : (ReflectliteType.relation "Implements" ReflectliteType.implements_ #[.agg #[.pointer (some ⟨11, 86, none⟩)], .iface 208 (.agg #[.pointer (some ⟨11, 36, none⟩)])]).run Tryd.prog w = .ok (.bool true) w := by kernel_rfl
theorem tk_typeOfE (v : Value) (w : World) : (ReflectliteType.typeOf #[.iface 86 v]).run Tryd.prog w = .ok (.iface 208 (.agg #[.pointer (some ⟨11, 86, none⟩)])) w := by kernel_rfl
theorem tk_assignableE (w : World) : (ReflectliteType.relation "AssignableTo" ReflectliteType.assignableTo #[.agg #[.pointer (some ⟨11, 86, none⟩)], .iface 208 (.agg #[.pointer (some ⟨11, 86, none⟩)])]).run Tryd.prog w = .ok (.bool true) w := by kernel_rfl
theorem tk_valueOfE (n : Int) (w : World) : (ReflectliteValue.unpack (.iface 86 (.int .i64 n))).run Tryd.prog w
    = .ok (.agg #[.pointer (some ⟨11, 86, none⟩), .pointer (some ⟨w.heap.size, 0, none⟩), .int .u64 130]) (w.alloc (.cells #[.int .i64 n] 86)) := by kernel_rfl
theorem tk_elemOfP (w : World) : (Rtype.elem? 139).run Tryd.prog w = .ok (some 86) w := by kernel_rfl
theorem tk_mkE (p : Addr) (w : World) : (ReflectliteValue.mk 86 p ReflectliteValue.flagAddr).run Tryd.prog w = .ok (.agg #[.pointer (some ⟨11, 86, none⟩), .pointer (some p), .int .u64 386]) w := by kernel_rfl
theorem tk_elemV (a p : Addr) (W : World) (ha : W.cell? a = some (.pointer (some p))) :
    (ReflectliteValue.method (ReflectliteValue.valueError "reflectlite.Value.Elem" 0) ReflectliteValue.elem #[.agg #[.pointer (some ⟨11, 139, none⟩), .pointer (some a), .int .u64 150]]).run Tryd.prog W
      = .ok (.agg #[.pointer (some ⟨11, 86, none⟩), .pointer (some p), .int .u64 386]) W := by
  rw [tk_open]
  simp only [Sem.run_bind, tk_partsP, Result.andThen]
  simp [ReflectliteValue.elem, loadVar, isAgg, underlying, Tryd.underlying139, ha, Result.andThen, tk_elemOfP, tk_mkE]
theorem tk_partsEa (a : Addr) (w : World) : (ReflectliteValue.parts (.agg #[.pointer (some ⟨11, 86, none⟩), .pointer (some a), .int .u64 386])).run Tryd.prog w = .ok (some (86, a, 386)) w := by kernel_rfl
theorem tk_partsE (a : Addr) (w : World) : (ReflectliteValue.parts (.agg #[.pointer (some ⟨11, 86, none⟩), .pointer (some a), .int .u64 130])).run Tryd.prog w = .ok (some (86, a, 130)) w := by kernel_rfl
theorem tk_directE (w : World) : (Rtype.directlyAssignable 86 86).run Tryd.prog w = .ok true w := by kernel_rfl
theorem tk_setE (ta b : Addr) (n : Int) (old : Value) (W : World) (hb : W.cell? b = some (.int .i64 n)) (ht : W.cell? ta = some old) (hf : W.frozen? ta = false) :
    (ReflectliteValue.set #[.agg #[.pointer (some ⟨11, 86, none⟩), .pointer (some ta), .int .u64 386], .agg #[.pointer (some ⟨11, 86, none⟩), .pointer (some b), .int .u64 130]]).run Tryd.prog W
      = .ok (.tuple #[]) (W.setCell ta (.int .i64 n)) := by
  rw [show ∀ X Y : Value, ReflectliteValue.set #[X, Y] = (ReflectliteValue.parts X >>= fun p => ReflectliteValue.parts Y >>= fun q => _) from fun _ _ => rfl]
  simp only [Sem.run_bind, tk_partsEa, tk_partsE, Result.andThen]
  simp [ReflectliteValue.flagAddr, loadVar, isAgg, underlying, Tryd.underlying86, hb, Result.andThen, tk_directE, storeVar, Value.cells, storeCells, Addr.add]
  rw [run_store Tryd.prog W ta _ _ (by rfl)]
  simp [ht, hf]

set_option maxHeartbeats 4000000 in
theorem as_hit (n : Int) (t : Addr) (old : Value) (w : World) (hg : w.cell? ⟨1, 0, none⟩ = some (.iface 208 (.agg #[.pointer (some ⟨11, 36, none⟩)]))) (ht0 : w.cell? t = some old) (hf0 : w.frozen? t = false) :
    Calls Tryd.prog 76 #[.iface 86 (.int .i64 n), .iface 139 (.pointer (some t))] w fun ev w' => ev = .returned (.bool true) ∧ w' = ((((w.alloc (.cells #[.pointer (some t)] 139)).alloc (.cells #[.pointer (some ⟨11, 139, none⟩), .pointer (some ⟨w.heap.size, 0, none⟩), .int .u64 150] 178)).alloc (.cells #[.pointer (some ⟨11, 139, none⟩), .pointer (some ⟨w.heap.size, 0, none⟩), .int .u64 150] 178)).alloc (.cells #[.int .i64 n] 86)).setCell t (.int .i64 n) := by
  have h6 := @run_callFunc_extern Tryd.prog 110 _ (fun args => ReflectliteValue.unpack (args.getD 0 (.tuple #[]))) Tryd.func110 (by kernel_rfl) (by kernel_rfl) (by kernel_rfl) (by kernel_rfl)
  have h7 := @run_callFunc_extern Tryd.prog 111 _ (ReflectliteValue.methodAny (ReflectliteValue.valueError "reflectlite.Value.Type" 0) (fun t _ _ _ => ReflectliteType.toType t)) Tryd.func111 (by kernel_rfl) (by kernel_rfl) (by kernel_rfl) (by kernel_rfl)
  have h8 := @run_callFunc_extern Tryd.prog 112 _ (ReflectliteValue.method (ReflectliteValue.valueError "reflectlite.Value.IsNil" 0) ReflectliteValue.isNil) Tryd.func112 (by kernel_rfl) (by kernel_rfl) (by kernel_rfl) (by kernel_rfl)
  have h27 := @run_callFunc_extern Tryd.prog 223 _ (ReflectliteType.abiMethod fun t => do pure (.int .u8 (← Rtype.kind t))) Tryd.func223 (by kernel_rfl) (by kernel_rfl) (by kernel_rfl) (by kernel_rfl)
  have h37 := @run_callFunc_extern Tryd.prog 235 _ (ReflectliteType.method ReflectliteType.elem) Tryd.func235 (by kernel_rfl) (by kernel_rfl) (by kernel_rfl) (by kernel_rfl)
  have h38 := @run_callFunc_extern Tryd.prog 236 _ (ReflectliteType.relation "Implements" ReflectliteType.implements_) Tryd.func236 (by kernel_rfl) (by kernel_rfl) (by kernel_rfl) (by kernel_rfl)
  have h10 := @run_callFunc_extern Tryd.prog 138 _ ReflectliteType.typeOf Tryd.func138 (by kernel_rfl) (by kernel_rfl) (by kernel_rfl) (by kernel_rfl)
  have h35 := @run_callFunc_extern Tryd.prog 233 _ (ReflectliteType.relation "AssignableTo" ReflectliteType.assignableTo) Tryd.func233 (by kernel_rfl) (by kernel_rfl) (by kernel_rfl) (by kernel_rfl)
  have h11 := @run_callFunc_extern Tryd.prog 139 _ (ReflectliteValue.method (ReflectliteValue.valueError "reflectlite.Value.Elem" 0) ReflectliteValue.elem) Tryd.func139 (by kernel_rfl) (by kernel_rfl) (by kernel_rfl) (by kernel_rfl)
  have h12 := @run_callFunc_extern Tryd.prog 140 _ ReflectliteValue.set Tryd.func140 (by kernel_rfl) (by kernel_rfl) (by kernel_rfl) (by kernel_rfl)
  have tO := tk_typeOfE
  have mA := tk_methodAssignableTo
  have a25 := tk_assignableE
  have v25 := tk_valueOfE
  have f6 := tk_valueOfP
  have f7 := tk_typeP
  have mK := tk_methodKind
  have mE := tk_methodElem
  have mI := tk_methodImplements
  have k27 := tk_kindP
  have k25 := tk_kindE
  have e27 := tk_elemP
  have i25 := tk_implementsE
  have n8 := tk_isNilP ⟨w.heap.size, 0, none⟩ t ((w.alloc (.cells #[.pointer (some t)] 139)).alloc (.cells #[.pointer (some ⟨11, 139, none⟩), .pointer (some ⟨w.heap.size, 0, none⟩), .int .u64 150] 178)) (by simp)
  have hlt : 1 < w.heap.size := Et.lt hg
  have hg2 : ((w.alloc (.cells #[.pointer (some t)] 139)).alloc (.cells #[.pointer (some ⟨11, 139, none⟩), .pointer (some ⟨w.heap.size, 0, none⟩), .int .u64 150] 178)).cell? ⟨1, 0, none⟩ = some (.iface 208 (.agg #[.pointer (some ⟨11, 36, none⟩)])) := by
    rw [World.cell?_alloc_lt _ _ ⟨1, 0, none⟩ (by simp; try omega), World.cell?_alloc_lt _ _ ⟨1, 0, none⟩ hlt]; exact hg
  have htl : t.block < w.heap.size := by
    rcases Nat.lt_or_ge t.block w.heap.size with h | h
    · exact h
    · simp [World.cell?, Array.getElem?_eq_none h] at ht0
  have el := tk_elemV ⟨w.heap.size, 0, none⟩ t (((w.alloc (.cells #[.pointer (some t)] 139)).alloc (.cells #[.pointer (some ⟨11, 139, none⟩), .pointer (some ⟨w.heap.size, 0, none⟩), .int .u64 150] 178)).alloc (.cells #[.pointer (some ⟨11, 139, none⟩), .pointer (some ⟨w.heap.size, 0, none⟩), .int .u64 150] 178)) (by rw [World.cell?_alloc_lt _ _ ⟨w.heap.size, 0, none⟩ (by simp; omega)]; simp)
  have st := tk_setE t ⟨w.heap.size + 1 + 1 + 1, 0, none⟩ n old ((((w.alloc (.cells #[.pointer (some t)] 139)).alloc (.cells #[.pointer (some ⟨11, 139, none⟩), .pointer (some ⟨w.heap.size, 0, none⟩), .int .u64 150] 178)).alloc (.cells #[.pointer (some ⟨11, 139, none⟩), .pointer (some ⟨w.heap.size, 0, none⟩), .int .u64 150] 178)).alloc (.cells #[.int .i64 n] 86))
    (by rw [World.cell?_alloc_at _ _ _ _ (by simp)]; rfl)
    (by rw [World.cell?_alloc_lt _ _ t (by simp; omega), World.cell?_alloc_lt _ _ t (by simp; omega), World.cell?_alloc_lt _ _ t (by simp; omega), World.cell?_alloc_lt _ _ t htl]; exact ht0)
    (by rw [World.frozen?_alloc_old _ _ t (by simp; omega), World.frozen?_alloc_old _ _ t (by simp; omega), World.frozen?_alloc_old _ _ t (by simp; omega), World.frozen?_alloc_old _ _ t (Nat.ne_of_lt htl)]; exact hf0)
  go_enter Tryd.func76, Tryd.ntmps76
  go_wp2
  refine wp_loop_rounds 1 ?_
  rw [rounds_succ]
  go_wp2
  go_ret
  exact ⟨rfl, rfl⟩

set_option maxHeartbeats 400000 in
theorem told_nil (w : World) : Calls Tryd.prog 42 #[.nilIface] w fun e w' => e = .returned (.int .i64 0) ∧ w' = w := by
  go_enter Tryd.func42, Tryd.ntmps42
  go_wp2
  go_ret
  exact ⟨rfl, rfl⟩

set_option maxHeartbeats 1000000 in
theorem told_hit (n : Int) (w : World) (hg : Et w) :
    Calls Tryd.prog 42 #[.iface 86 (.int .i64 n)] w fun e w' => e = .returned (.int .i64 n) ∧ Below w.heap.size w w' := by
  have hA : (w.alloc (.cells #[.int .i64 0] 86)).cell? ⟨1, 0, none⟩ = some (.iface 208 (.agg #[.pointer (some ⟨11, 36, none⟩)])) := hg.alloc _
  have hB : (w.alloc (.cells #[.int .i64 0] 86)).cell? ⟨w.heap.size, 0, none⟩ = some (.int .i64 0) := by simp
  have hC : (w.alloc (.cells #[.int .i64 0] 86)).frozen? ⟨w.heap.size, 0, none⟩ = false := by simp
  go_enter Tryd.func42, Tryd.ntmps42
  go_wp2_with (go_at_call 76; refine (as_hit _ _ (.int .i64 0) _ hA hB hC).mono ?_; rintro e w' ⟨rfl, rfl⟩)
  go_ret
  refine ⟨rfl, ?_⟩
  repeat (first | exact Below.refl _ _ | refine Below.alloc ?_ (by simp; try omega) _)

set_option maxHeartbeats 400000 in
theorem same_nil (x : Int) (w : World) : Calls Tryd.prog 15 #[.nilIface, .int .i64 x] w fun e w' => e = .returned (.bool (0 == x)) ∧ w' = w := by
  go_enter Tryd.func15, Tryd.ntmps15
  go_wp2_with (go_at_call 42; refine (told_nil _).mono ?_; rintro e w' ⟨rfl, rfl⟩)
  go_ret
  exact ⟨rfl, rfl⟩

set_option maxHeartbeats 400000 in
theorem same_hit (n x : Int) (w : World) (hg : Et w) : Calls Tryd.prog 15 #[.iface 86 (.int .i64 n), .int .i64 x] w fun e w' => e = .returned (.bool (n == x)) ∧ Below w.heap.size w w' := by
  have Hg : Hid (Et w) := hg
  clear hg
  go_enter Tryd.func15, Tryd.ntmps15
  go_wp2_with fail
  refine (told_hit _ _ Hg).mono ?_
  rintro e w1 ⟨rfl, hb⟩
  have Hb : Hid (Below w.heap.size w w1) := hb
  clear hb
  go_wp2
  go_ret
  exact ⟨rfl, Hb⟩
end Go.Proofs.YtelbdcljdfadbaaDoor

namespace Go.Proofs.YtelbdcljdfadbaaDoor
open Go.RowKit

theorem er_same (u : Value) (n : Int) (w : World) (h : Er u n) (hg : Et w) :
    Calls Tryd.prog 15 #[u, .int .i64 n] w fun e w' => e = .returned (.bool true) ∧ Below w.heap.size w w' := by
  rcases h with ⟨rfl, rfl⟩ | ⟨h0, rfl⟩
  · exact (same_nil 0 w).mono fun e w' ⟨h1, h2⟩ => ⟨h1, by rw [h2]; exact Below.refl _ _⟩
  · exact (same_hit n n w hg).mono fun e w' ⟨h1, h2⟩ => ⟨by rw [h1, beq_self_eq_true], h2⟩
end Go.Proofs.YtelbdcljdfadbaaDoor

namespace Go.Proofs.YtelbdcljdfadbaaDoor
open Go.ChangeShapes Go.WideShapes Go.ChangeAt Go.RowKit
set_option linter.unusedVariables false

theorem or_fields : ∃ f0 f1 f2 f3 : Field, Tryd.prog.underlying 63 = some (.struct #[f0, f1, f2, f3]) ∧
    f0.offset = 0 ∧ f0.type = 3 ∧ f1.offset = 1 ∧ f1.type = 3 ∧ f2.offset = 2 ∧ f2.type = 3 ∧ f3.offset = 3 ∧ f3.type = 3 := ⟨_, _, _, _, Tryd.underlying63, rfl, rfl, rfl, rfl, rfl, rfl, rfl, rfl⟩

set_option maxRecDepth 100000 in
theorem open_or {H : Type} {enc : TypeId × Value → H} {W : World} {base : Nat} {held : Bool} {fuel : Nat} {cs : List Value} {y : DataW H × List MemPlace} (h : DataW.trod enc Tryd.prog W base (fun _ => true) held fuel 63 cs = some y) :
    ∃ k : OrV, cs = [.int .i64 k.player, .int .i64 k.unit, .int .i64 k.what, .int .i64 k.arg] ∧ True := by
  obtain ⟨f0, f1, f2, f3, he, o0, t0, o1, t1, o2, t2, o3, t3⟩ := or_fields
  obtain ⟨xs, m, -, -, hlen, hxl, hf⟩ := DataW.trod_struct he h
  have csi : Tryd.prog.cellsOf 3 = 1 := by kernel_rfl
  have csk : Tryd.prog.cellsOf 63 = 4 := by kernel_rfl
  rw [csk] at hlen
  match cs, hlen with
  | [v0, v1, v2, v3], _ =>
    have hx : xs.length = 4 := hxl
    match xs, hx with
    | [x0, x1, x2, x3], _ =>
      have g0 := hf 0 f0 rfl
      rw [o0, t0, csi] at g0
      have g1 := hf 1 f1 rfl
      rw [o1, t1, csi] at g1
      have g2 := hf 2 f2 rfl
      rw [o2, t2, csi] at g2
      have g3 := hf 3 f3 rfl
      rw [o3, t3, csi] at g3
      obtain ⟨m0, e0, -, -⟩ := DataW.trod_int Tryd.underlying3 g0
      obtain ⟨m1, e1, -, -⟩ := DataW.trod_int Tryd.underlying3 g1
      obtain ⟨m2, e2, -, -⟩ := DataW.trod_int Tryd.underlying3 g2
      obtain ⟨m3, e3, -, -⟩ := DataW.trod_int Tryd.underlying3 g3
      simp at e0 e1 e2 e3
      subst e0 e1 e2 e3
      exact ⟨⟨m0, m1, m2, m3⟩, rfl, trivial⟩

theorem open_ors {H : Type} {enc : TypeId × Value → H} {W : World} {base : Nat} {held : Bool} {fuel : Nat} {v : Value} {y : DataW H × List MemPlace} (h : DataW.trod enc Tryd.prog W base (fun _ => true) held fuel 57 [v] = some y) :
    ∃ ks : List OrV, Orl W v ks ∧ ∀ k ∈ ks, True := by
  have csk : Tryd.prog.cellsOf 63 = 4 := by kernel_rfl
  rcases Go.Deep.open_slice Tryd.underlying57 h with ⟨hcs, -⟩ | ⟨a, len, cap, m, q, D, Pl, hcs, hb, hl, hm, hmm, -, hx⟩
  · simp at hcs
    subst hcs
    exact ⟨[], ⟨none, 0, rfl, Nat.le_refl _, by omega, fun h => absurd rfl h⟩, by simp⟩
  · simp at hcs
    subst hcs
    have hlm : len ≤ m := by rw [hmm]; simp; exact hl
    have each : ∀ i, i < len → ∃ k : OrV, Orc W (a.add (i * 4)) k ∧ (True) := by
      intro i hi
      obtain ⟨cs', h1, h2⟩ := hx i (by omega)
      obtain ⟨k, rfl, hk⟩ := open_or h2
      rw [csk] at h1
      obtain ⟨-, -, hcell⟩ := World.cells?_some h1
      refine ⟨k, ?_, hk⟩
      generalize a.add (i * 4) = y at *
      exact ⟨hcell 0 (by decide), hcell 1 (by decide), hcell 2 (by decide), hcell 3 (by decide)⟩
    have inh : Inhabited OrV := ⟨⟨0, 0, 0, 0⟩⟩
    obtain ⟨q, hq⟩ := Go.Deep.choose_lt each
    refine ⟨(List.range len).map q, ⟨some a, cap, by simp, by simpa using hl, by unfold maxLen at hm; omega, fun hn => ⟨a, rfl, ?_, fun i k hk => ?_⟩⟩, ?_⟩
    · have h0 : 0 < len := by
        rcases Nat.eq_zero_or_pos len with h | h
        · subst h; simp at hn
        · exact h
      have := (hq 0 h0).1.lt
      rwa [add_block] at this
    · have hi : i < len := by
        have := (List.getElem?_eq_some_iff.1 hk).1
        simpa using this
      rw [List.getElem?_map, List.getElem?_range hi] at hk
      injection hk with hk
      subst hk
      exact (hq i hi).1
    · intro k hk
      obtain ⟨i, hi, rfl⟩ := List.mem_map.1 hk
      exact (hq i (List.mem_range.1 hi)).2
set_option maxRecDepth 100000 in
theorem ors_in {H : Type} {enc : TypeId × Value → H} {W : World} {base b0 : Nat} {held : Bool} {v : Value} {d : DataW H} {p : List MemPlace} (hv : Value.okWide Tryd.prog W .any b0 57 v) (h : DataW.Trod enc Tryd.prog W base (fun _ => true) held 57 v d p) :
    ∃ ks : List OrV, Orl W v ks ∧ ∀ k ∈ ks, True := by
  obtain ⟨a, len, cap, rfl⟩ := okWide_slice Tryd.underlying57 hv
  obtain ⟨fuel, hf⟩ := h
  exact open_ors hf
end Go.Proofs.YtelbdcljdfadbaaDoor

namespace Go.Proofs.YtelbdcljdfadbaaDoor
open Go.ChangeShapes Go.WideShapes Go.ChangeAt Go.RowKit
set_option linter.unusedVariables false

theorem obulk_pos {H : Type} : ∀ d : DataW H, 1 ≤ Rows.uptoBulk d
  | .lit (.string bytes) => by simp [Rows.uptoBulk]
  | .lit (.int _ _) => by simp [Rows.uptoBulk]
  | .lit (.bool _) => by simp [Rows.uptoBulk]
  | .lit (.float .f32 _) => by simp [Rows.uptoBulk]
  | .lit (.float .f64 _) => by simp [Rows.uptoBulk]
  | .lit .nil => by simp [Rows.uptoBulk]
  | .nil => by simp [Rows.uptoBulk]
  | .ptr d => by simp [Rows.uptoBulk]
  | .slice _ _ => by simp [Rows.uptoBulk]
  | .agg _ => by simp [Rows.uptoBulk]
  | .iface _ _ => by simp [Rows.uptoBulk]
  | .map _ => by simp [Rows.uptoBulk]
  | .held _ => by simp [Rows.uptoBulk]
theorem obulk_len {H : Type} : ∀ ds : List (DataW H), ds.length ≤ Rows.uptoBulkAll ds
  | [] => by simp
  | d :: ds => by
    have h1 := obulk_pos d
    have h2 := obulk_len ds
    simp only [Rows.uptoBulkAll, List.length_cons]
    omega
theorem obulk_slice {H : Type} (es sp : List (DataW H)) : es.length ≤ Rows.uptoBulk (.slice es sp) := by
  have := obulk_len es
  simp only [Rows.uptoBulk]
  omega

theorem open_ors64 {H : Type} {enc : TypeId × Value → H} {W : World} {base : Nat} {held : Bool} {fuel : Nat} {v : Value} {y : DataW H × List MemPlace} (h : DataW.trod enc Tryd.prog W base (fun _ => true) held fuel 57 [v] = some y) :
    ∃ ks : List OrV, Orl W v ks ∧ ks.length ≤ Rows.uptoBulk y.1 := by
  have csk : Tryd.prog.cellsOf 63 = 4 := by kernel_rfl
  rcases Go.Deep.open_slice Tryd.underlying57 h with ⟨hcs, -⟩ | ⟨a, len, cap, m, q, D, Pl, hcs, hb, hl, hm, hmm, rfl, hx⟩
  · simp at hcs
    subst hcs
    exact ⟨[], ⟨none, 0, rfl, Nat.le_refl _, by omega, fun h => absurd rfl h⟩, by simp⟩
  · simp at hcs
    subst hcs
    have hlm : len ≤ m := by rw [hmm]; simp; exact hl
    have each : ∀ i, i < len → ∃ k : OrV, Orc W (a.add (i * 4)) k ∧ (True) := by
      intro i hi
      obtain ⟨cs', h1, h2⟩ := hx i (by omega)
      obtain ⟨k, rfl, hk⟩ := open_or h2
      rw [csk] at h1
      obtain ⟨-, -, hcell⟩ := World.cells?_some h1
      refine ⟨k, ?_, hk⟩
      generalize a.add (i * 4) = y at *
      exact ⟨hcell 0 (by decide), hcell 1 (by decide), hcell 2 (by decide), hcell 3 (by decide)⟩
    have inh : Inhabited OrV := ⟨⟨0, 0, 0, 0⟩⟩
    obtain ⟨q, hq⟩ := Go.Deep.choose_lt each
    refine ⟨(List.range len).map q, ⟨some a, cap, by simp, by simpa using hl, by unfold maxLen at hm; omega, fun hn => ⟨a, rfl, ?_, fun i k hk => ?_⟩⟩, ?_⟩
    · have h0 : 0 < len := by
        rcases Nat.eq_zero_or_pos len with h | h
        · subst h; simp at hn
        · exact h
      have := (hq 0 h0).1.lt
      rwa [add_block] at this
    · have hi : i < len := by
        have := (List.getElem?_eq_some_iff.1 hk).1
        simpa using this
      rw [List.getElem?_map, List.getElem?_range hi] at hk
      injection hk with hk
      subst hk
      exact (hq i hi).1
    · have := obulk_slice ((List.range len).map D) ((List.range (m - len)).map fun j => D (len + j))
      simpa using this
set_option maxRecDepth 100000 in
theorem ors_in64 {H : Type} {enc : TypeId × Value → H} {W : World} {base b0 : Nat} {held : Bool} {v : Value} {d : DataW H} {p : List MemPlace} (hv : Value.okWide Tryd.prog W .any b0 57 v) (h : DataW.Trod enc Tryd.prog W base (fun _ => true) held 57 v d p) :
    ∃ ks : List OrV, Orl W v ks ∧ ks.length ≤ Rows.uptoBulk d := by
  obtain ⟨a, len, cap, rfl⟩ := okWide_slice Tryd.underlying57 hv
  obtain ⟨fuel, hf⟩ := h
  exact open_ors64 hf
end Go.Proofs.YtelbdcljdfadbaaDoor

namespace Go.Proofs.YtelbdcljdfadbaaDoor
open Go.ChangeShapes Go.WideShapes Go.ChangeAt Go.RowKit
set_option linter.unusedVariables false

theorem names_g : Tryd.prog.globalNamed "marchland/orders.names" = some 0 := by kernel_rfl
theorem names_t : (Tryd.prog.globals[0]?).map (·.type) = some 143 := by kernel_rfl
theorem str_cs : Tryd.prog.cellsOf 9 = 1 := by kernel_rfl
theorem l4 {α : Type} {l : List α} (h : l.length = 4) : ∃ a b c d, l = [a, b, c, d] := by
  match l, h with
  | [a, b, c, d], _ => exact ⟨a, b, c, d, rfl⟩
theorem text_cell {w : World} {fuel : Nat} {cs : List Value} {l : List UInt8} {y : DataW Unit × List MemPlace} (h : DataW.trod (fun _ => ()) Tryd.prog w 0 (fun _ => true) false fuel 9 cs = some y) (hy : y.1 = .lit (.string l)) : cs = [.string ⟨l.toArray⟩] := by
  obtain ⟨s, e0, f0, -⟩ := DataW.trod_string Tryd.underlying9 h
  rw [f0] at hy
  simp only [DataW.lit.injEq, Lit.string.injEq] at hy
  rw [e0]
  congr 2
  exact WideShapes.bytes_inj (by rw [hy])
set_option maxRecDepth 100000 in
theorem nm_of_laid {w : World} {r : List (String × DataW Unit)} (h : laidMet Tryd.prog (("marchland/orders.names", Rows.laid_marchland_orders_names) :: r) w) : Nm w := by
  obtain ⟨ps, ⟨g, t, cs, fuel, p, q, h1, h2, h3, h4, -, -⟩, -, -⟩ := h
  obtain rfl := Option.some.inj (names_g.symm.trans h1)
  obtain rfl := Option.some.inj (names_t.symm.trans h2)
  obtain ⟨xs, m, -, hx, hl, hn, hi⟩ := DataW.trod_array Tryd.underlying143 h4
  have hd : xs.map (·.1) = [.lit (.string [115, 116, 111, 112]), .lit (.string [109, 97, 114, 99, 104]), .lit (.string [103, 97, 116, 104, 101, 114]), .lit (.string [116, 114, 97, 105, 110])] := by
    have e : Rows.laid_marchland_orders_names = DataW.agg (xs.map (·.1)) := congrArg Prod.fst hx
    unfold Rows.laid_marchland_orders_names at e
    injection e with e
    exact e.symm
  obtain ⟨x0, x1, x2, x3, rfl⟩ := l4 hn
  simp only [List.map_cons, List.map_nil, List.cons.injEq, and_true] at hd
  obtain ⟨d0, d1, d2, d3⟩ := hd
  have i0 := text_cell (hi 0 (by decide)) d0
  have i1 := text_cell (hi 1 (by decide)) d1
  have i2 := text_cell (hi 2 (by decide)) d2
  have i3 := text_cell (hi 3 (by decide)) d3
  rw [str_cs] at i0 i1 i2 i3
  have ec : ∀ k : Nat, w.cell? ⟨0, k, none⟩ = cs.toList[k]? := fun k => by
    have e := World.var?_cell names_g h3 k
    rw [e, Array.getElem?_toList]
  have g0 : ∀ k v, (cs.toList.drop (k * 1)).take 1 = [v] → cs.toList[k]? = some v := by
    intro k v e
    have := congrArg (fun l => l[0]?) e
    simpa [List.getElem?_take, List.getElem?_drop] using this
  exact ⟨(ec 0).trans (g0 0 _ i0), (ec 1).trans (g0 1 _ i1), (ec 2).trans (g0 2 _ i2), (ec 3).trans (g0 3 _ i3)⟩
end Go.Proofs.YtelbdcljdfadbaaDoor

