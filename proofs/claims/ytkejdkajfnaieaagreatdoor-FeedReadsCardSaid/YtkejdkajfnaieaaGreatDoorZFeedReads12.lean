/- Are two lists of changes the same? · What plain.Told and marchsame.Error answer of nil, and of an Errno: errors.As is walked at the target *api.Errno. · An error that is told is the reference's. · How great what came in is; a byte. · What a walk is told of bytes that came in. · What a walk is told of kinds that came in. · What a walk is told of worlds and bytes that came in. · FeedReads: the walk. -/
import Derived.Test.YtkejdkajfnaieaaGreatDoorZFeedReads1
import Derived.Laws.Closers25
import Derived.IntWalk
import Derived.BigRegion
import Derived.Test.YtkejdkajfnaieaaGreatDoorRows
import Derived.WalkKit
import Derived.WalkSpells
import Derived.WalkLawsBesides
import Derived.LaidEql
import Derived.Stop.Asserts
import Derived.RowKitTokens
import Derived.Deep.SlicePairs
import Derived.ChangeArms
import Derived.ProofKit
import Derived.OpenShut
import Derived.Test.YtkejdkajfnaieaaGreatDoorZFeedReads3
import Derived.Test.YtkejdkajfnaieaaGreatDoorZFeedReads5
import Derived.Test.YtkejdkajfnaieaaGreatDoorZFeedReads11
import Derived.Test.YtkejdkajfnaieaaGreatDoorZFeedReads2
import Derived.Test.YtkejdkajfnaieaaGreatDoorZFeedReads8
import Derived.Test.YtkejdkajfnaieaaGreatDoorZFeedReads9
import Derived.Test.YtkejdkajfnaieaaGreatDoorZFeedReads10
namespace Go.Proofs.YtkejdkajfnaieaaGreatDoor
open Go.RowKit
set_option linter.unusedVariables false

set_option maxRecDepth 100000 in
set_option maxHeartbeats 4000000 in
theorem changes_like (u v : Value) (ks : List ChV) (w : World) (hu : Chl w u ks) (hv : Chl w v ks) :
    Calls Tryz.prog 17 #[u, v] w fun e w' => e = .returned (.bool true) ∧ Below w.heap.size w w' := by
  obtain ⟨a, c, rfl, hc1, hc2, ha⟩ := hu
  obtain ⟨b, d, rfl, hd1, hd2, hb⟩ := hv
  have Ha : Hid (ks ≠ [] → ∃ x, a = some x ∧ x.block < w.heap.size ∧ ∀ (i : Nat) k, ks[i]? = some k → Chc w (x.add (i * 3)) k) := ha
  have Hb : Hid (ks ≠ [] → ∃ x, b = some x ∧ x.block < w.heap.size ∧ ∀ (i : Nat) k, ks[i]? = some k → Chc w (x.add (i * 3)) k) := hb
  clear ha hb
  go_enter Tryz.func17, Tryz.ntmps17
  go_wp2
  go_loopw [5] (fun i W' => ∃ k : Nat, k ≤ ks.length ∧ i = .int .i64 (k : Nat) ∧ ∃ n, W' = w.drewN n) (fun i _ => ks.length - (intOf i).toNat)
  case atStart => exact ⟨0, Nat.zero_le _, rfl, 0, rfl⟩
  case round =>
    obtain ⟨k, hk, rfl, n, rfl⟩ := hrel
    by_cases h0 : k = ks.length
    · subst h0
      have B : Hid (Below w.heap.size w (w.drewN n)) := ⟨rfl, rfl, rfl, Nat.le_refl _, fun _ _ => rfl⟩
      go_wp2
      go_ret
      exact ⟨rfl, B⟩
    · have hlt : k < ks.length := by omega
      have hlti : ((k : Nat) : Int) < (ks.length : Nat) := by omega
      obtain ⟨o, ho⟩ : ∃ o, ks[k]? = some o := ⟨_, List.getElem?_eq_getElem hlt⟩
      have hne : ks ≠ [] := by rintro rfl; simp at hlt
      obtain ⟨x, rfl, hx, hxc⟩ := Ha.out hne
      obtain ⟨y, rfl, hy, hyc⟩ := Hb.out hne
      have cx := hxc k o ho
      have cy := hyc k o ho
      obtain ⟨q0, q1, q2⟩ := cx
      obtain ⟨r0, r1, r2⟩ := cy
      clear hxc hyc hne ho
      go_wp2
      go_quiet (fail)
      go_wp2
      go_round
      case rel => exact ⟨k + 1, by omega, by go_num, n + nq, rfl⟩
      case measure => simp [intOf]; omega
end Go.Proofs.YtkejdkajfnaieaaGreatDoor

namespace Go.Proofs.YtkejdkajfnaieaaGreatDoor
open Go.RowKit Go.Extern.Stop Go.Stop Go.Extern

/-- the cell of errors.errorType. -/
def Et (w : World) : Prop := w.cell? ⟨0, 0, none⟩ = some (.iface 256 (.agg #[.pointer (some ⟨3, 35, none⟩)]))

theorem Et.lt {w : World} (h : Et w) : 0 < w.heap.size := by
  rcases Nat.lt_or_ge 0 w.heap.size with h1 | h1
  · exact h1
  · unfold Et at h
    simp [World.cell?, Array.getElem?_eq_none h1] at h
theorem Et.below {w w' : World} (h : Et w) (hb : Below w.heap.size w w') : Et w' := by
  unfold Et
  rw [hb.cell (p := ⟨0, 0, none⟩) h.lt]
  exact h
theorem Et.alloc {w : World} (h : Et w) (o : Obj) : Et (w.alloc o) := h.below ((Below.refl _ _).alloc (Nat.le_refl _) _)
theorem Et.drew {w : World} (h : Et w) : Et w.drew := h.below (Below.refl _ _).drew

theorem tk_valueOfP (t : Addr) (w : World) : (ReflectliteValue.unpack (.iface 169 (.pointer (some t)))).run Tryz.prog w
    = .ok (.agg #[.pointer (some ⟨3, 169, none⟩), .pointer (some ⟨w.heap.size, 0, none⟩), .int .u64 150]) (w.alloc (.cells #[.pointer (some t)] 169)) := by kernel_rfl
theorem tk_typeP (a : Addr) (w : World) : (ReflectliteValue.methodAny (ReflectliteValue.valueError "reflectlite.Value.Type" 0) (fun t _ _ _ => ReflectliteType.toType t) #[.agg #[.pointer (some ⟨3, 169, none⟩), .pointer (some a), .int .u64 150]]).run Tryz.prog w
    = .ok (.iface 256 (.agg #[.pointer (some ⟨3, 169, none⟩)])) w := by kernel_rfl
theorem tk_methodKind (h : Value) (w : World) : (Go.method 426 256 (.agg #[h]) "Kind").run Tryz.prog w = .ok (266, h) w := by kernel_rfl
theorem tk_kindP (w : World) : ((ReflectliteType.abiMethod fun t => (fun a : Nat => Value.int IntKind.u8 (a : Int)) <$> Rtype.kind t) #[.pointer (some ⟨3, 169, none⟩)]).run Tryz.prog w = .ok (.int .u8 22) w := by kernel_rfl
theorem tk_kindE (w : World) : ((ReflectliteType.abiMethod fun t => (fun a : Nat => Value.int IntKind.u8 (a : Int)) <$> Rtype.kind t) #[.pointer (some ⟨3, 97, none⟩)]).run Tryz.prog w = .ok (.int .u8 2) w := by kernel_rfl
theorem tk_open (z : Sem Value) (f : TypeId → Addr → Nat → Nat → Sem Value) (v : Value) :
    ReflectliteValue.method z f #[v] = (ReflectliteValue.parts v >>= fun o => o.elim z fun q => f q.1 q.2.1 q.2.2 (q.2.2 % 32)) := by
  refine (show ReflectliteValue.method z f #[v] = (ReflectliteValue.parts v >>= _) from rfl).trans ?_
  refine congrArg (ReflectliteValue.parts v >>= ·) (funext fun o => ?_)
  cases o <;> rfl
theorem tk_partsP (a : Addr) (w : World) : (ReflectliteValue.parts (.agg #[.pointer (some ⟨3, 169, none⟩), .pointer (some a), .int .u64 150])).run Tryz.prog w = .ok (some (169, a, 150)) w := by kernel_rfl
theorem tk_isNilP (a p : Addr) (W : World) (ha : W.cell? a = some (.pointer (some p))) :
    (ReflectliteValue.method (ReflectliteValue.valueError "reflectlite.Value.IsNil" 0) ReflectliteValue.isNil #[.agg #[.pointer (some ⟨3, 169, none⟩), .pointer (some a), .int .u64 150]]).run Tryz.prog W = .ok (.bool false) W := by
  rw [tk_open]
  simp only [Sem.run_bind, tk_partsP, Result.andThen]
  simp [ReflectliteValue.isNil, loadVar, isAgg, underlying, Tryz.underlying169, ha, Result.andThen]
theorem tk_methodElem (h : Value) (w : World) : (Go.method 426 256 (.agg #[h]) "Elem").run Tryz.prog w = .ok (276, .agg #[h]) w := by kernel_rfl
theorem tk_methodImplements (h : Value) (w : World) : (Go.method 426 256 (.agg #[h]) "Implements").run Tryz.prog w = .ok (277, .agg #[h]) w := by kernel_rfl
theorem tk_methodAssignableTo (h : Value) (w : World) : (Go.method 426 256 (.agg #[h]) "AssignableTo").run Tryz.prog w = .ok (274, .agg #[h]) w := by kernel_rfl
theorem tk_elemP (w : World) : (ReflectliteType.method ReflectliteType.elem #[.agg #[.pointer (some ⟨3, 169, none⟩)]]).run Tryz.prog w = .ok (.iface 256 (.agg #[.pointer (some ⟨3, 97, none⟩)])) w := by kernel_rfl
theorem tk_implementsE (w : World) : (ReflectliteType.relation "Implements" ReflectliteType.implements_ #[.agg #[.pointer (some ⟨3, 97, none⟩)], .iface 256 (.agg #[.pointer (some ⟨3, 35, none⟩)])]).run Tryz.prog w = .ok (.bool true) w := by kernel_rfl
theorem tk_typeOfE (v : Value) (w : World) : (ReflectliteType.typeOf #[.iface 97 v]).run Tryz.prog w = .ok (.iface 256 (.agg #[.pointer (some ⟨3, 97, none⟩)])) w := by kernel_rfl
theorem tk_assignableE (w : World) : (ReflectliteType.relation "AssignableTo" ReflectliteType.assignableTo #[.agg #[.pointer (some ⟨3, 97, none⟩)], .iface 256 (.agg #[.pointer (some ⟨3, 97, none⟩)])]).run Tryz.prog w = .ok (.bool true) w := by kernel_rfl
theorem tk_valueOfE (n : Int) (w : World) : (ReflectliteValue.unpack (.iface 97 (.int .i64 n))).run Tryz.prog w
    = .ok (.agg #[.pointer (some ⟨3, 97, none⟩), .pointer (some ⟨w.heap.size, 0, none⟩), .int .u64 130]) (w.alloc (.cells #[.int .i64 n] 97)) := by kernel_rfl
theorem tk_elemOfP (w : World) : (Rtype.elem? 169).run Tryz.prog w = .ok (some 97) w := by kernel_rfl
theorem tk_mkE (p : Addr) (w : World) : (ReflectliteValue.mk 97 p ReflectliteValue.flagAddr).run Tryz.prog w = .ok (.agg #[.pointer (some ⟨3, 97, none⟩), .pointer (some p), .int .u64 386]) w := by kernel_rfl
theorem tk_elemV (a p : Addr) (W : World) (ha : W.cell? a = some (.pointer (some p))) :
    (ReflectliteValue.method (ReflectliteValue.valueError "reflectlite.Value.Elem" 0) ReflectliteValue.elem #[.agg #[.pointer (some ⟨3, 169, none⟩), .pointer (some a), .int .u64 150]]).run Tryz.prog W
      = .ok (.agg #[.pointer (some ⟨3, 97, none⟩), .pointer (some p), .int .u64 386]) W := by
  rw [tk_open]
  simp only [Sem.run_bind, tk_partsP, Result.andThen]
  simp [ReflectliteValue.elem, loadVar, isAgg, underlying, Tryz.underlying169, ha, Result.andThen, tk_elemOfP, tk_mkE]
theorem tk_partsEa (a : Addr) (w : World) : (ReflectliteValue.parts (.agg #[.pointer (some ⟨3, 97, none⟩), .pointer (some a), .int .u64 386])).run Tryz.prog w = .ok (some (97, a, 386)) w := by kernel_rfl
theorem tk_partsE (a : Addr) (w : World) : (ReflectliteValue.parts (.agg #[.pointer (some ⟨3, 97, none⟩), .pointer (some a), .int .u64 130])).run Tryz.prog w = .ok (some (97, a, 130)) w := by kernel_rfl
theorem tk_directE (w : World) : (Rtype.directlyAssignable 97 97).run Tryz.prog w = .ok true w := by kernel_rfl
theorem tk_setE (ta b : Addr) (n : Int) (old : Value) (W : World) (hb : W.cell? b = some (.int .i64 n)) (ht : W.cell? ta = some old) (hf : W.frozen? ta = false) :
    (ReflectliteValue.set #[.agg #[.pointer (some ⟨3, 97, none⟩), .pointer (some ta), .int .u64 386], .agg #[.pointer (some ⟨3, 97, none⟩), .pointer (some b), .int .u64 130]]).run Tryz.prog W
      = .ok (.tuple #[]) (W.setCell ta (.int .i64 n)) := by
  rw [show ∀ X Y : Value, ReflectliteValue.set #[X, Y] = (ReflectliteValue.parts X >>= fun p => ReflectliteValue.parts Y >>= fun q => _) from fun _ _ => rfl]
  simp only [Sem.run_bind, tk_partsEa, tk_partsE, Result.andThen]
  simp [ReflectliteValue.flagAddr, loadVar, isAgg, underlying, Tryz.underlying97, hb, Result.andThen, tk_directE, storeVar, Value.cells, storeCells, Addr.add]
  rw [run_store Tryz.prog W ta _ _ (by rfl)]
  simp [ht, hf]

set_option maxHeartbeats 4000000 in
theorem as_hit (n : Int) (t : Addr) (old : Value) (w : World) (hg : w.cell? ⟨0, 0, none⟩ = some (.iface 256 (.agg #[.pointer (some ⟨3, 35, none⟩)]))) (ht0 : w.cell? t = some old) (hf0 : w.frozen? t = false) :
    Calls Tryz.prog 121 #[.iface 97 (.int .i64 n), .iface 169 (.pointer (some t))] w fun ev w' => ev = .returned (.bool true) ∧ w' = ((((w.alloc (.cells #[.pointer (some t)] 169)).alloc (.cells #[.pointer (some ⟨3, 169, none⟩), .pointer (some ⟨w.heap.size, 0, none⟩), .int .u64 150] 217)).alloc (.cells #[.pointer (some ⟨3, 169, none⟩), .pointer (some ⟨w.heap.size, 0, none⟩), .int .u64 150] 217)).alloc (.cells #[.int .i64 n] 97)).setCell t (.int .i64 n) := by
  have h6 := @run_callFunc_extern Tryz.prog 165 _ (fun args => ReflectliteValue.unpack (args.getD 0 (.tuple #[]))) Tryz.func165 (by kernel_rfl) (by kernel_rfl) (by kernel_rfl) (by kernel_rfl)
  have h7 := @run_callFunc_extern Tryz.prog 166 _ (ReflectliteValue.methodAny (ReflectliteValue.valueError "reflectlite.Value.Type" 0) (fun t _ _ _ => ReflectliteType.toType t)) Tryz.func166 (by kernel_rfl) (by kernel_rfl) (by kernel_rfl) (by kernel_rfl)
  have h8 := @run_callFunc_extern Tryz.prog 167 _ (ReflectliteValue.method (ReflectliteValue.valueError "reflectlite.Value.IsNil" 0) ReflectliteValue.isNil) Tryz.func167 (by kernel_rfl) (by kernel_rfl) (by kernel_rfl) (by kernel_rfl)
  have h27 := @run_callFunc_extern Tryz.prog 266 _ (ReflectliteType.abiMethod fun t => do pure (.int .u8 (← Rtype.kind t))) Tryz.func266 (by kernel_rfl) (by kernel_rfl) (by kernel_rfl) (by kernel_rfl)
  have h37 := @run_callFunc_extern Tryz.prog 276 _ (ReflectliteType.method ReflectliteType.elem) Tryz.func276 (by kernel_rfl) (by kernel_rfl) (by kernel_rfl) (by kernel_rfl)
  have h38 := @run_callFunc_extern Tryz.prog 277 _ (ReflectliteType.relation "Implements" ReflectliteType.implements_) Tryz.func277 (by kernel_rfl) (by kernel_rfl) (by kernel_rfl) (by kernel_rfl)
  have h10 := @run_callFunc_extern Tryz.prog 203 _ ReflectliteType.typeOf Tryz.func203 (by kernel_rfl) (by kernel_rfl) (by kernel_rfl) (by kernel_rfl)
  have h35 := @run_callFunc_extern Tryz.prog 274 _ (ReflectliteType.relation "AssignableTo" ReflectliteType.assignableTo) Tryz.func274 (by kernel_rfl) (by kernel_rfl) (by kernel_rfl) (by kernel_rfl)
  have h11 := @run_callFunc_extern Tryz.prog 204 _ (ReflectliteValue.method (ReflectliteValue.valueError "reflectlite.Value.Elem" 0) ReflectliteValue.elem) Tryz.func204 (by kernel_rfl) (by kernel_rfl) (by kernel_rfl) (by kernel_rfl)
  have h12 := @run_callFunc_extern Tryz.prog 205 _ ReflectliteValue.set Tryz.func205 (by kernel_rfl) (by kernel_rfl) (by kernel_rfl) (by kernel_rfl)
  have tO := tk_typeOfE
  have mA := tk_methodAssignableTo
  have a25 := tk_assignableE
  have v25 := tk_valueOfE
  have f6 := tk_valueOfP
  have f7 := tk_typeP
  have mK := tk_methodKind
  have mE := tk_methodElem
  have mI := tk_methodImplements
  have k27 := tk_kindP
  have k25 := tk_kindE
  have e27 := tk_elemP
  have i25 := tk_implementsE
  have n8 := tk_isNilP ⟨w.heap.size, 0, none⟩ t ((w.alloc (.cells #[.pointer (some t)] 169)).alloc (.cells #[.pointer (some ⟨3, 169, none⟩), .pointer (some ⟨w.heap.size, 0, none⟩), .int .u64 150] 217)) (by simp)
  have hlt : 0 < w.heap.size := Et.lt hg
  have hg2 : ((w.alloc (.cells #[.pointer (some t)] 169)).alloc (.cells #[.pointer (some ⟨3, 169, none⟩), .pointer (some ⟨w.heap.size, 0, none⟩), .int .u64 150] 217)).cell? ⟨0, 0, none⟩ = some (.iface 256 (.agg #[.pointer (some ⟨3, 35, none⟩)])) := by
    rw [World.cell?_alloc_lt _ _ ⟨0, 0, none⟩ (by simp; try omega), World.cell?_alloc_lt _ _ ⟨0, 0, none⟩ hlt]; exact hg
  have htl : t.block < w.heap.size := by
    rcases Nat.lt_or_ge t.block w.heap.size with h | h
    · exact h
    · simp [World.cell?, Array.getElem?_eq_none h] at ht0
  have el := tk_elemV ⟨w.heap.size, 0, none⟩ t (((w.alloc (.cells #[.pointer (some t)] 169)).alloc (.cells #[.pointer (some ⟨3, 169, none⟩), .pointer (some ⟨w.heap.size, 0, none⟩), .int .u64 150] 217)).alloc (.cells #[.pointer (some ⟨3, 169, none⟩), .pointer (some ⟨w.heap.size, 0, none⟩), .int .u64 150] 217)) (by rw [World.cell?_alloc_lt _ _ ⟨w.heap.size, 0, none⟩ (by simp; omega)]; simp)
  have st := tk_setE t ⟨w.heap.size + 1 + 1 + 1, 0, none⟩ n old ((((w.alloc (.cells #[.pointer (some t)] 169)).alloc (.cells #[.pointer (some ⟨3, 169, none⟩), .pointer (some ⟨w.heap.size, 0, none⟩), .int .u64 150] 217)).alloc (.cells #[.pointer (some ⟨3, 169, none⟩), .pointer (some ⟨w.heap.size, 0, none⟩), .int .u64 150] 217)).alloc (.cells #[.int .i64 n] 97))
    (by rw [World.cell?_alloc_at _ _ _ _ (by simp)]; rfl)
    (by rw [World.cell?_alloc_lt _ _ t (by simp; omega), World.cell?_alloc_lt _ _ t (by simp; omega), World.cell?_alloc_lt _ _ t (by simp; omega), World.cell?_alloc_lt _ _ t htl]; exact ht0)
    (by rw [World.frozen?_alloc_old _ _ t (by simp; omega), World.frozen?_alloc_old _ _ t (by simp; omega), World.frozen?_alloc_old _ _ t (by simp; omega), World.frozen?_alloc_old _ _ t (Nat.ne_of_lt htl)]; exact hf0)
  go_enter Tryz.func121, Tryz.ntmps121
  go_wp2
  refine wp_loop_rounds 1 ?_
  rw [rounds_succ]
  go_wp2
  go_ret
  exact ⟨rfl, rfl⟩

set_option maxHeartbeats 400000 in
theorem told_nil (w : World) : Calls Tryz.prog 60 #[.nilIface] w fun e w' => e = .returned (.int .i64 0) ∧ w' = w := by
  go_enter Tryz.func60, Tryz.ntmps60
  go_wp2
  go_ret
  exact ⟨rfl, rfl⟩

set_option maxHeartbeats 1000000 in
theorem told_hit (n : Int) (w : World) (hg : Et w) :
    Calls Tryz.prog 60 #[.iface 97 (.int .i64 n)] w fun e w' => e = .returned (.int .i64 n) ∧ Below w.heap.size w w' := by
  have hA : (w.alloc (.cells #[.int .i64 0] 97)).cell? ⟨0, 0, none⟩ = some (.iface 256 (.agg #[.pointer (some ⟨3, 35, none⟩)])) := hg.alloc _
  have hB : (w.alloc (.cells #[.int .i64 0] 97)).cell? ⟨w.heap.size, 0, none⟩ = some (.int .i64 0) := by simp
  have hC : (w.alloc (.cells #[.int .i64 0] 97)).frozen? ⟨w.heap.size, 0, none⟩ = false := by simp
  go_enter Tryz.func60, Tryz.ntmps60
  go_wp2_with (go_at_call 121; refine (as_hit _ _ (.int .i64 0) _ hA hB hC).mono ?_; rintro e w' ⟨rfl, rfl⟩)
  go_ret
  refine ⟨rfl, ?_⟩
  repeat (first | exact Below.refl _ _ | refine Below.alloc ?_ (by simp; try omega) _)

set_option maxHeartbeats 400000 in
theorem same_nil (x : Int) (w : World) : Calls Tryz.prog 16 #[.nilIface, .int .i64 x] w fun e w' => e = .returned (.bool (0 == x)) ∧ w' = w := by
  go_enter Tryz.func16, Tryz.ntmps16
  go_wp2_with (go_at_call 60; refine (told_nil _).mono ?_; rintro e w' ⟨rfl, rfl⟩)
  go_ret
  exact ⟨rfl, rfl⟩

set_option maxHeartbeats 400000 in
theorem same_hit (n x : Int) (w : World) (hg : Et w) : Calls Tryz.prog 16 #[.iface 97 (.int .i64 n), .int .i64 x] w fun e w' => e = .returned (.bool (n == x)) ∧ Below w.heap.size w w' := by
  have Hg : Hid (Et w) := hg
  clear hg
  go_enter Tryz.func16, Tryz.ntmps16
  go_wp2_with fail
  refine (told_hit _ _ Hg).mono ?_
  rintro e w1 ⟨rfl, hb⟩
  have Hb : Hid (Below w.heap.size w w1) := hb
  clear hb
  go_wp2
  go_ret
  exact ⟨rfl, Hb⟩
end Go.Proofs.YtkejdkajfnaieaaGreatDoor

namespace Go.Proofs.YtkejdkajfnaieaaGreatDoor
open Go.RowKit

theorem er_same (u : Value) (n : Int) (w : World) (h : Er u n) (hg : Et w) :
    Calls Tryz.prog 16 #[u, .int .i64 n] w fun e w' => e = .returned (.bool true) ∧ Below w.heap.size w w' := by
  rcases h with ⟨rfl, rfl⟩ | ⟨h0, rfl⟩
  · exact (same_nil 0 w).mono fun e w' ⟨h1, h2⟩ => ⟨h1, by rw [h2]; exact Below.refl _ _⟩
  · exact (same_hit n n w hg).mono fun e w' ⟨h1, h2⟩ => ⟨by rw [h1, beq_self_eq_true], h2⟩
end Go.Proofs.YtkejdkajfnaieaaGreatDoor

namespace Go.Proofs.YtkejdkajfnaieaaGreatDoor
open Go.ChangeShapes Go.WideShapes Go.ChangeAt Go.RowKit
set_option linter.unusedVariables false

theorem byte_of_wf {n : Int} (h : (Lit.int .u8 n).wf = true) : 0 ≤ n ∧ n < 256 := by
  simp only [Lit.wf, Bool.and_eq_true, decide_eq_true_eq] at h
  have h1 : IntKind.u8.min = 0 := by decide
  have h2 : IntKind.u8.max = 255 := by decide
  omega
theorem bulk_pos {H : Type} : ∀ d : DataW H, 1 ≤ Rows.uptoBulk d
  | .lit (.string bytes) => by simp [Rows.uptoBulk]
  | .lit (.int _ _) => by simp [Rows.uptoBulk]
  | .lit (.bool _) => by simp [Rows.uptoBulk]
  | .lit (.float .f32 _) => by simp [Rows.uptoBulk]
  | .lit (.float .f64 _) => by simp [Rows.uptoBulk]
  | .lit .nil => by simp [Rows.uptoBulk]
  | .nil => by simp [Rows.uptoBulk]
  | .ptr d => by simp [Rows.uptoBulk]
  | .slice _ _ => by simp [Rows.uptoBulk]
  | .agg _ => by simp [Rows.uptoBulk]
  | .iface _ _ => by simp [Rows.uptoBulk]
  | .map _ => by simp [Rows.uptoBulk]
  | .held _ => by simp [Rows.uptoBulk]
theorem bulk_len {H : Type} : ∀ ds : List (DataW H), ds.length ≤ Rows.uptoBulkAll ds
  | [] => by simp
  | d :: ds => by
    have h1 := bulk_pos d
    have h2 := bulk_len ds
    simp only [Rows.uptoBulkAll, List.length_cons]
    omega
theorem bulk_slice {H : Type} (es sp : List (DataW H)) : es.length ≤ Rows.uptoBulk (.slice es sp) := by
  have := bulk_len es
  simp only [Rows.uptoBulk]
  omega
end Go.Proofs.YtkejdkajfnaieaaGreatDoor

namespace Go.Proofs.YtkejdkajfnaieaaGreatDoor
open Go.ChangeShapes Go.WideShapes Go.ChangeAt Go.RowKit
set_option linter.unusedVariables false

set_option maxRecDepth 100000 in
theorem open_bytes {H : Type} {enc : TypeId × Value → H} {W : World} {base : Nat} {held : Bool} {fuel : Nat} {v : Value} {y : DataW H × List MemPlace} (h : DataW.trod enc Tryz.prog W base (fun _ => true) held fuel 46 [v] = some y) :
    ∃ l, By W v l ∧ l.length ≤ Rows.uptoBulk y.1 := by
  rcases open_ints Tryz.underlying46 Tryz.underlying5 (by kernel_rfl) h with ⟨hcs, rfl⟩ | ⟨x, l, c, zs, hcs, _, hl, hm, hz, rfl, hcell, hwz⟩
  · simp at hcs
    subst hcs
    exact ⟨[], ⟨none, 0, rfl, Nat.le_refl _, by omega, fun h => absurd rfl h⟩, by simp⟩
  · simp at hcs
    subst hcs
    simp only [if_true] at hz
    have hlen : ((zs.take l).map fun n => UInt8.ofNat n.toNat).length = l := by rw [List.length_map, List.length_take]; omega
    refine ⟨(zs.take l).map fun n => UInt8.ofNat n.toNat, ⟨some x, c, by rw [hlen], by omega, by omega, fun hn => ⟨x, rfl, ?_, fun i d hd => ?_⟩⟩, ?_⟩
    · have h0 : 0 < zs.length := by
        rcases Nat.eq_zero_or_pos zs.length with h | h
        · exact absurd (by rw [List.length_eq_zero_iff.1 h]; simp) hn
        · exact h
      have := cell_lt (x := x.add 0) (hcell 0 h0)
      rwa [add_block] at this
    · rw [List.getElem?_map, List.getElem?_take] at hd
      split at hd
      · rename_i hil
        have hi : i < zs.length := by omega
        rw [List.getElem?_eq_getElem hi] at hd
        simp only [Option.map_some, Option.some.injEq] at hd
        have hb := byte_of_wf (hwz zs[i] (List.getElem_mem hi))
        rw [hcell i hi, List.getD_eq_getElem?_getD, List.getElem?_eq_getElem hi, ← hd, UInt8.toNat_ofNat']
        simp only [Option.getD_some]
        congr 2
        omega
      · simp at hd
    · have := bulk_slice (H := H) (lits .u8 (zs.take l)) (lits .u8 (zs.drop l))
      rw [List.length_map]
      simpa [lits] using this
set_option maxRecDepth 100000 in
theorem bytes_in {H : Type} {enc : TypeId × Value → H} {W : World} {base b0 : Nat} {held : Bool} {v : Value} {d : DataW H} {p : List MemPlace} (hv : Value.okWide Tryz.prog W .any b0 46 v) (h : DataW.Trod enc Tryz.prog W base (fun _ => true) held 46 v d p) :
    ∃ l, By W v l ∧ l.length ≤ Rows.uptoBulk d := by
  obtain ⟨a, len, cap, rfl⟩ := okWide_slice Tryz.underlying46 hv
  obtain ⟨fuel, hf⟩ := h
  exact open_bytes hf
end Go.Proofs.YtkejdkajfnaieaaGreatDoor

namespace Go.Proofs.YtkejdkajfnaieaaGreatDoor
open Go.ChangeShapes Go.WideShapes Go.ChangeAt Go.RowKit
set_option linter.unusedVariables false

theorem kind_fields : ∃ f0 f1 f2 f3 f4 f5 f6 f7 f8 f9 f10 : Field, Tryz.prog.underlying 101 = some (.struct #[f0, f1, f2, f3, f4, f5, f6, f7, f8, f9, f10]) ∧
    f0.offset = 0 ∧ f0.type = 9 ∧ f1.offset = 1 ∧ f1.type = 3 ∧ f2.offset = 2 ∧ f2.type = 3 ∧ f3.offset = 3 ∧ f3.type = 3 ∧ f4.offset = 4 ∧ f4.type = 3 ∧ f5.offset = 5 ∧ f5.type = 3 ∧ f6.offset = 6 ∧ f6.type = 3 ∧ f7.offset = 7 ∧ f7.type = 3 ∧ f8.offset = 8 ∧ f8.type = 3 ∧ f9.offset = 9 ∧ f9.type = 4 ∧ f10.offset = 10 ∧ f10.type = 4 := ⟨_, _, _, _, _, _, _, _, _, _, _, Tryz.underlying101, rfl, rfl, rfl, rfl, rfl, rfl, rfl, rfl, rfl, rfl, rfl, rfl, rfl, rfl, rfl, rfl, rfl, rfl, rfl, rfl, rfl, rfl⟩


set_option maxRecDepth 100000 in
theorem open_kind {H : Type} {enc : TypeId × Value → H} {W : World} {base : Nat} {held : Bool} {fuel : Nat} {cs : List Value} {y : DataW H × List MemPlace} (h : DataW.trod enc Tryz.prog W base (fun _ => true) held fuel 101 cs = some y) :
    ∃ k : KV, cs = [.string k.b, .int .i64 k.n0, .int .i64 k.n1, .int .i64 k.n2, .int .i64 k.n3, .int .i64 k.n4, .int .i64 k.n5, .int .i64 k.n6, .int .i64 k.n7, .bool k.f, .bool k.t] ∧ k.b.size ≤ maxLen := by
  obtain ⟨f0, f1, f2, f3, f4, f5, f6, f7, f8, f9, f10, he, o0, t0, o1, t1, o2, t2, o3, t3, o4, t4, o5, t5, o6, t6, o7, t7, o8, t8, o9, t9, o10, t10⟩ := kind_fields
  obtain ⟨xs, n, -, -, hlen, hxl, hf⟩ := DataW.trod_struct he h
  have cs9 : Tryz.prog.cellsOf 9 = 1 := by kernel_rfl
  have cs3 : Tryz.prog.cellsOf 3 = 1 := by kernel_rfl
  have cs4 : Tryz.prog.cellsOf 4 = 1 := by kernel_rfl
  have csk : Tryz.prog.cellsOf 101 = 11 := by kernel_rfl
  rw [csk] at hlen
  match cs, hlen with
  | [v0, v1, v2, v3, v4, v5, v6, v7, v8, v9, v10], _ =>
    have hx11 : xs.length = 11 := hxl
    match xs, hx11 with
    | [x0, x1, x2, x3, x4, x5, x6, x7, x8, x9, x10], _ =>
      have g0 := hf 0 f0 rfl
      rw [o0, t0, cs9] at g0
      have g1 := hf 1 f1 rfl
      rw [o1, t1, cs3] at g1
      have g2 := hf 2 f2 rfl
      rw [o2, t2, cs3] at g2
      have g3 := hf 3 f3 rfl
      rw [o3, t3, cs3] at g3
      have g4 := hf 4 f4 rfl
      rw [o4, t4, cs3] at g4
      have g5 := hf 5 f5 rfl
      rw [o5, t5, cs3] at g5
      have g6 := hf 6 f6 rfl
      rw [o6, t6, cs3] at g6
      have g7 := hf 7 f7 rfl
      rw [o7, t7, cs3] at g7
      have g8 := hf 8 f8 rfl
      rw [o8, t8, cs3] at g8
      have g9 := hf 9 f9 rfl
      rw [o9, t9, cs4] at g9
      have g10 := hf 10 f10 rfl
      rw [o10, t10, cs4] at g10
      obtain ⟨b, e0, -, hb⟩ := DataW.trod_string Tryz.underlying9 g0
      obtain ⟨m1, e1, -, -⟩ := DataW.trod_int Tryz.underlying3 g1
      obtain ⟨m2, e2, -, -⟩ := DataW.trod_int Tryz.underlying3 g2
      obtain ⟨m3, e3, -, -⟩ := DataW.trod_int Tryz.underlying3 g3
      obtain ⟨m4, e4, -, -⟩ := DataW.trod_int Tryz.underlying3 g4
      obtain ⟨m5, e5, -, -⟩ := DataW.trod_int Tryz.underlying3 g5
      obtain ⟨m6, e6, -, -⟩ := DataW.trod_int Tryz.underlying3 g6
      obtain ⟨m7, e7, -, -⟩ := DataW.trod_int Tryz.underlying3 g7
      obtain ⟨m8, e8, -, -⟩ := DataW.trod_int Tryz.underlying3 g8
      obtain ⟨bf, e9, -⟩ := DataW.trod_bool Tryz.underlying4 g9
      obtain ⟨bt, e10, -⟩ := DataW.trod_bool Tryz.underlying4 g10
      simp at e0 e1 e2 e3 e4 e5 e6 e7 e8 e9 e10
      subst e0 e1 e2 e3 e4 e5 e6 e7 e8 e9 e10
      exact ⟨⟨b, m1, m2, m3, m4, m5, m6, m7, m8, bf, bt⟩, rfl, hb⟩

/-- kinds that came in. -/
theorem open_kinds {H : Type} {enc : TypeId × Value → H} {W : World} {base : Nat} {held : Bool} {fuel : Nat} {v : Value} {y : DataW H × List MemPlace} (h : DataW.trod enc Tryz.prog W base (fun _ => true) held fuel 22 [v] = some y) :
    ∃ ks : List KV, Kl W v ks ∧ ∀ k ∈ ks, k.b.size ≤ maxLen := by
  have csk : Tryz.prog.cellsOf 101 = 11 := by kernel_rfl
  rcases Go.Deep.open_slice Tryz.underlying22 h with ⟨hcs, -⟩ | ⟨a, len, cap, m, n, D, Pl, hcs, hb, hl, hm, hmm, -, hx⟩
  · simp at hcs
    subst hcs
    exact ⟨[], ⟨none, 0, rfl, Nat.le_refl _, by omega, fun h => absurd rfl h⟩, by simp⟩
  · simp at hcs
    subst hcs
    have hlm : len ≤ m := by rw [hmm]; simp; exact hl
    have each : ∀ i, i < len → ∃ k : KV, Kc W (a.add (i * 11)) k ∧ k.b.size ≤ maxLen := by
      intro i hi
      obtain ⟨cs', h1, h2⟩ := hx i (by omega)
      obtain ⟨k, rfl, hk⟩ := open_kind h2
      rw [csk] at h1
      obtain ⟨-, -, hcell⟩ := World.cells?_some h1
      refine ⟨k, ?_, hk⟩
      generalize a.add (i * 11) = y at *
      exact ⟨hcell 0 (by decide), hcell 1 (by decide), hcell 2 (by decide), hcell 3 (by decide), hcell 4 (by decide), hcell 5 (by decide), hcell 6 (by decide), hcell 7 (by decide), hcell 8 (by decide), hcell 9 (by decide), hcell 10 (by decide)⟩
    have inh : Inhabited KV := ⟨⟨ByteArray.empty, 0, 0, 0, 0, 0, 0, 0, 0, false, false⟩⟩
    obtain ⟨q, hq⟩ := Go.Deep.choose_lt each
    refine ⟨(List.range len).map q, ⟨some a, cap, by simp, by simpa using hl, by unfold maxLen at hm; omega, fun hn => ⟨a, rfl, ?_, fun i k hk => ?_⟩⟩, ?_⟩
    · have h0 : 0 < len := by
        rcases Nat.eq_zero_or_pos len with h | h
        · subst h; simp at hn
        · exact h
      have := (hq 0 h0).1.lt
      rwa [add_block] at this
    · have hi : i < len := by
        have := (List.getElem?_eq_some_iff.1 hk).1
        simpa using this
      rw [List.getElem?_map, List.getElem?_range hi] at hk
      injection hk with hk
      subst hk
      exact (hq i hi).1
    · intro k hk
      obtain ⟨i, hi, rfl⟩ := List.mem_map.1 hk
      exact (hq i (List.mem_range.1 hi)).2
set_option maxRecDepth 100000 in
theorem kinds_in {H : Type} {enc : TypeId × Value → H} {W : World} {base b0 : Nat} {held : Bool} {v : Value} {d : DataW H} {p : List MemPlace} (hv : Value.okWide Tryz.prog W .any b0 22 v) (h : DataW.Trod enc Tryz.prog W base (fun _ => true) held 22 v d p) :
    ∃ ks : List KV, Kl W v ks ∧ ∀ k ∈ ks, k.b.size ≤ maxLen := by
  obtain ⟨a, len, cap, rfl⟩ := okWide_slice Tryz.underlying22 hv
  obtain ⟨fuel, hf⟩ := h
  exact open_kinds hf
end Go.Proofs.YtkejdkajfnaieaaGreatDoor

namespace Go.Proofs.YtkejdkajfnaieaaGreatDoor
open Go.ChangeShapes Go.WideShapes Go.ChangeAt Go.RowKit
set_option linter.unusedVariables false

theorem in64_of_wf {n : Int} (h : (Lit.int .i64 n).wf = true) : Wd.In64 n := by
  unfold Wd.In64
  simp only [Lit.wf, Bool.and_eq_true, decide_eq_true_eq] at h
  have h1 : IntKind.i64.min = -9223372036854775808 := by decide
  have h2 : IntKind.i64.max = 9223372036854775807 := by decide
  omega
set_option maxRecDepth 100000 in
theorem open_row64 {H : Type} {enc : TypeId × Value → H} {W : World} {base : Nat} {held : Bool} {fuel : Nat} {v : Value} {y : DataW H × List MemPlace} (h : DataW.trod enc Tryz.prog W base (fun _ => true) held fuel 23 [v] = some y) :
    ∃ zs, Ro W v zs ∧ (∀ n ∈ zs, Wd.In64 n) ∧ zs.length ≤ Rows.uptoBulk y.1 := by
  rcases open_ints Tryz.underlying23 Tryz.underlying3 (by kernel_rfl) h with ⟨hcs, rfl⟩ | ⟨x, l, c, zs, hcs, _, hl, hm, hz, rfl, hcell, hwz⟩
  · simp at hcs
    subst hcs
    exact ⟨_, IsRow.ro (.inl ⟨rfl, rfl, rfl, rfl⟩), by simp, by simp⟩
  · simp at hcs
    subst hcs
    refine ⟨_, IsRow.ro (zs := zs) (.inr ⟨_, rfl, hl, hm, by simpa using hz, hcell, hwz⟩), fun n hn => in64_of_wf (hwz n (List.mem_of_mem_take hn)), ?_⟩
    have := bulk_slice (H := H) (lits .i64 (zs.take l)) (lits .i64 (zs.drop l))
    simpa [lits] using this
theorem un_flds : ∃ f0 f1 f2 f3 f4 f5 f6 f7 : Field, Tryz.prog.underlying 42 = some (.struct #[f0, f1, f2, f3, f4, f5, f6, f7]) ∧ f0.offset = 0 ∧ f0.type = 3 ∧ f1.offset = 1 ∧ f1.type = 3 ∧ f2.offset = 2 ∧ f2.type = 3 ∧ f3.offset = 3 ∧ f3.type = 3 ∧ f4.offset = 4 ∧ f4.type = 3 ∧ f5.offset = 5 ∧ f5.type = 3 ∧ f6.offset = 6 ∧ f6.type = 3 ∧ f7.offset = 7 ∧ f7.type = 3 := ⟨_, _, _, _, _, _, _, _, Tryz.underlying42, rfl, rfl, rfl, rfl, rfl, rfl, rfl, rfl, rfl, rfl, rfl, rfl, rfl, rfl, rfl, rfl⟩
set_option maxRecDepth 100000 in
theorem open_un64 {H : Type} {enc : TypeId × Value → H} {W : World} {base : Nat} {held : Bool} {fuel : Nat} {cs : List Value} {y : DataW H × List MemPlace} (h : DataW.trod enc Tryz.prog W base (fun _ => true) held fuel 42 cs = some y) :
    ∃ k : UnV, cs = [.int .i64 k.id, .int .i64 k.player, .int .i64 k.kind, .int .i64 k.at_, .int .i64 k.life, .int .i64 k.load, .int .i64 k.task, .int .i64 k.goal] ∧ ∀ n ∈ Wd.unums k, Wd.In64 n := by
  obtain ⟨f0, f1, f2, f3, f4, f5, f6, f7, he, o0, t0, o1, t1, o2, t2, o3, t3, o4, t4, o5, t5, o6, t6, o7, t7⟩ := un_flds
  obtain ⟨xs, m, -, -, hlen, hxl, hf⟩ := DataW.trod_struct he h
  have csi : Tryz.prog.cellsOf 3 = 1 := by kernel_rfl
  have csk : Tryz.prog.cellsOf 42 = 8 := by kernel_rfl
  rw [csk] at hlen
  match cs, hlen with
  | [v0, v1, v2, v3, v4, v5, v6, v7], _ =>
    have hx : xs.length = 8 := hxl
    match xs, hx with
    | [x0, x1, x2, x3, x4, x5, x6, x7], _ =>
      have g0 := hf 0 f0 rfl
      rw [o0, t0, csi] at g0
      have g1 := hf 1 f1 rfl
      rw [o1, t1, csi] at g1
      have g2 := hf 2 f2 rfl
      rw [o2, t2, csi] at g2
      have g3 := hf 3 f3 rfl
      rw [o3, t3, csi] at g3
      have g4 := hf 4 f4 rfl
      rw [o4, t4, csi] at g4
      have g5 := hf 5 f5 rfl
      rw [o5, t5, csi] at g5
      have g6 := hf 6 f6 rfl
      rw [o6, t6, csi] at g6
      have g7 := hf 7 f7 rfl
      rw [o7, t7, csi] at g7
      obtain ⟨m0, e0, -, w0⟩ := DataW.trod_int Tryz.underlying3 g0
      obtain ⟨m1, e1, -, w1⟩ := DataW.trod_int Tryz.underlying3 g1
      obtain ⟨m2, e2, -, w2⟩ := DataW.trod_int Tryz.underlying3 g2
      obtain ⟨m3, e3, -, w3⟩ := DataW.trod_int Tryz.underlying3 g3
      obtain ⟨m4, e4, -, w4⟩ := DataW.trod_int Tryz.underlying3 g4
      obtain ⟨m5, e5, -, w5⟩ := DataW.trod_int Tryz.underlying3 g5
      obtain ⟨m6, e6, -, w6⟩ := DataW.trod_int Tryz.underlying3 g6
      obtain ⟨m7, e7, -, w7⟩ := DataW.trod_int Tryz.underlying3 g7
      simp at e0 e1 e2 e3 e4 e5 e6 e7
      subst e0 e1 e2 e3 e4 e5 e6 e7
      refine ⟨⟨m0, m1, m2, m3, m4, m5, m6, m7⟩, rfl, ?_⟩
      intro n hn
      simp only [Wd.unums, List.mem_cons, List.not_mem_nil, or_false] at hn
      rcases hn with rfl | rfl | rfl | rfl | rfl | rfl | rfl | rfl
      · exact in64_of_wf w0
      · exact in64_of_wf w1
      · exact in64_of_wf w2
      · exact in64_of_wf w3
      · exact in64_of_wf w4
      · exact in64_of_wf w5
      · exact in64_of_wf w6
      · exact in64_of_wf w7
theorem open_uns64 {H : Type} {enc : TypeId × Value → H} {W : World} {base : Nat} {held : Bool} {fuel : Nat} {v : Value} {y : DataW H × List MemPlace} (h : DataW.trod enc Tryz.prog W base (fun _ => true) held fuel 26 [v] = some y) :
    ∃ ks : List UnV, Unl W v ks ∧ (∀ k ∈ ks, ∀ n ∈ Wd.unums k, Wd.In64 n) ∧ ks.length ≤ Rows.uptoBulk y.1 := by
  have csk : Tryz.prog.cellsOf 42 = 8 := by kernel_rfl
  rcases Go.Deep.open_slice Tryz.underlying26 h with ⟨hcs, -⟩ | ⟨a, len, cap, m, q, D, Pl, hcs, hb, hl, hm, hmm, rfl, hx⟩
  · simp at hcs
    subst hcs
    exact ⟨[], ⟨none, 0, rfl, Nat.le_refl _, by omega, fun h => absurd rfl h⟩, by simp, by simp⟩
  · simp at hcs
    subst hcs
    have hlm : len ≤ m := by rw [hmm]; simp; exact hl
    have each : ∀ i, i < len → ∃ k : UnV, Unc W (a.add (i * 8)) k ∧ (∀ n ∈ Wd.unums k, Wd.In64 n) := by
      intro i hi
      obtain ⟨cs', h1, h2⟩ := hx i (by omega)
      obtain ⟨k, rfl, hk⟩ := open_un64 h2
      rw [csk] at h1
      obtain ⟨-, -, hcell⟩ := World.cells?_some h1
      refine ⟨k, ?_, hk⟩
      generalize a.add (i * 8) = y at *
      exact ⟨hcell 0 (by decide), hcell 1 (by decide), hcell 2 (by decide), hcell 3 (by decide), hcell 4 (by decide), hcell 5 (by decide), hcell 6 (by decide), hcell 7 (by decide)⟩
    have inh : Inhabited UnV := ⟨⟨0, 0, 0, 0, 0, 0, 0, 0⟩⟩
    obtain ⟨q, hq⟩ := Go.Deep.choose_lt each
    refine ⟨(List.range len).map q, ⟨some a, cap, by simp, by simpa using hl, by unfold maxLen at hm; omega, fun hn => ⟨a, rfl, ?_, fun i k hk => ?_⟩⟩, ?_, ?_⟩
    · have h0 : 0 < len := by
        rcases Nat.eq_zero_or_pos len with h | h
        · subst h; simp at hn
        · exact h
      have := (hq 0 h0).1.lt
      rwa [add_block] at this
    · have hi : i < len := by
        have := (List.getElem?_eq_some_iff.1 hk).1
        simpa using this
      rw [List.getElem?_map, List.getElem?_range hi] at hk
      injection hk with hk
      subst hk
      exact (hq i hi).1
    · intro k hk
      obtain ⟨i, hi, rfl⟩ := List.mem_map.1 hk
      exact (hq i (List.mem_range.1 hi)).2
    · have := bulk_slice ((List.range len).map D) ((List.range (m - len)).map fun j => D (len + j))
      simpa using this
theorem jb_flds : ∃ f0 f1 f2 f3 : Field, Tryz.prog.underlying 104 = some (.struct #[f0, f1, f2, f3]) ∧ f0.offset = 0 ∧ f0.type = 3 ∧ f1.offset = 1 ∧ f1.type = 3 ∧ f2.offset = 2 ∧ f2.type = 3 ∧ f3.offset = 3 ∧ f3.type = 3 := ⟨_, _, _, _, Tryz.underlying104, rfl, rfl, rfl, rfl, rfl, rfl, rfl, rfl⟩
set_option maxRecDepth 100000 in
theorem open_jb64 {H : Type} {enc : TypeId × Value → H} {W : World} {base : Nat} {held : Bool} {fuel : Nat} {cs : List Value} {y : DataW H × List MemPlace} (h : DataW.trod enc Tryz.prog W base (fun _ => true) held fuel 104 cs = some y) :
    ∃ k : JbV, cs = [.int .i64 k.player, .int .i64 k.unit, .int .i64 k.kind, .int .i64 k.left] ∧ ∀ n ∈ Wd.jnums k, Wd.In64 n := by
  obtain ⟨f0, f1, f2, f3, he, o0, t0, o1, t1, o2, t2, o3, t3⟩ := jb_flds
  obtain ⟨xs, m, -, -, hlen, hxl, hf⟩ := DataW.trod_struct he h
  have csi : Tryz.prog.cellsOf 3 = 1 := by kernel_rfl
  have csk : Tryz.prog.cellsOf 104 = 4 := by kernel_rfl
  rw [csk] at hlen
  match cs, hlen with
  | [v0, v1, v2, v3], _ =>
    have hx : xs.length = 4 := hxl
    match xs, hx with
    | [x0, x1, x2, x3], _ =>
      have g0 := hf 0 f0 rfl
      rw [o0, t0, csi] at g0
      have g1 := hf 1 f1 rfl
      rw [o1, t1, csi] at g1
      have g2 := hf 2 f2 rfl
      rw [o2, t2, csi] at g2
      have g3 := hf 3 f3 rfl
      rw [o3, t3, csi] at g3
      obtain ⟨m0, e0, -, w0⟩ := DataW.trod_int Tryz.underlying3 g0
      obtain ⟨m1, e1, -, w1⟩ := DataW.trod_int Tryz.underlying3 g1
      obtain ⟨m2, e2, -, w2⟩ := DataW.trod_int Tryz.underlying3 g2
      obtain ⟨m3, e3, -, w3⟩ := DataW.trod_int Tryz.underlying3 g3
      simp at e0 e1 e2 e3
      subst e0 e1 e2 e3
      refine ⟨⟨m0, m1, m2, m3⟩, rfl, ?_⟩
      intro n hn
      simp only [Wd.jnums, List.mem_cons, List.not_mem_nil, or_false] at hn
      rcases hn with rfl | rfl | rfl | rfl
      · exact in64_of_wf w0
      · exact in64_of_wf w1
      · exact in64_of_wf w2
      · exact in64_of_wf w3
theorem open_jbs64 {H : Type} {enc : TypeId × Value → H} {W : World} {base : Nat} {held : Bool} {fuel : Nat} {v : Value} {y : DataW H × List MemPlace} (h : DataW.trod enc Tryz.prog W base (fun _ => true) held fuel 27 [v] = some y) :
    ∃ ks : List JbV, Jbl W v ks ∧ (∀ k ∈ ks, ∀ n ∈ Wd.jnums k, Wd.In64 n) ∧ ks.length ≤ Rows.uptoBulk y.1 := by
  have csk : Tryz.prog.cellsOf 104 = 4 := by kernel_rfl
  rcases Go.Deep.open_slice Tryz.underlying27 h with ⟨hcs, -⟩ | ⟨a, len, cap, m, q, D, Pl, hcs, hb, hl, hm, hmm, rfl, hx⟩
  · simp at hcs
    subst hcs
    exact ⟨[], ⟨none, 0, rfl, Nat.le_refl _, by omega, fun h => absurd rfl h⟩, by simp, by simp⟩
  · simp at hcs
    subst hcs
    have hlm : len ≤ m := by rw [hmm]; simp; exact hl
    have each : ∀ i, i < len → ∃ k : JbV, Jbc W (a.add (i * 4)) k ∧ (∀ n ∈ Wd.jnums k, Wd.In64 n) := by
      intro i hi
      obtain ⟨cs', h1, h2⟩ := hx i (by omega)
      obtain ⟨k, rfl, hk⟩ := open_jb64 h2
      rw [csk] at h1
      obtain ⟨-, -, hcell⟩ := World.cells?_some h1
      refine ⟨k, ?_, hk⟩
      generalize a.add (i * 4) = y at *
      exact ⟨hcell 0 (by decide), hcell 1 (by decide), hcell 2 (by decide), hcell 3 (by decide)⟩
    have inh : Inhabited JbV := ⟨⟨0, 0, 0, 0⟩⟩
    obtain ⟨q, hq⟩ := Go.Deep.choose_lt each
    refine ⟨(List.range len).map q, ⟨some a, cap, by simp, by simpa using hl, by unfold maxLen at hm; omega, fun hn => ⟨a, rfl, ?_, fun i k hk => ?_⟩⟩, ?_, ?_⟩
    · have h0 : 0 < len := by
        rcases Nat.eq_zero_or_pos len with h | h
        · subst h; simp at hn
        · exact h
      have := (hq 0 h0).1.lt
      rwa [add_block] at this
    · have hi : i < len := by
        have := (List.getElem?_eq_some_iff.1 hk).1
        simpa using this
      rw [List.getElem?_map, List.getElem?_range hi] at hk
      injection hk with hk
      subst hk
      exact (hq i hi).1
    · intro k hk
      obtain ⟨i, hi, rfl⟩ := List.mem_map.1 hk
      exact (hq i (List.mem_range.1 hi)).2
    · have := bulk_slice ((List.range len).map D) ((List.range (m - len)).map fun j => D (len + j))
      simpa using this
theorem world_flds : ∃ f0 f1 f2 f3 f4 f5 : Field, Tryz.prog.underlying 29 = some (.struct #[f0, f1, f2, f3, f4, f5]) ∧ f0.offset = 0 ∧ f0.type = 3 ∧ f1.offset = 1 ∧ f1.type = 3 ∧ f2.offset = 2 ∧ f2.type = 25 ∧ f3.offset = 6 ∧ f3.type = 23 ∧ f4.offset = 7 ∧ f4.type = 26 ∧ f5.offset = 8 ∧ f5.type = 27 := ⟨_, _, _, _, _, _, Tryz.underlying29, rfl, rfl, rfl, rfl, rfl, rfl, rfl, rfl, rfl, rfl, rfl, rfl⟩
theorem field_flds : ∃ f0 f1 f2 f3 : Field, Tryz.prog.underlying 25 = some (.struct #[f0, f1, f2, f3]) ∧ f0.offset = 0 ∧ f0.type = 3 ∧ f1.offset = 1 ∧ f1.type = 3 ∧ f2.offset = 2 ∧ f2.type = 23 ∧ f3.offset = 3 ∧ f3.type = 23 := ⟨_, _, _, _, Tryz.underlying25, rfl, rfl, rfl, rfl, rfl, rfl, rfl, rfl⟩
theorem ro_len {w : World} {v : Value} {xs : List Int} (h : Ro w v xs) : Wd.In64 (xs.length : Int) := by
  obtain ⟨a, c, -, h1, h2, -⟩ := h
  unfold Wd.In64; omega
set_option maxRecDepth 100000 in
theorem open_world64 {H : Type} {enc : TypeId × Value → H} {W : World} {base : Nat} {held : Bool} {fuel : Nat} {cs : List Value} {y : DataW H × List MemPlace} (h : DataW.trod enc Tryz.prog W base (fun _ => true) held fuel 29 cs = some y) :
    ∃ X : WV, Wl W (.agg cs.toArray) X ∧ (∀ n ∈ Wd.nums X, Wd.In64 n) ∧ (Rows.uptoBulk y.1 ≤ 1048576 → WSmall X) := by
  obtain ⟨f0, f1, f2, f3, f4, f5, he, o0, t0, o1, t1, o2, t2, o3, t3, o4, t4, o5, t5⟩ := world_flds
  obtain ⟨xs, m, -, rfl, hlen, hxl, hf⟩ := DataW.trod_struct he h
  have csi : Tryz.prog.cellsOf 3 = 1 := by kernel_rfl
  have csf : Tryz.prog.cellsOf 25 = 4 := by kernel_rfl
  have csl : Tryz.prog.cellsOf 23 = 1 := by kernel_rfl
  have csu : Tryz.prog.cellsOf 26 = 1 := by kernel_rfl
  have csj : Tryz.prog.cellsOf 27 = 1 := by kernel_rfl
  have csk : Tryz.prog.cellsOf 29 = 9 := by kernel_rfl
  rw [csk] at hlen
  match cs, hlen with
  | [v0, v1, v2, v3, v4, v5, v6, v7, v8], _ =>
    have hx : xs.length = 6 := hxl
    match xs, hx with
    | [x0, x1, x2, x3, x4, x5], _ =>
      have g0 := hf 0 f0 rfl
      rw [o0, t0, csi] at g0
      have g1 := hf 1 f1 rfl
      rw [o1, t1, csi] at g1
      have g2 := hf 2 f2 rfl
      rw [o2, t2, csf] at g2
      have g3 := hf 3 f3 rfl
      rw [o3, t3, csl] at g3
      have g4 := hf 4 f4 rfl
      rw [o4, t4, csu] at g4
      have g5 := hf 5 f5 rfl
      rw [o5, t5, csj] at g5
      obtain ⟨m0, e0, -, w0⟩ := DataW.trod_int Tryz.underlying3 g0
      obtain ⟨m1, e1, -, w1⟩ := DataW.trod_int Tryz.underlying3 g1
      obtain ⟨r0, r1, r2, r3, he', p0, s0, p1, s1, p2, s2, p3, s3⟩ := field_flds
      obtain ⟨ys, m', -, rfl, hlen', hyl, hg⟩ := DataW.trod_struct he' g2
      have hy : ys.length = 4 := hyl
      match ys, hy with
      | [y0, y1, y2, y3], _ =>
        have k0 := hg 0 r0 rfl
        rw [p0, s0, csi] at k0
        have k1 := hg 1 r1 rfl
        rw [p1, s1, csi] at k1
        have k2 := hg 2 r2 rfl
        rw [p2, s2, csl] at k2
        have k3 := hg 3 r3 rfl
        rw [p3, s3, csl] at k3
        obtain ⟨m2, e2, -, w2⟩ := DataW.trod_int Tryz.underlying3 k0
        obtain ⟨m3, e3, -, w3⟩ := DataW.trod_int Tryz.underlying3 k1
        simp at e0 e1 e2 e3
        subst e0 e1 e2 e3
        obtain ⟨gs, hgs, igs, bgs⟩ := open_row64 k2
        obtain ⟨os, hos, ios, bos⟩ := open_row64 k3
        obtain ⟨gold, hgold, igold, bgold⟩ := open_row64 g3
        obtain ⟨us, hus, ius, bus⟩ := open_uns64 g4
        obtain ⟨qs, hqs, iqs, bqs⟩ := open_jbs64 g5
        have lu : Wd.In64 (us.length : Int) := by
          obtain ⟨a, c, -, h1, h2, -⟩ := hus
          unfold Wd.In64; omega
        have lq : Wd.In64 (qs.length : Int) := by
          obtain ⟨a, c, -, h1, h2, -⟩ := hqs
          unfold Wd.In64; omega
        refine ⟨⟨m0, m1, m2, m3, gs, os, gold, us, qs⟩, ⟨_, _, _, _, _, rfl, hgs, hos, hgold, hus, hqs⟩, ?_, ?_⟩
        · intro n hn
          simp only [Wd.nums, List.mem_append, List.mem_cons, List.not_mem_nil, or_false, List.mem_flatMap] at hn
          rcases hn with (((((rfl | rfl | rfl | rfl) | (rfl | hn)) | (rfl | hn)) | (rfl | hn)) | (rfl | ⟨u, hu, hn⟩)) | (rfl | ⟨u, hu, hn⟩)
          · exact in64_of_wf w0
          · exact in64_of_wf w1
          · exact in64_of_wf w2
          · exact in64_of_wf w3
          · exact ro_len hgs
          · exact igs _ hn
          · exact ro_len hos
          · exact ios _ hn
          · exact ro_len hgold
          · exact igold _ hn
          · exact lu
          · exact ius u hu n hn
          · exact lq
          · exact iqs u hu n hn
        · intro hb
          simp only [Rows.uptoBulk, Rows.uptoBulkAll, List.map_cons, List.map_nil] at hb
          exact ⟨by simp only; omega, by simp only; omega, by simp only; omega, by simp only; omega, by simp only; omega⟩
set_option maxRecDepth 100000 in
theorem world_in {H : Type} {enc : TypeId × Value → H} {W : World} {base b0 : Nat} {held : Bool} {v : Value} {d : DataW H} {p : List MemPlace} (hv : Value.okWide Tryz.prog W .any b0 29 v) (h : DataW.Trod enc Tryz.prog W base (fun _ => true) held 29 v d p) :
    ∃ X : WV, Wl W v X ∧ (∀ n ∈ Wd.nums X, Wd.In64 n) ∧ (Rows.uptoBulk d ≤ 1048576 → WSmall X) := by
  obtain ⟨cs, rfl, hsz⟩ := okWide_struct Tryz.underlying29 hv
  obtain ⟨fuel, hf⟩ := h
  have := open_world64 hf
  simpa [Value.cells] using this
end Go.Proofs.YtkejdkajfnaieaaGreatDoor

namespace Go.Proofs.YtkejdkajfnaieaaGreatDoor.feedReads
open Go.RowKit
set_option linter.unusedVariables false

theorem chl_nil (w : World) : Chl w (.slice none 0 0) [] := ⟨none, 0, rfl, Nat.le_refl _, by omega, fun h => absurd rfl h⟩
/-- what stays. -/
def Al (w : World) (z : Nat) (A B : WV) (u1 u2 u3 u4 u5 x1 x2 x3 x4 x5 : Value) (W : World) : Prop := Bw W z A u1 u2 u3 u4 u5 ∧ Bw W (z + 1) B x1 x2 x3 x4 x5 ∧ Below w.heap.size w W
theorem Al.below {w W W' : World} {z : Nat} {A B : WV} {u1 u2 u3 u4 u5 x1 x2 x3 x4 x5 : Value} (h : Al w z A B u1 u2 u3 u4 u5 x1 x2 x3 x4 x5 W) (b : Below W.heap.size W W') : Al w z A B u1 u2 u3 u4 u5 x1 x2 x3 x4 x5 W' := ⟨h.1.below b h.1.lt, h.2.1.below b h.2.1.lt, h.2.2.trans (b.mono h.2.2.size)⟩
set_option maxRecDepth 100000 in
set_option maxHeartbeats 32000000 in
theorem walk (vc : Value) (c : List UInt8) (vk : Value) (ks : List KV) (va : Value) (A : WV) (vb : Value) (B : WV) (p : Int) (w : World)
    (hc : By w vc c) (h0 : Kl w vk ks ∧ ∀ k ∈ ks, k.b.size ≤ maxLen) (ha : Wl w va A ∧ ∀ n ∈ Wd.nums A, Wd.In64 n) (hb : Wl w vb B ∧ ∀ n ∈ Wd.nums B, Wd.In64 n) (et : Et w) :
    Calls Tryz.prog 4 #[vc, vk, va, vb, .int .i64 p] w fun e w' => e = .returned (.bool true) ∧ Below w.heap.size w w' := by
  have K : Hid (Kl w vk ks ∧ ∀ k ∈ ks, k.b.size ≤ 9223372036854775807) := ⟨h0.1, fun k hk => by have := h0.2 k hk; unfold maxLen at this; omega⟩
  have CC : Hid (By w vc c) := hc
  have HA : Hid (Wl w va A) := ha.1
  have HB : Hid (Wl w vb B) := hb.1
  have ET : Hid (Et w) := et
  obtain ⟨pc, qc, rfl, -⟩ := hc
  obtain ⟨p1, q1, p2, q2, p3, q3, p4, q4, p5, q5, rfl⟩ := wl_shape9 ha.1
  obtain ⟨s1, t1, s2, t2, s3, t3, s4, t4, s5, t5, rfl⟩ := wl_shape9 hb.1
  obtain ⟨pk, qk, rfl, -⟩ := h0.1
  clear h0 ha hb et
  have b1 : Below w.heap.size w (w.alloc (Obj.cells #[.int .i64 A.turn, .int .i64 A.next, .int .i64 A.wide, .int .i64 A.high, .slice p1 A.gs.length q1, .slice p2 A.os.length q2, .slice p3 A.gold.length q3, .slice p4 A.us.length q4, .slice p5 A.qs.length q5] 29)) := (Below.refl _ _).alloc (Nat.le_refl _) _
  have b2 : Below (w.alloc (Obj.cells #[.int .i64 A.turn, .int .i64 A.next, .int .i64 A.wide, .int .i64 A.high, .slice p1 A.gs.length q1, .slice p2 A.os.length q2, .slice p3 A.gold.length q3, .slice p4 A.us.length q4, .slice p5 A.qs.length q5] 29)).heap.size (w.alloc (Obj.cells #[.int .i64 A.turn, .int .i64 A.next, .int .i64 A.wide, .int .i64 A.high, .slice p1 A.gs.length q1, .slice p2 A.os.length q2, .slice p3 A.gold.length q3, .slice p4 A.us.length q4, .slice p5 A.qs.length q5] 29)) ((w.alloc (Obj.cells #[.int .i64 A.turn, .int .i64 A.next, .int .i64 A.wide, .int .i64 A.high, .slice p1 A.gs.length q1, .slice p2 A.os.length q2, .slice p3 A.gold.length q3, .slice p4 A.us.length q4, .slice p5 A.qs.length q5] 29)).alloc (Obj.cells #[.int .i64 B.turn, .int .i64 B.next, .int .i64 B.wide, .int .i64 B.high, .slice s1 B.gs.length t1, .slice s2 B.os.length t2, .slice s3 B.gold.length t3, .slice s4 B.us.length t4, .slice s5 B.qs.length t5] 29)) := (Below.refl _ _).alloc (Nat.le_refl _) _
  obtain ⟨z, hz⟩ : ∃ z, w.heap.size = z := ⟨_, rfl⟩
  have e1 : (w.alloc (Obj.cells #[.int .i64 A.turn, .int .i64 A.next, .int .i64 A.wide, .int .i64 A.high, .slice p1 A.gs.length q1, .slice p2 A.os.length q2, .slice p3 A.gold.length q3, .slice p4 A.us.length q4, .slice p5 A.qs.length q5] 29)).heap.size = z + 1 := by simp [hz]
  have a1 : Bw (w.alloc (Obj.cells #[.int .i64 A.turn, .int .i64 A.next, .int .i64 A.wide, .int .i64 A.high, .slice p1 A.gs.length q1, .slice p2 A.os.length q2, .slice p3 A.gold.length q3, .slice p4 A.us.length q4, .slice p5 A.qs.length q5] 29)) z A (.slice p1 A.gs.length q1) (.slice p2 A.os.length q2) (.slice p3 A.gold.length q3) (.slice p4 A.us.length q4) (.slice p5 A.qs.length q5) := Bw.mk' A _ _ _ _ _ hz
  have a2 : Bw ((w.alloc (Obj.cells #[.int .i64 A.turn, .int .i64 A.next, .int .i64 A.wide, .int .i64 A.high, .slice p1 A.gs.length q1, .slice p2 A.os.length q2, .slice p3 A.gold.length q3, .slice p4 A.us.length q4, .slice p5 A.qs.length q5] 29)).alloc (Obj.cells #[.int .i64 B.turn, .int .i64 B.next, .int .i64 B.wide, .int .i64 B.high, .slice s1 B.gs.length t1, .slice s2 B.os.length t2, .slice s3 B.gold.length t3, .slice s4 B.us.length t4, .slice s5 B.qs.length t5] 29)) (z + 1) B (.slice s1 B.gs.length t1) (.slice s2 B.os.length t2) (.slice s3 B.gold.length t3) (.slice s4 B.us.length t4) (.slice s5 B.qs.length t5) := Bw.mk' B _ _ _ _ _ e1
  have AL0 : Hid (Al w z A B (.slice p1 A.gs.length q1) (.slice p2 A.os.length q2) (.slice p3 A.gold.length q3) (.slice p4 A.us.length q4) (.slice p5 A.qs.length q5) (.slice s1 B.gs.length t1) (.slice s2 B.os.length t2) (.slice s3 B.gold.length t3) (.slice s4 B.us.length t4) (.slice s5 B.qs.length t5) ((w.alloc (Obj.cells #[.int .i64 A.turn, .int .i64 A.next, .int .i64 A.wide, .int .i64 A.high, .slice p1 A.gs.length q1, .slice p2 A.os.length q2, .slice p3 A.gold.length q3, .slice p4 A.us.length q4, .slice p5 A.qs.length q5] 29)).alloc (Obj.cells #[.int .i64 B.turn, .int .i64 B.next, .int .i64 B.wide, .int .i64 B.high, .slice s1 B.gs.length t1, .slice s2 B.os.length t2, .slice s3 B.gold.length t3, .slice s4 B.us.length t4, .slice s5 B.qs.length t5] 29))) := ⟨a1.below b2 a1.lt, a2, b1.trans (b2.mono (by omega))⟩
  clear b1 b2 e1 a1 a2
  go_enter Tryz.func4, Tryz.ntmps4
  go_upto_region 1 with fail
  (try rw [hz])
  clear hz
  generalize ((w.alloc (Obj.cells #[.int .i64 A.turn, .int .i64 A.next, .int .i64 A.wide, .int .i64 A.high, .slice p1 A.gs.length q1, .slice p2 A.os.length q2, .slice p3 A.gold.length q3, .slice p4 A.us.length q4, .slice p5 A.qs.length q5] 29)).alloc (Obj.cells #[.int .i64 B.turn, .int .i64 B.next, .int .i64 B.wide, .int .i64 B.high, .slice s1 B.gs.length t1, .slice s2 B.os.length t2, .slice s3 B.gold.length t3, .slice s4 B.us.length t4, .slice s5 B.qs.length t5] 29)) = w0 at *
  go_wp2_with fail
  refine (runpack_any _ c w0 (CC.out.below AL0.out.2.2)).mono ?_
  rintro e w1 ⟨u1, n1, ok, rfl, b1, hs1⟩
  have AL1 : Hid (Al w z A B (.slice p1 A.gs.length q1) (.slice p2 A.os.length q2) (.slice p3 A.gold.length q3) (.slice p4 A.us.length q4) (.slice p5 A.qs.length q5) (.slice s1 B.gs.length t1) (.slice s2 B.os.length t2) (.slice s3 B.gold.length t3) (.slice s4 B.us.length t4) (.slice s5 B.qs.length t5) w1) := AL0.out.below b1
  have S1 : Hid ((ok = true ∧ ∃ ls a, Fe.unpack c = some (ls, a) ∧ n1 = ((a : Nat) : Int) ∧ Cho w1 w0.heap.size u1 ls) ∨ (ok = false ∧ Fe.unpack c = none ∧ n1 = 0 ∧ u1 = .slice none 0 0)) := hs1
  obtain ⟨a1', m1, c1', rfl⟩ : ∃ a n c, u1 = .slice a n c := by
    rcases hs1 with ⟨-, ls, a, -, -, h⟩ | ⟨-, -, -, h⟩
    · obtain ⟨x, y, e⟩ := h.len; exact ⟨x, _, y, e⟩
    · exact ⟨_, _, _, h⟩
  clear b1 hs1 AL0
  obtain ⟨E0, hE0⟩ : ∃ E0 : Int, (if ok then (0 : Int) else 9) = E0 := ⟨_, rfl⟩
  have HE0 : Hid ((if ok then (0 : Int) else 9) = E0) := hE0
  clear hE0
  go_upto_if 31 with fail
  go_cut [14] (fun v14 V => v14 = .int .i64 E0 ∧ V = w1)
  case first =>
    cases ok
    · have e9 : E0 = 9 := HE0.out.symm
      subst e9
      go_wp2_with fail
      go_meet
      case rel => exact ⟨rfl, rfl⟩
    · have e9 : E0 = 0 := HE0.out.symm
      subst e9
      go_wp2_with fail
      go_meet
      case rel => exact ⟨rfl, rfl⟩
  obtain ⟨rfl, rfl⟩ := hcut
  go_wp2_with fail
  refine (Unpack_any _ c wc (CC.out.below AL1.out.2.2)).mono ?_
  rintro e w2 ⟨u2, n2, r2, rfl, hs2, b2⟩
  have AL2 : Hid (Al w z A B (.slice p1 A.gs.length q1) (.slice p2 A.os.length q2) (.slice p3 A.gold.length q3) (.slice p4 A.us.length q4) (.slice p5 A.qs.length q5) (.slice s1 B.gs.length t1) (.slice s2 B.os.length t2) (.slice s3 B.gold.length t3) (.slice s4 B.us.length t4) (.slice s5 B.qs.length t5) w2) := AL1.out.below b2
  obtain ⟨ls, ER2, LK, rfl⟩ : ∃ ls, Er r2 E0 ∧ (Chl w2 u2 ls ∧ Chl w2 (.slice a1' m1 c1') ls) ∧ n2 = .int .i64 n1 := by
    rcases S1.out with ⟨hok, ls, a, h1, rfl, h3⟩ | ⟨hok, h1, rfl, h3⟩
    · rcases hs2 with ⟨k1, -⟩ | ⟨ls', a', k1, rfl, rfl, k4⟩
      · rw [h1] at k1; cases k1
      · rw [h1] at k1
        injection k1 with k1
        injection k1 with k1 k2
        subst k1 k2
        exact ⟨ls, by rw [← HE0.out, hok]; exact Er.nil, ⟨k4.l, (h3.below b2).l⟩, rfl⟩
    · rcases hs2 with ⟨k1, rfl, rfl, k4⟩ | ⟨ls', a', k1, -⟩
      · exact ⟨[], by rw [← HE0.out, hok]; exact k4, ⟨chl_nil _, by rw [h3]; exact chl_nil _⟩, rfl⟩
      · rw [h1] at k1; cases k1
  have ER : Hid (Er r2 E0) := ER2
  have LS : Hid (Chl w2 u2 ls ∧ Chl w2 (.slice a1' m1 c1') ls) := LK
  obtain ⟨a2', c2', rfl, -⟩ := LK.1
  clear hs2 b2 ER2 LK AL1 S1
  go_wp2_with fail
  refine (er_same r2 E0 w2 ER.out (ET.out.below AL2.out.2.2)).mono ?_
  rintro e w3 ⟨rfl, b3⟩
  have AL3 : Hid (Al w z A B (.slice p1 A.gs.length q1) (.slice p2 A.os.length q2) (.slice p3 A.gold.length q3) (.slice p4 A.us.length q4) (.slice p5 A.qs.length q5) (.slice s1 B.gs.length t1) (.slice s2 B.os.length t2) (.slice s3 B.gold.length t3) (.slice s4 B.us.length t4) (.slice s5 B.qs.length t5) w3) := AL2.out.below b3
  have LS3 : Hid (Chl w3 (.slice a2' ls.length c2') ls ∧ Chl w3 (.slice a1' m1 c1') ls) := ⟨LS.out.1.below b3, LS.out.2.below b3⟩
  clear b3 AL2 LS ER
  go_wp2_with fail
  refine (changes_like _ _ ls w3 LS3.out.1 LS3.out.2).mono ?_
  rintro e w4 ⟨rfl, b4⟩
  have AL4 : Hid (Al w z A B (.slice p1 A.gs.length q1) (.slice p2 A.os.length q2) (.slice p3 A.gold.length q3) (.slice p4 A.us.length q4) (.slice p5 A.qs.length q5) (.slice s1 B.gs.length t1) (.slice s2 B.os.length t2) (.slice s3 B.gold.length t3) (.slice s4 B.us.length t4) (.slice s5 B.qs.length t5) w4) := AL3.out.below b4
  clear b4 AL3 LS3
  obtain ⟨x0, x1, x2, x3, x4, x5, x6, x7, x8⟩ := AL4.out.1
  go_wp2_with fail
  refine (rcheck_any _ _ ks A w4 (K.out.1.below AL4.out.2.2) K.out.2 (HA.out.below AL4.out.2.2)).mono ?_
  rintro e w5 ⟨ea, rfl, hea, b5⟩
  have AL5 : Hid (Al w z A B (.slice p1 A.gs.length q1) (.slice p2 A.os.length q2) (.slice p3 A.gold.length q3) (.slice p4 A.us.length q4) (.slice p5 A.qs.length q5) (.slice s1 B.gs.length t1) (.slice s2 B.os.length t2) (.slice s3 B.gold.length t3) (.slice s4 B.us.length t4) (.slice s5 B.qs.length t5) w5) := AL4.out.below b5
  have EA : Hid (ea = Wd.wfault ks A) := hea
  clear b5 hea x0 x1 x2 x3 x4 x5 x6 x7 x8 AL4
  obtain ⟨x0, x1, x2, x3, x4, x5, x6, x7, x8⟩ := AL5.out.1
  obtain ⟨y0, y1, y2, y3, y4, y5, y6, y7, y8⟩ := AL5.out.2.1
  have ND : Hid (∀ V, Al w z A B (.slice p1 A.gs.length q1) (.slice p2 A.os.length q2) (.slice p3 A.gold.length q3) (.slice p4 A.us.length q4) (.slice p5 A.qs.length q5) (.slice s1 B.gs.length t1) (.slice s2 B.os.length t2) (.slice s3 B.gold.length t3) (.slice s4 B.us.length t4) (.slice s5 B.qs.length t5) V → Calls Tryz.prog 22 #[.slice pk ks.length qk, .agg #[.int .i64 A.turn, .int .i64 A.next, .int .i64 A.wide, .int .i64 A.high, .slice p1 A.gs.length q1, .slice p2 A.os.length q2, .slice p3 A.gold.length q3, .slice p4 A.us.length q4, .slice p5 A.qs.length q5], .agg #[.int .i64 B.turn, .int .i64 B.next, .int .i64 B.wide, .int .i64 B.high, .slice s1 B.gs.length t1, .slice s2 B.os.length t2, .slice s3 B.gold.length t3, .slice s4 B.us.length t4, .slice s5 B.qs.length t5], .int .i64 p] V fun e w' => ∃ v r, e = .returned (.tuple #[v, r]) ∧ NewsSays ks A B p V w' v r ∧ Below V.heap.size V w') := fun V hV => News_any _ _ _ ks A B p V (K.out.1.below hV.2.2) K.out.2 (HA.out.below hV.2.2) (HB.out.below hV.2.2)
  by_cases fa : pfault ks A p = 0
  case neg =>
    have PA : Hid (pfault ks A p ≠ 0) := fa
    obtain ⟨F, hF⟩ : ∃ F, pfault ks A p = F := ⟨_, rfl⟩
    have HF : Hid (pfault ks A p = F ∧ F ≠ 0) := ⟨hF, by rw [← hF]; exact fa⟩
    have DD : (ea ≠ 0 ∧ F = ea) ∨ (ea = 0 ∧ F = 1 ∧ p < 0) ∨ (ea = 0 ∧ F = 1 ∧ ¬ p < 0 ∧ (A.gold.length : Int) ≤ p) := by
      unfold pfault at hF
      rw [← EA.out] at hF
      by_cases h : ea = 0
      · rw [if_pos h] at hF
        by_cases hp : 0 ≤ p ∧ p < (A.gold.length : Int)
        · rw [if_pos hp] at hF; exact absurd hF.symm HF.out.2
        · rw [if_neg hp] at hF
          by_cases h2 : p < 0
          · exact .inr (.inl ⟨h, hF.symm, h2⟩)
          · exact .inr (.inr ⟨h, hF.symm, h2, by omega⟩)
      · rw [if_neg h] at hF
        exact .inl ⟨h, hF.symm⟩
    clear hF fa
    rcases DD with ⟨d1, d3⟩ | ⟨d3, d4, d1⟩ | ⟨d3, d4, d1, d2⟩
    · subst d3
      have d1b : (F == 0) = false := beq_eq_false_iff_ne.2 d1
      go_wp2_with fail
      refine (ND.out w5 AL5.out).mono ?_
      rintro e w16 ⟨v6, r6, rfl, hs6, b6⟩
      have AL16 : Hid (Al w z A B (.slice p1 A.gs.length q1) (.slice p2 A.os.length q2) (.slice p3 A.gold.length q3) (.slice p4 A.us.length q4) (.slice p5 A.qs.length q5) (.slice s1 B.gs.length t1) (.slice s2 B.os.length t2) (.slice s3 B.gold.length t3) (.slice s4 B.us.length t4) (.slice s5 B.qs.length t5) w16) := AL5.out.below b6
      obtain ⟨rfl, er6⟩ : v6 = .slice none 0 0 ∧ Er r6 F := by
        rw [← HF.out.1]
        rcases hs6 with ⟨-, h1, h2⟩ | ⟨h, -⟩ | ⟨h, -⟩
        · exact ⟨h1, h2⟩
        · exact absurd h PA.out
        · exact absurd h PA.out
      have E6 : Hid (Er r6 F) := er6
      clear hs6 b6 er6 x0 x1 x2 x3 x4 x5 x6 x7 x8 y0 y1 y2 y3 y4 y5 y6 y7 y8
      go_wp2_with fail
      refine (er_same r6 F w16 E6.out (ET.out.below AL16.out.2.2)).mono ?_
      rintro e w17 ⟨rfl, b7⟩
      have AL17 : Hid (Al w z A B (.slice p1 A.gs.length q1) (.slice p2 A.os.length q2) (.slice p3 A.gold.length q3) (.slice p4 A.us.length q4) (.slice p5 A.qs.length q5) (.slice s1 B.gs.length t1) (.slice s2 B.os.length t2) (.slice s3 B.gold.length t3) (.slice s4 B.us.length t4) (.slice s5 B.qs.length t5) w17) := AL16.out.below b7
      clear b7
      go_wp2_with fail
      refine (changes_like _ _ [] w17 (chl_nil _) (chl_nil _)).mono ?_
      rintro e w18 ⟨rfl, b8⟩
      have FIN : Hid (Below w.heap.size w w18) := (AL17.out.below b8).2.2
      clear b8
      go_wp2
      go_ret
      exact ⟨rfl, FIN.out⟩
    · subst d3
      subst d4
      go_wp2_with fail
      refine (ND.out w5 AL5.out).mono ?_
      rintro e w16 ⟨v6, r6, rfl, hs6, b6⟩
      have AL16 : Hid (Al w z A B (.slice p1 A.gs.length q1) (.slice p2 A.os.length q2) (.slice p3 A.gold.length q3) (.slice p4 A.us.length q4) (.slice p5 A.qs.length q5) (.slice s1 B.gs.length t1) (.slice s2 B.os.length t2) (.slice s3 B.gold.length t3) (.slice s4 B.us.length t4) (.slice s5 B.qs.length t5) w16) := AL5.out.below b6
      obtain ⟨rfl, er6⟩ : v6 = .slice none 0 0 ∧ Er r6 1 := by
        rw [← HF.out.1]
        rcases hs6 with ⟨-, h1, h2⟩ | ⟨h, -⟩ | ⟨h, -⟩
        · exact ⟨h1, h2⟩
        · exact absurd h PA.out
        · exact absurd h PA.out
      have E6 : Hid (Er r6 1) := er6
      clear hs6 b6 er6 x0 x1 x2 x3 x4 x5 x6 x7 x8 y0 y1 y2 y3 y4 y5 y6 y7 y8
      go_wp2_with fail
      refine (er_same r6 1 w16 E6.out (ET.out.below AL16.out.2.2)).mono ?_
      rintro e w17 ⟨rfl, b7⟩
      have AL17 : Hid (Al w z A B (.slice p1 A.gs.length q1) (.slice p2 A.os.length q2) (.slice p3 A.gold.length q3) (.slice p4 A.us.length q4) (.slice p5 A.qs.length q5) (.slice s1 B.gs.length t1) (.slice s2 B.os.length t2) (.slice s3 B.gold.length t3) (.slice s4 B.us.length t4) (.slice s5 B.qs.length t5) w17) := AL16.out.below b7
      clear b7
      go_wp2_with fail
      refine (changes_like _ _ [] w17 (chl_nil _) (chl_nil _)).mono ?_
      rintro e w18 ⟨rfl, b8⟩
      have FIN : Hid (Below w.heap.size w w18) := (AL17.out.below b8).2.2
      clear b8
      go_wp2
      go_ret
      exact ⟨rfl, FIN.out⟩
    · subst d3
      subst d4
      go_wp2_with fail
      refine (ND.out w5 AL5.out).mono ?_
      rintro e w16 ⟨v6, r6, rfl, hs6, b6⟩
      have AL16 : Hid (Al w z A B (.slice p1 A.gs.length q1) (.slice p2 A.os.length q2) (.slice p3 A.gold.length q3) (.slice p4 A.us.length q4) (.slice p5 A.qs.length q5) (.slice s1 B.gs.length t1) (.slice s2 B.os.length t2) (.slice s3 B.gold.length t3) (.slice s4 B.us.length t4) (.slice s5 B.qs.length t5) w16) := AL5.out.below b6
      obtain ⟨rfl, er6⟩ : v6 = .slice none 0 0 ∧ Er r6 1 := by
        rw [← HF.out.1]
        rcases hs6 with ⟨-, h1, h2⟩ | ⟨h, -⟩ | ⟨h, -⟩
        · exact ⟨h1, h2⟩
        · exact absurd h PA.out
        · exact absurd h PA.out
      have E6 : Hid (Er r6 1) := er6
      clear hs6 b6 er6 x0 x1 x2 x3 x4 x5 x6 x7 x8 y0 y1 y2 y3 y4 y5 y6 y7 y8
      go_wp2_with fail
      refine (er_same r6 1 w16 E6.out (ET.out.below AL16.out.2.2)).mono ?_
      rintro e w17 ⟨rfl, b7⟩
      have AL17 : Hid (Al w z A B (.slice p1 A.gs.length q1) (.slice p2 A.os.length q2) (.slice p3 A.gold.length q3) (.slice p4 A.us.length q4) (.slice p5 A.qs.length q5) (.slice s1 B.gs.length t1) (.slice s2 B.os.length t2) (.slice s3 B.gold.length t3) (.slice s4 B.us.length t4) (.slice s5 B.qs.length t5) w17) := AL16.out.below b7
      clear b7
      go_wp2_with fail
      refine (changes_like _ _ [] w17 (chl_nil _) (chl_nil _)).mono ?_
      rintro e w18 ⟨rfl, b8⟩
      have FIN : Hid (Below w.heap.size w w18) := (AL17.out.below b8).2.2
      clear b8
      go_wp2
      go_ret
      exact ⟨rfl, FIN.out⟩
  have PA0 : Hid (pfault ks A p = 0) := fa
  obtain ⟨ha0, hp0, hp1⟩ := pfault_zero fa
  have PP : Hid (¬ p < 0) := by unfold Hid; omega
  have hp0' : ¬ p < 0 := PP.out
  have ea0 : ea = 0 := by rw [EA.out]; exact ha0
  subst ea0
  clear fa ha0 hp0
  go_wp2_with fail
  refine (rcheck_any _ _ ks B w5 (K.out.1.below AL5.out.2.2) K.out.2 (HB.out.below AL5.out.2.2)).mono ?_
  rintro e w6 ⟨eb, rfl, heb, b6⟩
  have AL6 : Hid (Al w z A B (.slice p1 A.gs.length q1) (.slice p2 A.os.length q2) (.slice p3 A.gold.length q3) (.slice p4 A.us.length q4) (.slice p5 A.qs.length q5) (.slice s1 B.gs.length t1) (.slice s2 B.os.length t2) (.slice s3 B.gold.length t3) (.slice s4 B.us.length t4) (.slice s5 B.qs.length t5) w6) := AL5.out.below b6
  have EB : Hid (eb = Wd.wfault ks B) := heb
  clear b6 heb x0 x1 x2 x3 x4 x5 x6 x7 x8 y0 y1 y2 y3 y4 y5 y6 y7 y8 AL5
  obtain ⟨x0, x1, x2, x3, x4, x5, x6, x7, x8⟩ := AL6.out.1
  obtain ⟨y0, y1, y2, y3, y4, y5, y6, y7, y8⟩ := AL6.out.2.1
  by_cases fb : pfault ks B p = 0
  case neg =>
    have PB : Hid (pfault ks B p ≠ 0) := fb
    obtain ⟨F, hF⟩ : ∃ F, pfault ks B p = F := ⟨_, rfl⟩
    have HF : Hid (pfault ks B p = F ∧ F ≠ 0) := ⟨hF, by rw [← hF]; exact fb⟩
    have DD : (eb ≠ 0 ∧ F = eb) ∨ (eb = 0 ∧ F = 1 ∧ p < 0) ∨ (eb = 0 ∧ F = 1 ∧ ¬ p < 0 ∧ (B.gold.length : Int) ≤ p) := by
      unfold pfault at hF
      rw [← EB.out] at hF
      by_cases h : eb = 0
      · rw [if_pos h] at hF
        by_cases hp : 0 ≤ p ∧ p < (B.gold.length : Int)
        · rw [if_pos hp] at hF; exact absurd hF.symm HF.out.2
        · rw [if_neg hp] at hF
          by_cases h2 : p < 0
          · exact .inr (.inl ⟨h, hF.symm, h2⟩)
          · exact .inr (.inr ⟨h, hF.symm, h2, by omega⟩)
      · rw [if_neg h] at hF
        exact .inl ⟨h, hF.symm⟩
    clear hF fb
    rcases DD with ⟨d1, d3⟩ | ⟨d3, d4, d1⟩ | ⟨d3, d4, d1, d2⟩
    · subst d3
      have d1b : (F == 0) = false := beq_eq_false_iff_ne.2 d1
      go_wp2_with fail
      refine (ND.out w6 AL6.out).mono ?_
      rintro e w16 ⟨v6, r6, rfl, hs6, b6⟩
      have AL16 : Hid (Al w z A B (.slice p1 A.gs.length q1) (.slice p2 A.os.length q2) (.slice p3 A.gold.length q3) (.slice p4 A.us.length q4) (.slice p5 A.qs.length q5) (.slice s1 B.gs.length t1) (.slice s2 B.os.length t2) (.slice s3 B.gold.length t3) (.slice s4 B.us.length t4) (.slice s5 B.qs.length t5) w16) := AL6.out.below b6
      obtain ⟨rfl, er6⟩ : v6 = .slice none 0 0 ∧ Er r6 F := by
        rw [← HF.out.1]
        rcases hs6 with ⟨h, -⟩ | ⟨-, -, h1, h2⟩ | ⟨-, h, -⟩
        · exact absurd PA0.out h
        · exact ⟨h1, h2⟩
        · exact absurd h PB.out
      have E6 : Hid (Er r6 F) := er6
      clear hs6 b6 er6 x0 x1 x2 x3 x4 x5 x6 x7 x8 y0 y1 y2 y3 y4 y5 y6 y7 y8
      go_wp2_with fail
      refine (er_same r6 F w16 E6.out (ET.out.below AL16.out.2.2)).mono ?_
      rintro e w17 ⟨rfl, b7⟩
      have AL17 : Hid (Al w z A B (.slice p1 A.gs.length q1) (.slice p2 A.os.length q2) (.slice p3 A.gold.length q3) (.slice p4 A.us.length q4) (.slice p5 A.qs.length q5) (.slice s1 B.gs.length t1) (.slice s2 B.os.length t2) (.slice s3 B.gold.length t3) (.slice s4 B.us.length t4) (.slice s5 B.qs.length t5) w17) := AL16.out.below b7
      clear b7
      go_wp2_with fail
      refine (changes_like _ _ [] w17 (chl_nil _) (chl_nil _)).mono ?_
      rintro e w18 ⟨rfl, b8⟩
      have FIN : Hid (Below w.heap.size w w18) := (AL17.out.below b8).2.2
      clear b8
      go_wp2
      go_ret
      exact ⟨rfl, FIN.out⟩
    · exact absurd d1 (by have h9 := PP.out; omega)
    · subst d3
      subst d4
      go_wp2_with fail
      refine (ND.out w6 AL6.out).mono ?_
      rintro e w16 ⟨v6, r6, rfl, hs6, b6⟩
      have AL16 : Hid (Al w z A B (.slice p1 A.gs.length q1) (.slice p2 A.os.length q2) (.slice p3 A.gold.length q3) (.slice p4 A.us.length q4) (.slice p5 A.qs.length q5) (.slice s1 B.gs.length t1) (.slice s2 B.os.length t2) (.slice s3 B.gold.length t3) (.slice s4 B.us.length t4) (.slice s5 B.qs.length t5) w16) := AL6.out.below b6
      obtain ⟨rfl, er6⟩ : v6 = .slice none 0 0 ∧ Er r6 1 := by
        rw [← HF.out.1]
        rcases hs6 with ⟨h, -⟩ | ⟨-, -, h1, h2⟩ | ⟨-, h, -⟩
        · exact absurd PA0.out h
        · exact ⟨h1, h2⟩
        · exact absurd h PB.out
      have E6 : Hid (Er r6 1) := er6
      clear hs6 b6 er6 x0 x1 x2 x3 x4 x5 x6 x7 x8 y0 y1 y2 y3 y4 y5 y6 y7 y8
      go_wp2_with fail
      refine (er_same r6 1 w16 E6.out (ET.out.below AL16.out.2.2)).mono ?_
      rintro e w17 ⟨rfl, b7⟩
      have AL17 : Hid (Al w z A B (.slice p1 A.gs.length q1) (.slice p2 A.os.length q2) (.slice p3 A.gold.length q3) (.slice p4 A.us.length q4) (.slice p5 A.qs.length q5) (.slice s1 B.gs.length t1) (.slice s2 B.os.length t2) (.slice s3 B.gold.length t3) (.slice s4 B.us.length t4) (.slice s5 B.qs.length t5) w17) := AL16.out.below b7
      clear b7
      go_wp2_with fail
      refine (changes_like _ _ [] w17 (chl_nil _) (chl_nil _)).mono ?_
      rintro e w18 ⟨rfl, b8⟩
      have FIN : Hid (Below w.heap.size w w18) := (AL17.out.below b8).2.2
      clear b8
      go_wp2
      go_ret
      exact ⟨rfl, FIN.out⟩
  have PB0 : Hid (pfault ks B p = 0) := fb
  obtain ⟨hb0, -, hp2⟩ := pfault_zero fb
  have hp2' : ¬ (B.gold.length : Int) ≤ p := by omega
  have eb0 : eb = 0 := by rw [EB.out]; exact hb0
  subst eb0
  clear fb hb0
  have RA : Hid (WRight ks A ∧ WRight ks B) := ⟨wright_of (pfault_zero PA0.out).1, wright_of (pfault_zero PB0.out).1⟩
  obtain ⟨Wa, Ha, ewa, -, -⟩ := RA.out.1.good
  obtain ⟨Wb, Hb, ewb, -, -⟩ := RA.out.2.good
  have WW : Hid (A.wide = (Wa : Nat) ∧ B.wide = (Wb : Nat)) := ⟨ewa, ewb⟩
  clear ewa ewb
  go_wp2_with fail
  refine (rview_any _ _ ks A p Wa w6 RA.out.1 WW.out.1 (K.out.1.below AL6.out.2.2) (HA.out.below AL6.out.2.2)).mono ?_
  rintro e w7 ⟨v7, rfl, hwo, b7⟩
  have AL7 : Hid (Al w z A B (.slice p1 A.gs.length q1) (.slice p2 A.os.length q2) (.slice p3 A.gold.length q3) (.slice p4 A.us.length q4) (.slice p5 A.qs.length q5) (.slice s1 B.gs.length t1) (.slice s2 B.os.length t2) (.slice s3 B.gold.length t3) (.slice s4 B.us.length t4) (.slice s5 B.qs.length t5) w7) := AL6.out.below b7
  have LV7 : Hid (Wl w7 v7 (viewOf ks Wa A p)) := hwo.l
  obtain ⟨g1, j1, g2, j2, g3, j3, g4, j4, g5, j5, rfl⟩ := wl_shape9 hwo.l
  clear hwo b7 x0 x1 x2 x3 x4 x5 x6 x7 x8 y0 y1 y2 y3 y4 y5 y6 y7 y8 AL6
  go_wp2_with fail
  refine (rencode_any _ (viewOf ks Wa A p) w7 LV7.out (wsmall_of (wok_view Wa PA0.out)) (wok_view Wa PA0.out).in_).mono ?_
  rintro e w8 ⟨u8, rfl, ho8, b8⟩
  have AL8 : Hid (Al w z A B (.slice p1 A.gs.length q1) (.slice p2 A.os.length q2) (.slice p3 A.gold.length q3) (.slice p4 A.us.length q4) (.slice p5 A.qs.length q5) (.slice s1 B.gs.length t1) (.slice s2 B.os.length t2) (.slice s3 B.gold.length t3) (.slice s4 B.us.length t4) (.slice s5 B.qs.length t5) w8) := AL7.out.below b8
  have BY8 : Hid (By w8 u8 (Wd.enc (viewOf ks Wa A p))) := Ob.by_ ho8
  clear ho8 b8 AL7 LV7
  obtain ⟨y0, y1, y2, y3, y4, y5, y6, y7, y8⟩ := AL8.out.2.1
  go_wp2_with fail
  refine (rview_any _ _ ks B p Wb w8 RA.out.2 WW.out.2 (K.out.1.below AL8.out.2.2) (HB.out.below AL8.out.2.2)).mono ?_
  rintro e w9 ⟨v9, rfl, hwo, b9⟩
  have AL9 : Hid (Al w z A B (.slice p1 A.gs.length q1) (.slice p2 A.os.length q2) (.slice p3 A.gold.length q3) (.slice p4 A.us.length q4) (.slice p5 A.qs.length q5) (.slice s1 B.gs.length t1) (.slice s2 B.os.length t2) (.slice s3 B.gold.length t3) (.slice s4 B.us.length t4) (.slice s5 B.qs.length t5) w9) := AL8.out.below b9
  have LV9 : Hid (Wl w9 v9 (viewOf ks Wb B p)) := hwo.l
  have BY9 : Hid (By w9 u8 (Wd.enc (viewOf ks Wa A p))) := BY8.out.below b9
  obtain ⟨h1, i1, h2, i2, h3, i3, h4, i4, h5, i5, rfl⟩ := wl_shape9 hwo.l
  clear hwo b9 y0 y1 y2 y3 y4 y5 y6 y7 y8 AL8 BY8
  go_wp2_with fail
  refine (rencode_any _ (viewOf ks Wb B p) w9 LV9.out (wsmall_of (wok_view Wb PB0.out)) (wok_view Wb PB0.out).in_).mono ?_
  rintro e w10 ⟨u10, rfl, ho10, b10⟩
  have AL10 : Hid (Al w z A B (.slice p1 A.gs.length q1) (.slice p2 A.os.length q2) (.slice p3 A.gold.length q3) (.slice p4 A.us.length q4) (.slice p5 A.qs.length q5) (.slice s1 B.gs.length t1) (.slice s2 B.os.length t2) (.slice s3 B.gold.length t3) (.slice s4 B.us.length t4) (.slice s5 B.qs.length t5) w10) := AL9.out.below b10
  have BYA : Hid (By w10 u8 (Wd.enc (viewOf ks Wa A p)) ∧ By w10 u10 (Wd.enc (viewOf ks Wb B p))) := ⟨BY9.out.below b10, Ob.by_ ho10⟩
  obtain ⟨k8, m8, rfl, -⟩ := BYA.out.1
  obtain ⟨k10, m10, rfl, -⟩ := BYA.out.2
  clear ho10 b10 AL9 LV9 BY9
  go_wp2_with fail
  refine (rDiff_any _ _ _ _ w10 BYA.out.1 BYA.out.2).mono ?_
  rintro e w11 ⟨v11, r11, rfl, hs11, b11⟩
  have AL11 : Hid (Al w z A B (.slice p1 A.gs.length q1) (.slice p2 A.os.length q2) (.slice p3 A.gold.length q3) (.slice p4 A.us.length q4) (.slice p5 A.qs.length q5) (.slice s1 B.gs.length t1) (.slice s2 B.os.length t2) (.slice s3 B.gold.length t3) (.slice s4 B.us.length t4) (.slice s5 B.qs.length t5) w11) := AL10.out.below b11
  obtain ⟨DL, DE, hcl, rfl, hsay⟩ : ∃ (DL : List ChV) (DE : Int), Chl w11 v11 DL ∧ r11 = .int .i64 DE ∧ (((6000 < (Wd.enc (viewOf ks Wa A p)).length ∨ 6000 < (Wd.enc (viewOf ks Wb B p)).length) ∧ DL = [] ∧ DE = 4) ∨ ((Wd.enc (viewOf ks Wa A p)).length ≤ 6000 ∧ (Wd.enc (viewOf ks Wb B p)).length ≤ 6000 ∧ DL = Fe.diff (Wd.enc (viewOf ks Wa A p)) (Wd.enc (viewOf ks Wb B p)) ∧ DE = 0)) := by
    rcases hs11 with ⟨h, rfl, rfl⟩ | ⟨h1, h2, rfl, h4⟩
    · exact ⟨[], 4, chl_nil _, rfl, .inl ⟨h, rfl, rfl⟩⟩
    · exact ⟨_, 0, h4.l, rfl, .inr ⟨h1, h2, rfl, rfl⟩⟩
  have DS : Hid (Chl w11 v11 DL ∧ (((6000 < (Wd.enc (viewOf ks Wa A p)).length ∨ 6000 < (Wd.enc (viewOf ks Wb B p)).length) ∧ DL = [] ∧ DE = 4) ∨ ((Wd.enc (viewOf ks Wa A p)).length ≤ 6000 ∧ (Wd.enc (viewOf ks Wb B p)).length ≤ 6000 ∧ DL = Fe.diff (Wd.enc (viewOf ks Wa A p)) (Wd.enc (viewOf ks Wb B p)) ∧ DE = 0))) := ⟨hcl, hsay⟩
  obtain ⟨k11, m11, rfl, -⟩ := hcl
  clear hs11 b11 AL10 BYA hsay
  obtain ⟨x0, x1, x2, x3, x4, x5, x6, x7, x8⟩ := AL11.out.1
  obtain ⟨y0, y1, y2, y3, y4, y5, y6, y7, y8⟩ := AL11.out.2.1
  go_wp2_with fail
  refine (ND.out w11 AL11.out).mono ?_
  rintro e w12 ⟨v12, r12, rfl, hs12, b12⟩
  have AL12 : Hid (Al w z A B (.slice p1 A.gs.length q1) (.slice p2 A.os.length q2) (.slice p3 A.gold.length q3) (.slice p4 A.us.length q4) (.slice p5 A.qs.length q5) (.slice s1 B.gs.length t1) (.slice s2 B.os.length t2) (.slice s3 B.gold.length t3) (.slice s4 B.us.length t4) (.slice s5 B.qs.length t5) w12) := AL11.out.below b12
  obtain ⟨er12, cl12⟩ : Er r12 DE ∧ Chl w12 v12 DL := by
    rcases hs12 with ⟨h, -⟩ | ⟨-, h, -⟩ | ⟨-, -, Wa', Wb', f1, f2, f3⟩
    · exact absurd PA0.out h
    · exact absurd PB0.out h
    · obtain rfl : Wa' = Wa := by have h := WW.out.1; rw [f1] at h; omega
      obtain rfl : Wb' = Wb := by have h := WW.out.2; rw [f2] at h; omega
      rcases DS.out.2 with ⟨d1, rfl, rfl⟩ | ⟨d1, d2, rfl, rfl⟩
      · rcases f3 with ⟨-, rfl, g3⟩ | ⟨g1', g2', -⟩
        · exact ⟨g3, chl_nil _⟩
        · omega
      · rcases f3 with ⟨g1', -⟩ | ⟨-, -, rfl, g4'⟩
        · omega
        · exact ⟨Er.nil, g4'.l⟩
  have E12 : Hid (Er r12 DE) := er12
  have L12 : Hid (Chl w12 v12 DL ∧ Chl w12 (.slice k11 DL.length m11) DL) := ⟨cl12, DS.out.1.below b12⟩
  obtain ⟨k12, m12, rfl, -⟩ := cl12
  clear hs12 b12 er12 x0 x1 x2 x3 x4 x5 x6 x7 x8 y0 y1 y2 y3 y4 y5 y6 y7 y8 AL11 DS
  go_wp2_with fail
  refine (er_same r12 DE w12 E12.out (ET.out.below AL12.out.2.2)).mono ?_
  rintro e w13 ⟨rfl, b13⟩
  have AL13 : Hid (Al w z A B (.slice p1 A.gs.length q1) (.slice p2 A.os.length q2) (.slice p3 A.gold.length q3) (.slice p4 A.us.length q4) (.slice p5 A.qs.length q5) (.slice s1 B.gs.length t1) (.slice s2 B.os.length t2) (.slice s3 B.gold.length t3) (.slice s4 B.us.length t4) (.slice s5 B.qs.length t5) w13) := AL12.out.below b13
  have L13 : Hid (Chl w13 (.slice k12 DL.length m12) DL ∧ Chl w13 (.slice k11 DL.length m11) DL) := ⟨L12.out.1.below b13, L12.out.2.below b13⟩
  clear b13 AL12 L12
  go_wp2_with fail
  refine (changes_like _ _ DL w13 L13.out.1 L13.out.2).mono ?_
  rintro e w14 ⟨rfl, b14⟩
  have FIN : Hid (Below w.heap.size w w14) := (AL13.out.below b14).2.2
  clear b14
  go_wp2
  go_ret
  exact ⟨rfl, FIN.out⟩
end Go.Proofs.YtkejdkajfnaieaaGreatDoor.feedReads

