/- What plain.Told and marchsame.Error answer of nil, and of an Errno: errors.As is walked at the target *api.Errno. · An error that is told is the reference's. · Lists of integers: what marchsame.Ints answers. · What marchsame.Field answers of two fields that are the same. -/
import Derived.Test.YtagnjmellcibhaaGreatDoorRows
import Derived.WalkKit
import Derived.WalkSpells
import Derived.WalkLawsBesides
import Derived.LaidEql
import Derived.Stop.Asserts
import Derived.RowKitTokens
import Derived.Test.YtagnjmellcibhaaGreatDoorZFightStrikes2
import Derived.Test.YtagnjmellcibhaaGreatDoorZFightStrikes1
import Derived.Test.YtagnjmellcibhaaGreatDoorZFightStrikes3
namespace Go.Proofs.YtagnjmellcibhaaGreatDoor
open Go.RowKit Go.Extern.Stop Go.Stop Go.Extern

/-- the cell of errors.errorType. -/
def Et (w : World) : Prop := w.cell? ⟨0, 0, none⟩ = some (.iface 144 (.agg #[.pointer (some ⟨2, 35, none⟩)]))

theorem Et.lt {w : World} (h : Et w) : 0 < w.heap.size := by
  rcases Nat.lt_or_ge 0 w.heap.size with h1 | h1
  · exact h1
  · unfold Et at h
    simp [World.cell?, Array.getElem?_eq_none h1] at h
theorem Et.below {w w' : World} (h : Et w) (hb : Below w.heap.size w w') : Et w' := by
  unfold Et
  rw [hb.cell (p := ⟨0, 0, none⟩) h.lt]
  exact h
theorem Et.alloc {w : World} (h : Et w) (o : Obj) : Et (w.alloc o) := h.below ((Below.refl _ _).alloc (Nat.le_refl _) _)
theorem Et.drew {w : World} (h : Et w) : Et w.drew := h.below (Below.refl _ _).drew

theorem tk_valueOfP (t : Addr) (w : World) : (ReflectliteValue.unpack (.iface 97 (.pointer (some t)))).run Tryz.prog w
    = .ok (.agg #[.pointer (some ⟨2, 97, none⟩), .pointer (some ⟨w.heap.size, 0, none⟩), .int .u64 150]) (w.alloc (.cells #[.pointer (some t)] 97)) := by kernel_rfl
theorem tk_typeP (a : Addr) (w : World) : (ReflectliteValue.methodAny (ReflectliteValue.valueError "reflectlite.Value.Type" 0) (fun t _ _ _ => ReflectliteType.toType t) #[.agg #[.pointer (some ⟨2, 97, none⟩), .pointer (some a), .int .u64 150]]).run Tryz.prog w
    = .ok (.iface 144 (.agg #[.pointer (some ⟨2, 97, none⟩)])) w := by kernel_rfl
theorem tk_methodKind (h : Value) (w : World) : (Go.method 328 144 (.agg #[h]) "Kind").run Tryz.prog w = .ok (163, h) w := by kernel_rfl
theorem tk_kindP (w : World) : ((ReflectliteType.abiMethod fun t => (fun a : Nat => Value.int IntKind.u8 (a : Int)) <$> Rtype.kind t) #[.pointer (some ⟨2, 97, none⟩)]).run Tryz.prog w = .ok (.int .u8 22) w := by kernel_rfl
theorem tk_kindE (w : World) : ((ReflectliteType.abiMethod fun t => (fun a : Nat => Value.int IntKind.u8 (a : Int)) <$> Rtype.kind t) #[.pointer (some ⟨2, 75, none⟩)]).run Tryz.prog w = .ok (.int .u8 2) w := by kernel_rfl
theorem tk_open (z : Sem Value) (f : TypeId → Addr → Nat → Nat → Sem Value) (v : Value) :
    ReflectliteValue.method z f #[v] = (ReflectliteValue.parts v >>= fun o => o.elim z fun q => f q.1 q.2.1 q.2.2 (q.2.2 % 32)) := by
  refine (show ReflectliteValue.method z f #[v] = (ReflectliteValue.parts v >>= _) from rfl).trans ?_
  refine congrArg (ReflectliteValue.parts v >>= ·) (funext fun o => ?_)
  cases o <;> rfl
theorem tk_partsP (a : Addr) (w : World) : (ReflectliteValue.parts (.agg #[.pointer (some ⟨2, 97, none⟩), .pointer (some a), .int .u64 150])).run Tryz.prog w = .ok (some (97, a, 150)) w := by kernel_rfl
theorem tk_isNilP (a p : Addr) (W : World) (ha : W.cell? a = some (.pointer (some p))) :
    (ReflectliteValue.method (ReflectliteValue.valueError "reflectlite.Value.IsNil" 0) ReflectliteValue.isNil #[.agg #[.pointer (some ⟨2, 97, none⟩), .pointer (some a), .int .u64 150]]).run Tryz.prog W = .ok (.bool false) W := by
  rw [tk_open]
  simp only [Sem.run_bind, tk_partsP, Result.andThen]
  simp [ReflectliteValue.isNil, loadVar, isAgg, underlying, Tryz.underlying97, ha, Result.andThen]
theorem tk_methodElem (h : Value) (w : World) : (Go.method 328 144 (.agg #[h]) "Elem").run Tryz.prog w = .ok (173, .agg #[h]) w := by kernel_rfl
theorem tk_methodImplements (h : Value) (w : World) : (Go.method 328 144 (.agg #[h]) "Implements").run Tryz.prog w = .ok (174, .agg #[h]) w := by kernel_rfl
theorem tk_methodAssignableTo (h : Value) (w : World) : (Go.method 328 144 (.agg #[h]) "AssignableTo").run Tryz.prog w = .ok (171, .agg #[h]) w := by kernel_rfl
theorem tk_elemP (w : World) : (ReflectliteType.method ReflectliteType.elem #[.agg #[.pointer (some ⟨2, 97, none⟩)]]).run Tryz.prog w = .ok (.iface 144 (.agg #[.pointer (some ⟨2, 75, none⟩)])) w := by kernel_rfl
theorem tk_implementsE (w : World) : (ReflectliteType.relation "Implements" ReflectliteType.implements_ #[.agg #[.pointer (some ⟨2, 75, none⟩)], .iface 144 (.agg #[.pointer (some ⟨2, 35, none⟩)])]).run Tryz.prog w = .ok (.bool true) w := by kernel_rfl
theorem tk_typeOfE (v : Value) (w : World) : (ReflectliteType.typeOf #[.iface 75 v]).run Tryz.prog w = .ok (.iface 144 (.agg #[.pointer (some ⟨2, 75, none⟩)])) w := by kernel_rfl
theorem tk_assignableE (w : World) : (ReflectliteType.relation "AssignableTo" ReflectliteType.assignableTo #[.agg #[.pointer (some ⟨2, 75, none⟩)], .iface 144 (.agg #[.pointer (some ⟨2, 75, none⟩)])]).run Tryz.prog w = .ok (.bool true) w := by kernel_rfl
theorem tk_valueOfE (n : Int) (w : World) : (ReflectliteValue.unpack (.iface 75 (.int .i64 n))).run Tryz.prog w
    = .ok (.agg #[.pointer (some ⟨2, 75, none⟩), .pointer (some ⟨w.heap.size, 0, none⟩), .int .u64 130]) (w.alloc (.cells #[.int .i64 n] 75)) := by kernel_rfl
theorem tk_elemOfP (w : World) : (Rtype.elem? 97).run Tryz.prog w = .ok (some 75) w := by kernel_rfl
theorem tk_mkE (p : Addr) (w : World) : (ReflectliteValue.mk 75 p ReflectliteValue.flagAddr).run Tryz.prog w = .ok (.agg #[.pointer (some ⟨2, 75, none⟩), .pointer (some p), .int .u64 386]) w := by kernel_rfl
theorem tk_elemV (a p : Addr) (W : World) (ha : W.cell? a = some (.pointer (some p))) :
    (ReflectliteValue.method (ReflectliteValue.valueError "reflectlite.Value.Elem" 0) ReflectliteValue.elem #[.agg #[.pointer (some ⟨2, 97, none⟩), .pointer (some a), .int .u64 150]]).run Tryz.prog W
      = .ok (.agg #[.pointer (some ⟨2, 75, none⟩), .pointer (some p), .int .u64 386]) W := by
  rw [tk_open]
  simp only [Sem.run_bind, tk_partsP, Result.andThen]
  simp [ReflectliteValue.elem, loadVar, isAgg, underlying, Tryz.underlying97, ha, Result.andThen, tk_elemOfP, tk_mkE]
theorem tk_partsEa (a : Addr) (w : World) : (ReflectliteValue.parts (.agg #[.pointer (some ⟨2, 75, none⟩), .pointer (some a), .int .u64 386])).run Tryz.prog w = .ok (some (75, a, 386)) w := by kernel_rfl
theorem tk_partsE (a : Addr) (w : World) : (ReflectliteValue.parts (.agg #[.pointer (some ⟨2, 75, none⟩), .pointer (some a), .int .u64 130])).run Tryz.prog w = .ok (some (75, a, 130)) w := by kernel_rfl
theorem tk_directE (w : World) : (Rtype.directlyAssignable 75 75).run Tryz.prog w = .ok true w := by kernel_rfl
theorem tk_setE (ta b : Addr) (n : Int) (old : Value) (W : World) (hb : W.cell? b = some (.int .i64 n)) (ht : W.cell? ta = some old) (hf : W.frozen? ta = false) :
    (ReflectliteValue.set #[.agg #[.pointer (some ⟨2, 75, none⟩), .pointer (some ta), .int .u64 386], .agg #[.pointer (some ⟨2, 75, none⟩), .pointer (some b), .int .u64 130]]).run Tryz.prog W
      = .ok (.tuple #[]) (W.setCell ta (.int .i64 n)) := by
  rw [show ∀ X Y : Value, ReflectliteValue.set #[X, Y] = (ReflectliteValue.parts X >>= fun p => ReflectliteValue.parts Y >>= fun q => _) from fun _ _ => rfl]
  simp only [Sem.run_bind, tk_partsEa, tk_partsE, Result.andThen]
  simp [ReflectliteValue.flagAddr, loadVar, isAgg, underlying, Tryz.underlying75, hb, Result.andThen, tk_directE, storeVar, Value.cells, storeCells, Addr.add]
  rw [run_store Tryz.prog W ta _ _ (by rfl)]
  simp [ht, hf]

set_option maxHeartbeats 4000000 in
theorem as_hit (n : Int) (t : Addr) (old : Value) (w : World) (hg : w.cell? ⟨0, 0, none⟩ = some (.iface 144 (.agg #[.pointer (some ⟨2, 35, none⟩)]))) (ht0 : w.cell? t = some old) (hf0 : w.frozen? t = false) :
    Calls Tryz.prog 64 #[.iface 75 (.int .i64 n), .iface 97 (.pointer (some t))] w fun ev w' => ev = .returned (.bool true) ∧ w' = ((((w.alloc (.cells #[.pointer (some t)] 97)).alloc (.cells #[.pointer (some ⟨2, 97, none⟩), .pointer (some ⟨w.heap.size, 0, none⟩), .int .u64 150] 122)).alloc (.cells #[.pointer (some ⟨2, 97, none⟩), .pointer (some ⟨w.heap.size, 0, none⟩), .int .u64 150] 122)).alloc (.cells #[.int .i64 n] 75)).setCell t (.int .i64 n) := by
  have h6 := @run_callFunc_extern Tryz.prog 92 _ (fun args => ReflectliteValue.unpack (args.getD 0 (.tuple #[]))) Tryz.func92 (by kernel_rfl) (by kernel_rfl) (by kernel_rfl) (by kernel_rfl)
  have h7 := @run_callFunc_extern Tryz.prog 93 _ (ReflectliteValue.methodAny (ReflectliteValue.valueError "reflectlite.Value.Type" 0) (fun t _ _ _ => ReflectliteType.toType t)) Tryz.func93 (by kernel_rfl) (by kernel_rfl) (by kernel_rfl) (by kernel_rfl)
  have h8 := @run_callFunc_extern Tryz.prog 94 _ (ReflectliteValue.method (ReflectliteValue.valueError "reflectlite.Value.IsNil" 0) ReflectliteValue.isNil) Tryz.func94 (by kernel_rfl) (by kernel_rfl) (by kernel_rfl) (by kernel_rfl)
  have h27 := @run_callFunc_extern Tryz.prog 163 _ (ReflectliteType.abiMethod fun t => do pure (.int .u8 (← Rtype.kind t))) Tryz.func163 (by kernel_rfl) (by kernel_rfl) (by kernel_rfl) (by kernel_rfl)
  have h37 := @run_callFunc_extern Tryz.prog 173 _ (ReflectliteType.method ReflectliteType.elem) Tryz.func173 (by kernel_rfl) (by kernel_rfl) (by kernel_rfl) (by kernel_rfl)
  have h38 := @run_callFunc_extern Tryz.prog 174 _ (ReflectliteType.relation "Implements" ReflectliteType.implements_) Tryz.func174 (by kernel_rfl) (by kernel_rfl) (by kernel_rfl) (by kernel_rfl)
  have h10 := @run_callFunc_extern Tryz.prog 110 _ ReflectliteType.typeOf Tryz.func110 (by kernel_rfl) (by kernel_rfl) (by kernel_rfl) (by kernel_rfl)
  have h35 := @run_callFunc_extern Tryz.prog 171 _ (ReflectliteType.relation "AssignableTo" ReflectliteType.assignableTo) Tryz.func171 (by kernel_rfl) (by kernel_rfl) (by kernel_rfl) (by kernel_rfl)
  have h11 := @run_callFunc_extern Tryz.prog 111 _ (ReflectliteValue.method (ReflectliteValue.valueError "reflectlite.Value.Elem" 0) ReflectliteValue.elem) Tryz.func111 (by kernel_rfl) (by kernel_rfl) (by kernel_rfl) (by kernel_rfl)
  have h12 := @run_callFunc_extern Tryz.prog 112 _ ReflectliteValue.set Tryz.func112 (by kernel_rfl) (by kernel_rfl) (by kernel_rfl) (by kernel_rfl)
  have tO := tk_typeOfE
  have mA := tk_methodAssignableTo
  have a25 := tk_assignableE
  have v25 := tk_valueOfE
  have f6 := tk_valueOfP
  have f7 := tk_typeP
  have mK := tk_methodKind
  have mE := tk_methodElem
  have mI := tk_methodImplements
  have k27 := tk_kindP
  have k25 := tk_kindE
  have e27 := tk_elemP
  have i25 := tk_implementsE
  have n8 := tk_isNilP ⟨w.heap.size, 0, none⟩ t ((w.alloc (.cells #[.pointer (some t)] 97)).alloc (.cells #[.pointer (some ⟨2, 97, none⟩), .pointer (some ⟨w.heap.size, 0, none⟩), .int .u64 150] 122)) (by simp)
  have hlt : 0 < w.heap.size := Et.lt hg
  have hg2 : ((w.alloc (.cells #[.pointer (some t)] 97)).alloc (.cells #[.pointer (some ⟨2, 97, none⟩), .pointer (some ⟨w.heap.size, 0, none⟩), .int .u64 150] 122)).cell? ⟨0, 0, none⟩ = some (.iface 144 (.agg #[.pointer (some ⟨2, 35, none⟩)])) := by
    rw [World.cell?_alloc_lt _ _ ⟨0, 0, none⟩ (by simp; try omega), World.cell?_alloc_lt _ _ ⟨0, 0, none⟩ hlt]; exact hg
  have htl : t.block < w.heap.size := by
    rcases Nat.lt_or_ge t.block w.heap.size with h | h
    · exact h
    · simp [World.cell?, Array.getElem?_eq_none h] at ht0
  have el := tk_elemV ⟨w.heap.size, 0, none⟩ t (((w.alloc (.cells #[.pointer (some t)] 97)).alloc (.cells #[.pointer (some ⟨2, 97, none⟩), .pointer (some ⟨w.heap.size, 0, none⟩), .int .u64 150] 122)).alloc (.cells #[.pointer (some ⟨2, 97, none⟩), .pointer (some ⟨w.heap.size, 0, none⟩), .int .u64 150] 122)) (by rw [World.cell?_alloc_lt _ _ ⟨w.heap.size, 0, none⟩ (by simp; omega)]; simp)
  have st := tk_setE t ⟨w.heap.size + 1 + 1 + 1, 0, none⟩ n old ((((w.alloc (.cells #[.pointer (some t)] 97)).alloc (.cells #[.pointer (some ⟨2, 97, none⟩), .pointer (some ⟨w.heap.size, 0, none⟩), .int .u64 150] 122)).alloc (.cells #[.pointer (some ⟨2, 97, none⟩), .pointer (some ⟨w.heap.size, 0, none⟩), .int .u64 150] 122)).alloc (.cells #[.int .i64 n] 75))
    (by rw [World.cell?_alloc_at _ _ _ _ (by simp)]; rfl)
    (by rw [World.cell?_alloc_lt _ _ t (by simp; omega), World.cell?_alloc_lt _ _ t (by simp; omega), World.cell?_alloc_lt _ _ t (by simp; omega), World.cell?_alloc_lt _ _ t htl]; exact ht0)
    (by rw [World.frozen?_alloc_old _ _ t (by simp; omega), World.frozen?_alloc_old _ _ t (by simp; omega), World.frozen?_alloc_old _ _ t (by simp; omega), World.frozen?_alloc_old _ _ t (Nat.ne_of_lt htl)]; exact hf0)
  go_enter Tryz.func64, Tryz.ntmps64
  go_wp2
  refine wp_loop_rounds 1 ?_
  rw [rounds_succ]
  go_wp2
  go_ret
  exact ⟨rfl, rfl⟩

set_option maxHeartbeats 400000 in
theorem told_nil (w : World) : Calls Tryz.prog 39 #[.nilIface] w fun e w' => e = .returned (.int .i64 0) ∧ w' = w := by
  go_enter Tryz.func39, Tryz.ntmps39
  go_wp2
  go_ret
  exact ⟨rfl, rfl⟩

set_option maxHeartbeats 1000000 in
theorem told_hit (n : Int) (w : World) (hg : Et w) :
    Calls Tryz.prog 39 #[.iface 75 (.int .i64 n)] w fun e w' => e = .returned (.int .i64 n) ∧ Below w.heap.size w w' := by
  have hA : (w.alloc (.cells #[.int .i64 0] 75)).cell? ⟨0, 0, none⟩ = some (.iface 144 (.agg #[.pointer (some ⟨2, 35, none⟩)])) := hg.alloc _
  have hB : (w.alloc (.cells #[.int .i64 0] 75)).cell? ⟨w.heap.size, 0, none⟩ = some (.int .i64 0) := by simp
  have hC : (w.alloc (.cells #[.int .i64 0] 75)).frozen? ⟨w.heap.size, 0, none⟩ = false := by simp
  go_enter Tryz.func39, Tryz.ntmps39
  go_wp2_with (go_at_call 64; refine (as_hit _ _ (.int .i64 0) _ hA hB hC).mono ?_; rintro e w' ⟨rfl, rfl⟩)
  go_ret
  refine ⟨rfl, ?_⟩
  repeat (first | exact Below.refl _ _ | refine Below.alloc ?_ (by simp; try omega) _)

set_option maxHeartbeats 400000 in
theorem same_nil (x : Int) (w : World) : Calls Tryz.prog 9 #[.nilIface, .int .i64 x] w fun e w' => e = .returned (.bool (0 == x)) ∧ w' = w := by
  go_enter Tryz.func9, Tryz.ntmps9
  go_wp2_with (go_at_call 39; refine (told_nil _).mono ?_; rintro e w' ⟨rfl, rfl⟩)
  go_ret
  exact ⟨rfl, rfl⟩

set_option maxHeartbeats 400000 in
theorem same_hit (n x : Int) (w : World) (hg : Et w) : Calls Tryz.prog 9 #[.iface 75 (.int .i64 n), .int .i64 x] w fun e w' => e = .returned (.bool (n == x)) ∧ Below w.heap.size w w' := by
  have Hg : Hid (Et w) := hg
  clear hg
  go_enter Tryz.func9, Tryz.ntmps9
  go_wp2_with fail
  refine (told_hit _ _ Hg).mono ?_
  rintro e w1 ⟨rfl, hb⟩
  have Hb : Hid (Below w.heap.size w w1) := hb
  clear hb
  go_wp2
  go_ret
  exact ⟨rfl, Hb⟩
end Go.Proofs.YtagnjmellcibhaaGreatDoor

namespace Go.Proofs.YtagnjmellcibhaaGreatDoor
open Go.RowKit

theorem er_same (u : Value) (n : Int) (w : World) (h : Er u n) (hg : Et w) :
    Calls Tryz.prog 9 #[u, .int .i64 n] w fun e w' => e = .returned (.bool true) ∧ Below w.heap.size w w' := by
  rcases h with ⟨rfl, rfl⟩ | ⟨h0, rfl⟩
  · exact (same_nil 0 w).mono fun e w' ⟨h1, h2⟩ => ⟨h1, by rw [h2]; exact Below.refl _ _⟩
  · exact (same_hit n n w hg).mono fun e w' ⟨h1, h2⟩ => ⟨by rw [h1, beq_self_eq_true], h2⟩
end Go.Proofs.YtagnjmellcibhaaGreatDoor

namespace Go.Proofs.YtagnjmellcibhaaGreatDoor
open Go.RowKit

set_option maxHeartbeats 400000 in
theorem ints_any (u v : Value) (xs ys : List Int) (w : World) (hu : Ro w u xs) (hv : Ro w v ys) :
    Calls Tryz.prog 19 #[u, v] w fun e w' => e = .returned (.bool (decide (xs = ys))) ∧ ∃ n, w' = w.drewN n := by
  obtain ⟨a, c, rfl, hc1, hc2, ha⟩ := hu
  obtain ⟨b, d, rfl, hd1, hd2, hb⟩ := hv
  have Ha : Hid (Cells w a xs) := ha
  have Hb : Hid (Cells w b ys) := hb
  clear ha hb
  by_cases hl : xs.length = ys.length
  · have Hl : Hid (xs.length = ys.length) := hl
    rw [← hl] at hd1 ⊢
    clear hl
    go_enter Tryz.func19, Tryz.ntmps19
    go_wp2_with fail
    go_loopw [5] (fun i W => ∃ (k q : Nat), k ≤ xs.length ∧ i = .int .i64 (k : Nat) ∧ xs.take k = ys.take k ∧ W = w.drewN q) (fun i _ => xs.length - (intOf i).toNat)
    case atStart => exact ⟨0, 0, Nat.zero_le _, rfl, by simp, rfl⟩
    case round =>
      obtain ⟨k, q, hk, rfl, ht, rfl⟩ := hrel
      have Ht : Hid (xs.take k = ys.take k) := ht
      clear ht
      by_cases h0 : k = xs.length
      · subst h0
        go_wp2
        go_ret
        refine ⟨?_, q, rfl⟩
        have e := Ht.out
        rw [List.take_of_length_le (Nat.le_refl _), Hl.out, List.take_of_length_le (Nat.le_refl _)] at e
        simp [e]
      · have hkx : k < xs.length := by omega
        have hky : k < ys.length := by rw [← Hl.out]; exact hkx
        obtain ⟨x, rfl, -, hx⟩ := Ha.out (by intro h; rw [h] at hkx; simp at hkx)
        obtain ⟨y, rfl, -, hy⟩ := Hb.out (by intro h; rw [h] at hky; simp at hky)
        have cx := hx k xs[k] (List.getElem?_eq_getElem hkx)
        have cy := hy k ys[k] (List.getElem?_eq_getElem hky)
        have Te : Hid (xs.take (k + 1) = ys.take (k + 1) ↔ xs[k] = ys[k]) := by
          unfold Hid
          rw [List.take_succ_eq_append_getElem hkx, List.take_succ_eq_append_getElem hky, Ht.out]
          exact ⟨fun h => (List.cons.inj (List.append_cancel_left h)).1, fun h => by rw [h]⟩
        generalize xs[k] = p at *
        generalize ys[k] = r at *
        clear hx hy
        by_cases hpr : p = r
        · subst hpr
          go_wp2
          go_quiet (fail)
          go_wp2
          go_round
          case rel => exact ⟨k + 1, q + nq, by omega, by go_num, by first | exact Te.out.2 rfl | exact Te.out.2 trivial, rfl⟩
          case measure => simp [intOf]; omega
        · go_wp2
          go_quiet (fail)
          go_wp2
          go_ret
          refine ⟨?_, q + nq, by rw [World.drewN_drewN]⟩
          have : xs ≠ ys := fun h => hpr (Te.out.1 (by rw [h]))
          simp [this]
  · go_enter Tryz.func19, Tryz.ntmps19
    go_wp2
    go_ret
    refine ⟨?_, 0, rfl⟩
    have : xs ≠ ys := fun h => hl (by rw [h])
    simp [this]
end Go.Proofs.YtagnjmellcibhaaGreatDoor

namespace Go.Proofs.YtagnjmellcibhaaGreatDoor
open Go.RowKit
set_option linter.unusedVariables false

set_option maxHeartbeats 1000000 in
theorem same_field (u v : Value) (W H : Int) (gs os : List Int) (w : World) (hu : Fl w u W H gs os) (hv : Fl w v W H gs os) :
    Calls Tryz.prog 40 #[u, v] w fun e w' => e = .returned (.bool true) ∧ Below w.heap.size w w' := by
  obtain ⟨a1, a2, rfl, ha1, ha2⟩ := hu
  obtain ⟨b1, b2, rfl, hb1, hb2⟩ := hv
  have A1 : Hid (Ro w a1 gs) := ha1
  have A2 : Hid (Ro w a2 os) := ha2
  have B1 : Hid (Ro w b1 gs) := hb1
  have B2 : Hid (Ro w b2 os) := hb2
  clear ha1 ha2 hb1 hb2
  go_enter Tryz.func40, Tryz.ntmps40
  go_wp2_with fail
  have K0 : Below w.heap.size w ((w.alloc (Obj.cells #[.int .i64 W, .int .i64 H, a1, a2] 25)).alloc (Obj.cells #[.int .i64 W, .int .i64 H, b1, b2] 25)) := ((Below.refl _ _).alloc (Nat.le_refl _) _).alloc (by simp) _
  have X0 := (Bf.mk' (w := w) W H a1 a2 rfl).below ((Below.refl _ _).alloc (Nat.le_refl _) (Obj.cells #[.int .i64 W, .int .i64 H, b1, b2] 25)) (by simp)
  have Y0 := Bf.mk' (w := w.alloc (Obj.cells #[.int .i64 W, .int .i64 H, a1, a2] 25)) (z := w.heap.size + 1) W H b1 b2 (by simp)
  generalize (w.alloc (Obj.cells #[.int .i64 W, .int .i64 H, a1, a2] 25)).alloc (Obj.cells #[.int .i64 W, .int .i64 H, b1, b2] 25) = w0 at *
  refine (ints_any _ _ gs gs _ (A1.out.below K0) (B1.out.below K0)).mono ?_
  rintro e w1 ⟨rfl, q1, hq1⟩
  rw [decide_eq_true rfl]
  have k1 : Below w0.heap.size w0 w1 := by rw [hq1]; exact _root_.Go.below_drewN (Below.refl _ _) _
  have K1 : Below w.heap.size w w1 := K0.trans (k1.mono K0.size)
  have X1 : Hid (Bf w1 w.heap.size W H a1 a2) := X0.below k1 X0.lt
  have Y1 : Hid (Bf w1 (w.heap.size + 1) W H b1 b2) := Y0.below k1 Y0.lt
  clear hq1 k1 X0 Y0 K0
  obtain ⟨x0, x1, x2, x3⟩ := X1.out
  obtain ⟨y0, y1, y2, y3⟩ := Y1.out
  have K1' : Hid (Below w.heap.size w w1) := K1
  clear K1
  go_wp2_with fail
  refine (ints_any _ _ os os _ (A2.out.below K1'.out) (B2.out.below K1'.out)).mono ?_
  rintro e w2 ⟨rfl, q2, hq2⟩
  rw [decide_eq_true rfl]
  have k2 : Below w1.heap.size w1 w2 := by rw [hq2]; exact _root_.Go.below_drewN (Below.refl _ _) _
  have K2 : Hid (Below w.heap.size w w2) := K1'.out.trans (k2.mono K1'.out.size)
  have X2 : Hid (Bf w2 w.heap.size W H a1 a2) := X1.out.below k2 X1.out.lt
  have Y2 : Hid (Bf w2 (w.heap.size + 1) W H b1 b2) := Y1.out.below k2 Y1.out.lt
  clear hq2 k2 x0 x1 x2 x3 y0 y1 y2 y3 X1 Y1 K1'
  obtain ⟨x0, x1, x2, x3⟩ := X2.out
  obtain ⟨y0, y1, y2, y3⟩ := Y2.out
  go_wp2
  go_ret
  exact ⟨rfl, K2⟩
end Go.Proofs.YtagnjmellcibhaaGreatDoor

