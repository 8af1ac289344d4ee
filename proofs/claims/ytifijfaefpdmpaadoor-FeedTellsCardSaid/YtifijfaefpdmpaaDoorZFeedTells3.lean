/- What a walk is told of records api.Change that came in. · What plain.Told and marchsame.Error answer of nil, and of an Errno: errors.As is walked at the target *api.Errno. · An error that is told is the reference's. · The walk of FeedTells, out of the contracts of package feed and of the reference. -/
import Derived.Test.YtifijfaefpdmpaaDoorZFeedTells1
import Derived.Deep.SlicePairs
import Derived.ChangeArms
import Derived.ProofKit
import Derived.OpenShut
import Derived.Test.YtifijfaefpdmpaaDoorRows
import Derived.WalkKit
import Derived.WalkSpells
import Derived.WalkLawsBesides
import Derived.LaidEql
import Derived.Stop.Asserts
import Derived.RowKitTokens
import Derived.Test.YtifijfaefpdmpaaDoorZFeedTells2
namespace Go.Proofs.YtifijfaefpdmpaaDoor
open Go.ChangeShapes Go.WideShapes Go.ChangeAt Go.RowKit
set_option linter.unusedVariables false

theorem ch_fields : ∃ f0 f1 f2 : Field, Tryd.prog.underlying 41 = some (.struct #[f0, f1, f2]) ∧
    f0.offset = 0 ∧ f0.type = 3 ∧ f1.offset = 1 ∧ f1.type = 3 ∧ f2.offset = 2 ∧ f2.type = 3 := ⟨_, _, _, Tryd.underlying41, rfl, rfl, rfl, rfl, rfl, rfl⟩

set_option maxRecDepth 100000 in
theorem open_ch {H : Type} {enc : TypeId × Value → H} {W : World} {base : Nat} {held : Bool} {fuel : Nat} {cs : List Value} {y : DataW H × List MemPlace} (h : DataW.trod enc Tryd.prog W base (fun _ => true) held fuel 41 cs = some y) :
    ∃ k : ChV, cs = [.int .i64 k.at_, .int .i64 k.old, .int .i64 k.new] ∧ True := by
  obtain ⟨f0, f1, f2, he, o0, t0, o1, t1, o2, t2⟩ := ch_fields
  obtain ⟨xs, m, -, -, hlen, hxl, hf⟩ := DataW.trod_struct he h
  have csi : Tryd.prog.cellsOf 3 = 1 := by kernel_rfl
  have csk : Tryd.prog.cellsOf 41 = 3 := by kernel_rfl
  rw [csk] at hlen
  match cs, hlen with
  | [v0, v1, v2], _ =>
    have hx : xs.length = 3 := hxl
    match xs, hx with
    | [x0, x1, x2], _ =>
      have g0 := hf 0 f0 rfl
      rw [o0, t0, csi] at g0
      have g1 := hf 1 f1 rfl
      rw [o1, t1, csi] at g1
      have g2 := hf 2 f2 rfl
      rw [o2, t2, csi] at g2
      obtain ⟨m0, e0, -, -⟩ := DataW.trod_int Tryd.underlying3 g0
      obtain ⟨m1, e1, -, -⟩ := DataW.trod_int Tryd.underlying3 g1
      obtain ⟨m2, e2, -, -⟩ := DataW.trod_int Tryd.underlying3 g2
      simp at e0 e1 e2
      subst e0 e1 e2
      exact ⟨⟨m0, m1, m2⟩, rfl, trivial⟩

theorem open_chs {H : Type} {enc : TypeId × Value → H} {W : World} {base : Nat} {held : Bool} {fuel : Nat} {v : Value} {y : DataW H × List MemPlace} (h : DataW.trod enc Tryd.prog W base (fun _ => true) held fuel 23 [v] = some y) :
    ∃ ks : List ChV, Chl W v ks ∧ ∀ k ∈ ks, True := by
  have csk : Tryd.prog.cellsOf 41 = 3 := by kernel_rfl
  rcases Go.Deep.open_slice Tryd.underlying23 h with ⟨hcs, -⟩ | ⟨a, len, cap, m, q, D, Pl, hcs, hb, hl, hm, hmm, -, hx⟩
  · simp at hcs
    subst hcs
    exact ⟨[], ⟨none, 0, rfl, Nat.le_refl _, by omega, fun h => absurd rfl h⟩, by simp⟩
  · simp at hcs
    subst hcs
    have hlm : len ≤ m := by rw [hmm]; simp; exact hl
    have each : ∀ i, i < len → ∃ k : ChV, Chc W (a.add (i * 3)) k ∧ (True) := by
      intro i hi
      obtain ⟨cs', h1, h2⟩ := hx i (by omega)
      obtain ⟨k, rfl, hk⟩ := open_ch h2
      rw [csk] at h1
      obtain ⟨-, -, hcell⟩ := World.cells?_some h1
      refine ⟨k, ?_, hk⟩
      generalize a.add (i * 3) = y at *
      exact ⟨hcell 0 (by decide), hcell 1 (by decide), hcell 2 (by decide)⟩
    have inh : Inhabited ChV := ⟨⟨0, 0, 0⟩⟩
    obtain ⟨q, hq⟩ := Go.Deep.choose_lt each
    refine ⟨(List.range len).map q, ⟨some a, cap, by simp, by simpa using hl, by unfold maxLen at hm; omega, fun hn => ⟨a, rfl, ?_, fun i k hk => ?_⟩⟩, ?_⟩
    · have h0 : 0 < len := by
        rcases Nat.eq_zero_or_pos len with h | h
        · subst h; simp at hn
        · exact h
      have := (hq 0 h0).1.lt
      rwa [add_block] at this
    · have hi : i < len := by
        have := (List.getElem?_eq_some_iff.1 hk).1
        simpa using this
      rw [List.getElem?_map, List.getElem?_range hi] at hk
      injection hk with hk
      subst hk
      exact (hq i hi).1
    · intro k hk
      obtain ⟨i, hi, rfl⟩ := List.mem_map.1 hk
      exact (hq i (List.mem_range.1 hi)).2
set_option maxRecDepth 100000 in
theorem chs_in {H : Type} {enc : TypeId × Value → H} {W : World} {base b0 : Nat} {held : Bool} {v : Value} {d : DataW H} {p : List MemPlace} (hv : Value.okWide Tryd.prog W .any b0 23 v) (h : DataW.Trod enc Tryd.prog W base (fun _ => true) held 23 v d p) :
    ∃ ks : List ChV, Chl W v ks ∧ ∀ k ∈ ks, True := by
  obtain ⟨a, len, cap, rfl⟩ := okWide_slice Tryd.underlying23 hv
  obtain ⟨fuel, hf⟩ := h
  exact open_chs hf
end Go.Proofs.YtifijfaefpdmpaaDoor

namespace Go.Proofs.YtifijfaefpdmpaaDoor
open Go.RowKit Go.Extern.Stop Go.Stop Go.Extern

/-- the cell of errors.errorType. -/
def Et (w : World) : Prop := w.cell? ⟨0, 0, none⟩ = some (.iface 70 (.agg #[.pointer (some ⟨1, 27, none⟩)]))

theorem Et.lt {w : World} (h : Et w) : 0 < w.heap.size := by
  rcases Nat.lt_or_ge 0 w.heap.size with h1 | h1
  · exact h1
  · unfold Et at h
    simp [World.cell?, Array.getElem?_eq_none h1] at h
theorem Et.below {w w' : World} (h : Et w) (hb : Below w.heap.size w w') : Et w' := by
  unfold Et
  rw [hb.cell (p := ⟨0, 0, none⟩) h.lt]
  exact h
theorem Et.alloc {w : World} (h : Et w) (o : Obj) : Et (w.alloc o) := h.below ((Below.refl _ _).alloc (Nat.le_refl _) _)
theorem Et.drew {w : World} (h : Et w) : Et w.drew := h.below (Below.refl _ _).drew

theorem tk_valueOfP (t : Addr) (w : World) : (ReflectliteValue.unpack (.iface 51 (.pointer (some t)))).run Tryd.prog w
    = .ok (.agg #[.pointer (some ⟨1, 51, none⟩), .pointer (some ⟨w.heap.size, 0, none⟩), .int .u64 150]) (w.alloc (.cells #[.pointer (some t)] 51)) := by kernel_rfl
theorem tk_typeP (a : Addr) (w : World) : (ReflectliteValue.methodAny (ReflectliteValue.valueError "reflectlite.Value.Type" 0) (fun t _ _ _ => ReflectliteType.toType t) #[.agg #[.pointer (some ⟨1, 51, none⟩), .pointer (some a), .int .u64 150]]).run Tryd.prog w
    = .ok (.iface 70 (.agg #[.pointer (some ⟨1, 51, none⟩)])) w := by kernel_rfl
theorem tk_methodKind (h : Value) (w : World) : (Go.method 213 70 (.agg #[h]) "Kind").run Tryd.prog w = .ok (46, h) w := by kernel_rfl
theorem tk_kindP (w : World) : ((ReflectliteType.abiMethod fun t => (fun a : Nat => Value.int IntKind.u8 (a : Int)) <$> Rtype.kind t) #[.pointer (some ⟨1, 51, none⟩)]).run Tryd.prog w = .ok (.int .u8 22) w := by kernel_rfl
theorem tk_kindE (w : World) : ((ReflectliteType.abiMethod fun t => (fun a : Nat => Value.int IntKind.u8 (a : Int)) <$> Rtype.kind t) #[.pointer (some ⟨1, 42, none⟩)]).run Tryd.prog w = .ok (.int .u8 2) w := by kernel_rfl
theorem tk_open (z : Sem Value) (f : TypeId → Addr → Nat → Nat → Sem Value) (v : Value) :
    ReflectliteValue.method z f #[v] = (ReflectliteValue.parts v >>= fun o => o.elim z fun q => f q.1 q.2.1 q.2.2 (q.2.2 % 32)) := by
  refine (show ReflectliteValue.method z f #[v] = (ReflectliteValue.parts v >>= _) from rfl).trans ?_
  refine congrArg (ReflectliteValue.parts v >>= ·) (funext fun o => ?_)
  cases o <;> rfl
theorem tk_partsP (a : Addr) (w : World) : (ReflectliteValue.parts (.agg #[.pointer (some ⟨1, 51, none⟩), .pointer (some a), .int .u64 150])).run Tryd.prog w = .ok (some (51, a, 150)) w := by kernel_rfl
theorem tk_isNilP (a p : Addr) (W : World) (ha : W.cell? a = some (.pointer (some p))) :
    (ReflectliteValue.method (ReflectliteValue.valueError "reflectlite.Value.IsNil" 0) ReflectliteValue.isNil #[.agg #[.pointer (some ⟨1, 51, none⟩), .pointer (some a), .int .u64 150]]).run Tryd.prog W = .ok (.bool false) W := by
  rw [tk_open]
  simp only [Sem.run_bind, tk_partsP, Result.andThen]
  simp [ReflectliteValue.isNil, loadVar, isAgg, underlying, Tryd.underlying51, ha, Result.andThen]
theorem tk_methodElem (h : Value) (w : World) : (Go.method 213 70 (.agg #[h]) "Elem").run Tryd.prog w = .ok (56, .agg #[h]) w := by kernel_rfl
theorem tk_methodImplements (h : Value) (w : World) : (Go.method 213 70 (.agg #[h]) "Implements").run Tryd.prog w = .ok (57, .agg #[h]) w := by kernel_rfl
theorem tk_methodAssignableTo (h : Value) (w : World) : (Go.method 213 70 (.agg #[h]) "AssignableTo").run Tryd.prog w = .ok (54, .agg #[h]) w := by kernel_rfl
theorem tk_elemP (w : World) : (ReflectliteType.method ReflectliteType.elem #[.agg #[.pointer (some ⟨1, 51, none⟩)]]).run Tryd.prog w = .ok (.iface 70 (.agg #[.pointer (some ⟨1, 42, none⟩)])) w := by kernel_rfl
theorem tk_implementsE (w : World) : (ReflectliteType.relation "Implements" ReflectliteType.implements_ #[.agg #[.pointer (some ⟨1, 42, none⟩)], .iface 70 (.agg #[.pointer (some ⟨1, 27, none⟩)])]).run Tryd.prog w = .ok (.bool true) w := by kernel_rfl
theorem tk_typeOfE (v : Value) (w : World) : (ReflectliteType.typeOf #[.iface 42 v]).run Tryd.prog w = .ok (.iface 70 (.agg #[.pointer (some ⟨1, 42, none⟩)])) w := by kernel_rfl
theorem tk_assignableE (w : World) : (ReflectliteType.relation "AssignableTo" ReflectliteType.assignableTo #[.agg #[.pointer (some ⟨1, 42, none⟩)], .iface 70 (.agg #[.pointer (some ⟨1, 42, none⟩)])]).run Tryd.prog w = .ok (.bool true) w := by kernel_rfl
theorem tk_valueOfE (n : Int) (w : World) : (ReflectliteValue.unpack (.iface 42 (.int .i64 n))).run Tryd.prog w
    = .ok (.agg #[.pointer (some ⟨1, 42, none⟩), .pointer (some ⟨w.heap.size, 0, none⟩), .int .u64 130]) (w.alloc (.cells #[.int .i64 n] 42)) := by kernel_rfl
theorem tk_elemOfP (w : World) : (Rtype.elem? 51).run Tryd.prog w = .ok (some 42) w := by kernel_rfl
theorem tk_mkE (p : Addr) (w : World) : (ReflectliteValue.mk 42 p ReflectliteValue.flagAddr).run Tryd.prog w = .ok (.agg #[.pointer (some ⟨1, 42, none⟩), .pointer (some p), .int .u64 386]) w := by kernel_rfl
theorem tk_elemV (a p : Addr) (W : World) (ha : W.cell? a = some (.pointer (some p))) :
    (ReflectliteValue.method (ReflectliteValue.valueError "reflectlite.Value.Elem" 0) ReflectliteValue.elem #[.agg #[.pointer (some ⟨1, 51, none⟩), .pointer (some a), .int .u64 150]]).run Tryd.prog W
      = .ok (.agg #[.pointer (some ⟨1, 42, none⟩), .pointer (some p), .int .u64 386]) W := by
  rw [tk_open]
  simp only [Sem.run_bind, tk_partsP, Result.andThen]
  simp [ReflectliteValue.elem, loadVar, isAgg, underlying, Tryd.underlying51, ha, Result.andThen, tk_elemOfP, tk_mkE]
theorem tk_partsEa (a : Addr) (w : World) : (ReflectliteValue.parts (.agg #[.pointer (some ⟨1, 42, none⟩), .pointer (some a), .int .u64 386])).run Tryd.prog w = .ok (some (42, a, 386)) w := by kernel_rfl
theorem tk_partsE (a : Addr) (w : World) : (ReflectliteValue.parts (.agg #[.pointer (some ⟨1, 42, none⟩), .pointer (some a), .int .u64 130])).run Tryd.prog w = .ok (some (42, a, 130)) w := by kernel_rfl
theorem tk_directE (w : World) : (Rtype.directlyAssignable 42 42).run Tryd.prog w = .ok true w := by kernel_rfl
theorem tk_setE (ta b : Addr) (n : Int) (old : Value) (W : World) (hb : W.cell? b = some (.int .i64 n)) (ht : W.cell? ta = some old) (hf : W.frozen? ta = false) :
    (ReflectliteValue.set #[.agg #[.pointer (some ⟨1, 42, none⟩), .pointer (some ta), .int .u64 386], .agg #[.pointer (some ⟨1, 42, none⟩), .pointer (some b), .int .u64 130]]).run Tryd.prog W
      = .ok (.tuple #[]) (W.setCell ta (.int .i64 n)) := by
  rw [show ∀ X Y : Value, ReflectliteValue.set #[X, Y] = (ReflectliteValue.parts X >>= fun p => ReflectliteValue.parts Y >>= fun q => _) from fun _ _ => rfl]
  simp only [Sem.run_bind, tk_partsEa, tk_partsE, Result.andThen]
  simp [ReflectliteValue.flagAddr, loadVar, isAgg, underlying, Tryd.underlying42, hb, Result.andThen, tk_directE, storeVar, Value.cells, storeCells, Addr.add]
  rw [run_store Tryd.prog W ta _ _ (by rfl)]
  simp [ht, hf]

set_option maxHeartbeats 4000000 in
theorem as_hit (n : Int) (t : Addr) (old : Value) (w : World) (hg : w.cell? ⟨0, 0, none⟩ = some (.iface 70 (.agg #[.pointer (some ⟨1, 27, none⟩)]))) (ht0 : w.cell? t = some old) (hf0 : w.frozen? t = false) :
    Calls Tryd.prog 22 #[.iface 42 (.int .i64 n), .iface 51 (.pointer (some t))] w fun ev w' => ev = .returned (.bool true) ∧ w' = ((((w.alloc (.cells #[.pointer (some t)] 51)).alloc (.cells #[.pointer (some ⟨1, 51, none⟩), .pointer (some ⟨w.heap.size, 0, none⟩), .int .u64 150] 59)).alloc (.cells #[.pointer (some ⟨1, 51, none⟩), .pointer (some ⟨w.heap.size, 0, none⟩), .int .u64 150] 59)).alloc (.cells #[.int .i64 n] 42)).setCell t (.int .i64 n) := by
  have h6 := @run_callFunc_extern Tryd.prog 25 _ (fun args => ReflectliteValue.unpack (args.getD 0 (.tuple #[]))) Tryd.func25 (by kernel_rfl) (by kernel_rfl) (by kernel_rfl) (by kernel_rfl)
  have h7 := @run_callFunc_extern Tryd.prog 26 _ (ReflectliteValue.methodAny (ReflectliteValue.valueError "reflectlite.Value.Type" 0) (fun t _ _ _ => ReflectliteType.toType t)) Tryd.func26 (by kernel_rfl) (by kernel_rfl) (by kernel_rfl) (by kernel_rfl)
  have h8 := @run_callFunc_extern Tryd.prog 27 _ (ReflectliteValue.method (ReflectliteValue.valueError "reflectlite.Value.IsNil" 0) ReflectliteValue.isNil) Tryd.func27 (by kernel_rfl) (by kernel_rfl) (by kernel_rfl) (by kernel_rfl)
  have h27 := @run_callFunc_extern Tryd.prog 46 _ (ReflectliteType.abiMethod fun t => do pure (.int .u8 (← Rtype.kind t))) Tryd.func46 (by kernel_rfl) (by kernel_rfl) (by kernel_rfl) (by kernel_rfl)
  have h37 := @run_callFunc_extern Tryd.prog 56 _ (ReflectliteType.method ReflectliteType.elem) Tryd.func56 (by kernel_rfl) (by kernel_rfl) (by kernel_rfl) (by kernel_rfl)
  have h38 := @run_callFunc_extern Tryd.prog 57 _ (ReflectliteType.relation "Implements" ReflectliteType.implements_) Tryd.func57 (by kernel_rfl) (by kernel_rfl) (by kernel_rfl) (by kernel_rfl)
  have h10 := @run_callFunc_extern Tryd.prog 29 _ ReflectliteType.typeOf Tryd.func29 (by kernel_rfl) (by kernel_rfl) (by kernel_rfl) (by kernel_rfl)
  have h35 := @run_callFunc_extern Tryd.prog 54 _ (ReflectliteType.relation "AssignableTo" ReflectliteType.assignableTo) Tryd.func54 (by kernel_rfl) (by kernel_rfl) (by kernel_rfl) (by kernel_rfl)
  have h11 := @run_callFunc_extern Tryd.prog 30 _ (ReflectliteValue.method (ReflectliteValue.valueError "reflectlite.Value.Elem" 0) ReflectliteValue.elem) Tryd.func30 (by kernel_rfl) (by kernel_rfl) (by kernel_rfl) (by kernel_rfl)
  have h12 := @run_callFunc_extern Tryd.prog 31 _ ReflectliteValue.set Tryd.func31 (by kernel_rfl) (by kernel_rfl) (by kernel_rfl) (by kernel_rfl)
  have tO := tk_typeOfE
  have mA := tk_methodAssignableTo
  have a25 := tk_assignableE
  have v25 := tk_valueOfE
  have f6 := tk_valueOfP
  have f7 := tk_typeP
  have mK := tk_methodKind
  have mE := tk_methodElem
  have mI := tk_methodImplements
  have k27 := tk_kindP
  have k25 := tk_kindE
  have e27 := tk_elemP
  have i25 := tk_implementsE
  have n8 := tk_isNilP ⟨w.heap.size, 0, none⟩ t ((w.alloc (.cells #[.pointer (some t)] 51)).alloc (.cells #[.pointer (some ⟨1, 51, none⟩), .pointer (some ⟨w.heap.size, 0, none⟩), .int .u64 150] 59)) (by simp)
  have hlt : 0 < w.heap.size := Et.lt hg
  have hg2 : ((w.alloc (.cells #[.pointer (some t)] 51)).alloc (.cells #[.pointer (some ⟨1, 51, none⟩), .pointer (some ⟨w.heap.size, 0, none⟩), .int .u64 150] 59)).cell? ⟨0, 0, none⟩ = some (.iface 70 (.agg #[.pointer (some ⟨1, 27, none⟩)])) := by
    rw [World.cell?_alloc_lt _ _ ⟨0, 0, none⟩ (by simp; try omega), World.cell?_alloc_lt _ _ ⟨0, 0, none⟩ hlt]; exact hg
  have htl : t.block < w.heap.size := by
    rcases Nat.lt_or_ge t.block w.heap.size with h | h
    · exact h
    · simp [World.cell?, Array.getElem?_eq_none h] at ht0
  have el := tk_elemV ⟨w.heap.size, 0, none⟩ t (((w.alloc (.cells #[.pointer (some t)] 51)).alloc (.cells #[.pointer (some ⟨1, 51, none⟩), .pointer (some ⟨w.heap.size, 0, none⟩), .int .u64 150] 59)).alloc (.cells #[.pointer (some ⟨1, 51, none⟩), .pointer (some ⟨w.heap.size, 0, none⟩), .int .u64 150] 59)) (by rw [World.cell?_alloc_lt _ _ ⟨w.heap.size, 0, none⟩ (by simp; omega)]; simp)
  have st := tk_setE t ⟨w.heap.size + 1 + 1 + 1, 0, none⟩ n old ((((w.alloc (.cells #[.pointer (some t)] 51)).alloc (.cells #[.pointer (some ⟨1, 51, none⟩), .pointer (some ⟨w.heap.size, 0, none⟩), .int .u64 150] 59)).alloc (.cells #[.pointer (some ⟨1, 51, none⟩), .pointer (some ⟨w.heap.size, 0, none⟩), .int .u64 150] 59)).alloc (.cells #[.int .i64 n] 42))
    (by rw [World.cell?_alloc_at _ _ _ _ (by simp)]; rfl)
    (by rw [World.cell?_alloc_lt _ _ t (by simp; omega), World.cell?_alloc_lt _ _ t (by simp; omega), World.cell?_alloc_lt _ _ t (by simp; omega), World.cell?_alloc_lt _ _ t htl]; exact ht0)
    (by rw [World.frozen?_alloc_old _ _ t (by simp; omega), World.frozen?_alloc_old _ _ t (by simp; omega), World.frozen?_alloc_old _ _ t (by simp; omega), World.frozen?_alloc_old _ _ t (Nat.ne_of_lt htl)]; exact hf0)
  go_enter Tryd.func22, Tryd.ntmps22
  go_wp2
  refine wp_loop_rounds 1 ?_
  rw [rounds_succ]
  go_wp2
  go_ret
  exact ⟨rfl, rfl⟩

set_option maxHeartbeats 400000 in
theorem told_nil (w : World) : Calls Tryd.prog 14 #[.nilIface] w fun e w' => e = .returned (.int .i64 0) ∧ w' = w := by
  go_enter Tryd.func14, Tryd.ntmps14
  go_wp2
  go_ret
  exact ⟨rfl, rfl⟩

set_option maxHeartbeats 1000000 in
theorem told_hit (n : Int) (w : World) (hg : Et w) :
    Calls Tryd.prog 14 #[.iface 42 (.int .i64 n)] w fun e w' => e = .returned (.int .i64 n) ∧ Below w.heap.size w w' := by
  have hA : (w.alloc (.cells #[.int .i64 0] 42)).cell? ⟨0, 0, none⟩ = some (.iface 70 (.agg #[.pointer (some ⟨1, 27, none⟩)])) := hg.alloc _
  have hB : (w.alloc (.cells #[.int .i64 0] 42)).cell? ⟨w.heap.size, 0, none⟩ = some (.int .i64 0) := by simp
  have hC : (w.alloc (.cells #[.int .i64 0] 42)).frozen? ⟨w.heap.size, 0, none⟩ = false := by simp
  go_enter Tryd.func14, Tryd.ntmps14
  go_wp2_with (go_at_call 22; refine (as_hit _ _ (.int .i64 0) _ hA hB hC).mono ?_; rintro e w' ⟨rfl, rfl⟩)
  go_ret
  refine ⟨rfl, ?_⟩
  repeat (first | exact Below.refl _ _ | refine Below.alloc ?_ (by simp; try omega) _)

set_option maxHeartbeats 400000 in
theorem same_nil (x : Int) (w : World) : Calls Tryd.prog 6 #[.nilIface, .int .i64 x] w fun e w' => e = .returned (.bool (0 == x)) ∧ w' = w := by
  go_enter Tryd.func6, Tryd.ntmps6
  go_wp2_with (go_at_call 14; refine (told_nil _).mono ?_; rintro e w' ⟨rfl, rfl⟩)
  go_ret
  exact ⟨rfl, rfl⟩

set_option maxHeartbeats 400000 in
theorem same_hit (n x : Int) (w : World) (hg : Et w) : Calls Tryd.prog 6 #[.iface 42 (.int .i64 n), .int .i64 x] w fun e w' => e = .returned (.bool (n == x)) ∧ Below w.heap.size w w' := by
  have Hg : Hid (Et w) := hg
  clear hg
  go_enter Tryd.func6, Tryd.ntmps6
  go_wp2_with fail
  refine (told_hit _ _ Hg).mono ?_
  rintro e w1 ⟨rfl, hb⟩
  have Hb : Hid (Below w.heap.size w w1) := hb
  clear hb
  go_wp2
  go_ret
  exact ⟨rfl, Hb⟩
end Go.Proofs.YtifijfaefpdmpaaDoor

namespace Go.Proofs.YtifijfaefpdmpaaDoor
open Go.RowKit

theorem er_same (u : Value) (n : Int) (w : World) (h : Er u n) (hg : Et w) :
    Calls Tryd.prog 6 #[u, .int .i64 n] w fun e w' => e = .returned (.bool true) ∧ Below w.heap.size w w' := by
  rcases h with ⟨rfl, rfl⟩ | ⟨h0, rfl⟩
  · exact (same_nil 0 w).mono fun e w' ⟨h1, h2⟩ => ⟨h1, by rw [h2]; exact Below.refl _ _⟩
  · exact (same_hit n n w hg).mono fun e w' ⟨h1, h2⟩ => ⟨by rw [h1, beq_self_eq_true], h2⟩
end Go.Proofs.YtifijfaefpdmpaaDoor

namespace Go.Proofs.YtifijfaefpdmpaaDoor.feedTells
open Go.RowKit
set_option linter.unusedVariables false

theorem Chl.nil (w : World) : Chl w (.slice none 0 0) [] := ⟨none, 0, rfl, Nat.le_refl _, by omega, fun h => absurd rfl h⟩
theorem By.nil (w : World) : By w (.slice none 0 0) [] := ⟨none, 0, rfl, Nat.le_refl _, by omega, fun h => absurd rfl h⟩
noncomputable def dF (a b : List UInt8) : Int := if 6000 < a.length ∨ 6000 < b.length then 4 else 0
noncomputable def dL (a b : List UInt8) : List ChV := if 6000 < a.length ∨ 6000 < b.length then [] else Fe.diff a b
theorem dif_r {a b : List UInt8} {w w' : World} {v r : Value} (h : RDiffSays a b w w' v r) : r = .int .i64 (dF a b) ∧ Chl w' v (dL a b) := by
  unfold dF dL
  rcases h with ⟨h1, rfl, rfl⟩ | ⟨h1, h2, rfl, h3⟩
  · rw [if_pos h1, if_pos h1]; exact ⟨rfl, Chl.nil _⟩
  · rw [if_neg (by omega), if_neg (by omega)]; exact ⟨rfl, h3.l⟩
theorem dif_p {a b : List UInt8} {w w' : World} {v r : Value} (h : DiffSays a b w w' v r) : Er r (dF a b) ∧ Chl w' v (dL a b) := by
  unfold dF dL
  rcases h with ⟨h1, rfl, h2⟩ | ⟨h1, h2, rfl, h3⟩
  · rw [if_pos h1, if_pos h1]; exact ⟨h2, Chl.nil _⟩
  · rw [if_neg (by omega), if_neg (by omega)]; exact ⟨Er.nil, h3.l⟩
noncomputable def aF (a : List UInt8) (l : List ChV) : Int := if aFault a l ≠ 0 then aFault a l else match Fe.applied a l 6000 with | none => 3 | some _ => 0
noncomputable def aB (a : List UInt8) (l : List ChV) : List UInt8 := if aFault a l ≠ 0 then [] else match Fe.applied a l 6000 with | none => [] | some b => b
theorem app_r {a : List UInt8} {l : List ChV} {w w' : World} {v r : Value} (h : RAppSays a l w w' v r) : r = .int .i64 (aF a l) ∧ By w' v (aB a l) := by
  unfold aF aB
  rcases h with ⟨h1, rfl, rfl⟩ | ⟨h1, h2, rfl, rfl⟩ | ⟨h1, b, h2, rfl, h3⟩
  · rw [if_pos h1, if_pos h1]; exact ⟨rfl, By.nil _⟩
  · rw [if_neg (fun h => h h1), if_neg (fun h => h h1), h2]; exact ⟨rfl, By.nil _⟩
  · rw [if_neg (fun h => h h1), if_neg (fun h => h h1), h2]; exact ⟨rfl, h3.by_⟩
theorem app_p {a : List UInt8} {l : List ChV} {w w' : World} {v r : Value} (h : AppSays a l w w' v r) : Er r (aF a l) ∧ By w' v (aB a l) := by
  unfold aF aB
  rcases h with ⟨h1, rfl, h2⟩ | ⟨h1, h2, rfl, h3⟩ | ⟨h1, b, h2, rfl, h3⟩
  · rw [if_pos h1, if_pos h1]; exact ⟨h2, By.nil _⟩
  · rw [if_neg (fun h => h h1), if_neg (fun h => h h1), h2]; exact ⟨h3, By.nil _⟩
  · rw [if_neg (fun h => h h1), if_neg (fun h => h h1), h2]; exact ⟨Er.nil, h3.by_⟩
noncomputable def pB (l : List ChV) : List UInt8 := if chk (fun _ => true) l ≠ 0 then [] else Wd.wr (Fe.nums l)
theorem pack_r {l : List ChV} {w w' : World} {v r : Value} (h : RPackSays l w w' v r) : r = .int .i64 (chk (fun _ => true) l) ∧ By w' v (pB l) := by
  unfold pB
  rcases h with ⟨h1, rfl, rfl⟩ | ⟨h1, rfl, h3⟩
  · rw [if_pos h1]; exact ⟨rfl, By.nil _⟩
  · rw [if_neg (fun h => h h1), h1]; exact ⟨rfl, h3.by_⟩
theorem pack_p {l : List ChV} {w w' : World} {v r : Value} (h : PackSays l w w' v r) : Er r (chk (fun _ => true) l) ∧ By w' v (pB l) := by
  unfold pB
  rcases h with ⟨h1, rfl, h2⟩ | ⟨h1, rfl, h3⟩
  · rw [if_pos h1]; exact ⟨h2, By.nil _⟩
  · rw [if_neg (fun h => h h1), h1]; exact ⟨Er.nil, h3.by_⟩
set_option maxRecDepth 100000 in
set_option maxHeartbeats 32000000 in
theorem walk (va : Value) (a : List UInt8) (vb : Value) (b : List UInt8) (vl : Value) (ks : List ChV) (w : World) (h0 : By w va a) (h1 : By w vb b) (h2 : Chl w vl ks ∧ ∀ k ∈ ks, True) (hg : Et w) :
    Calls Tryd.prog 3 #[va, vb, vl] w fun e w' => e = .returned (.bool true) ∧ Below w.heap.size w w' := by
  have A : Hid (By w va a) := h0
  have B : Hid (By w vb b) := h1
  have L : Hid (Chl w vl ks) := h2.1
  have G : Hid (Et w) := hg
  clear h0 h1 h2 hg
  go_enter Tryd.func3, Tryd.ntmps3
  go_wp2_with fail
  refine (rDiff_any _ _ a b w A.out B.out).mono ?_
  rintro e w1 ⟨v1, r1, rfl, hd, hb⟩
  have B1 : Hid (Below w.heap.size w w1) := hb
  obtain ⟨rfl, hv⟩ := dif_r hd
  have V1 : Hid (Chl w1 v1 (dL a b)) := hv
  clear hd hv hb
  obtain ⟨f1, hf1⟩ : ∃ f, dF a b = f := ⟨_, rfl⟩
  have F1 : Hid (dF a b = f1) := hf1
  rw [hf1]
  clear hf1
  go_wp2_with fail
  refine (Diff_any _ _ a b w1 (A.out.below B1.out) (B.out.below B1.out)).mono ?_
  rintro e w2 ⟨v2, r2, rfl, hd, hb⟩
  have B2 : Hid (Below w.heap.size w w2) := B1.out.trans (hb.mono B1.out.size)
  obtain ⟨he, hv⟩ := dif_p hd
  have V2 : Hid (Chl w2 v2 (dL a b)) := hv
  have V12 : Hid (Chl w2 v1 (dL a b)) := V1.out.below hb
  rw [F1.out] at he
  have E2 : Hid (Er r2 f1) := he
  clear hd hv hb he V1
  go_wp2_with fail
  refine (er_same r2 f1 w2 E2.out (G.out.below B2.out)).mono ?_
  rintro e w3 ⟨rfl, hb⟩
  have B3 : Hid (Below w.heap.size w w3) := B2.out.trans (hb.mono B2.out.size)
  have V13 : Hid (Chl w3 v1 (dL a b) ∧ Chl w3 v2 (dL a b)) := ⟨V12.out.below hb, V2.out.below hb⟩
  clear hb V12 V2
  go_wp2_with fail
  refine (changes_like _ _ (dL a b) w3 V13.out.2 V13.out.1).mono ?_
  rintro e w4 ⟨rfl, hb⟩
  have B4 : Hid (Below w.heap.size w w4) := B3.out.trans (hb.mono B3.out.size)
  clear hb V13
  go_wp2_with fail
  refine (rApply_any _ _ a ks w4 (A.out.below B4.out) (L.out.below B4.out)).mono ?_
  rintro e w5 ⟨v5, r5, rfl, hd, hb⟩
  have B5 : Hid (Below w.heap.size w w5) := B4.out.trans (hb.mono B4.out.size)
  obtain ⟨rfl, hv⟩ := app_r hd
  have V5 : Hid (By w5 v5 (aB a ks)) := hv
  clear hd hv hb
  obtain ⟨f2, hf2⟩ : ∃ f, aF a ks = f := ⟨_, rfl⟩
  have F2 : Hid (aF a ks = f2) := hf2
  rw [hf2]
  clear hf2
  go_wp2_with fail
  refine (Apply_any _ _ a ks w5 (A.out.below B5.out) (L.out.below B5.out)).mono ?_
  rintro e w6 ⟨v6, r6, rfl, hd, hb⟩
  have B6 : Hid (Below w.heap.size w w6) := B5.out.trans (hb.mono B5.out.size)
  obtain ⟨he, hv⟩ := app_p hd
  have V6 : Hid (By w6 v5 (aB a ks) ∧ By w6 v6 (aB a ks)) := ⟨V5.out.below hb, hv⟩
  rw [F2.out] at he
  have E6 : Hid (Er r6 f2) := he
  clear hd hv hb he V5
  go_wp2_with fail
  refine (er_same r6 f2 w6 E6.out (G.out.below B6.out)).mono ?_
  rintro e w7 ⟨rfl, hb⟩
  have B7 : Hid (Below w.heap.size w w7) := B6.out.trans (hb.mono B6.out.size)
  have V7 : Hid (By w7 v5 (aB a ks) ∧ By w7 v6 (aB a ks)) := ⟨V6.out.1.below hb, V6.out.2.below hb⟩
  clear hb V6
  go_wp2_with fail
  refine (rPack_any _ ks w7 (L.out.below B7.out)).mono ?_
  rintro e w8 ⟨v8, r8, rfl, hd, hb⟩
  have B8 : Hid (Below w.heap.size w w8) := B7.out.trans (hb.mono B7.out.size)
  obtain ⟨rfl, hv⟩ := pack_r hd
  have V8 : Hid (By w8 v5 (aB a ks) ∧ By w8 v6 (aB a ks) ∧ By w8 v8 (pB ks)) := ⟨V7.out.1.below hb, V7.out.2.below hb, hv⟩
  clear hd hv hb V7
  obtain ⟨f3, hf3⟩ : ∃ f, chk (fun _ => true) ks = f := ⟨_, rfl⟩
  have F3 : Hid (chk (fun _ => true) ks = f3) := hf3
  rw [hf3]
  clear hf3
  go_wp2_with fail
  refine (Pack_any _ ks w8 (L.out.below B8.out)).mono ?_
  rintro e w9 ⟨v9, r9, rfl, hd, hb⟩
  have B9 : Hid (Below w.heap.size w w9) := B8.out.trans (hb.mono B8.out.size)
  obtain ⟨he, hv⟩ := pack_p hd
  have V9 : Hid (By w9 v5 (aB a ks) ∧ By w9 v6 (aB a ks) ∧ By w9 v8 (pB ks) ∧ By w9 v9 (pB ks)) := ⟨V8.out.1.below hb, V8.out.2.1.below hb, V8.out.2.2.below hb, hv⟩
  rw [F3.out] at he
  have E9 : Hid (Er r9 f3) := he
  clear hd hv hb he V8
  go_wp2_with fail
  refine (er_same r9 f3 w9 E9.out (G.out.below B9.out)).mono ?_
  rintro e w10 ⟨rfl, hb⟩
  have B10 : Hid (Below w.heap.size w w10) := B9.out.trans (hb.mono B9.out.size)
  obtain ⟨x1, x2, x3, x4⟩ := V9.out
  have y1 := x1.below hb
  have y2 := x2.below hb
  have y3 := x3.below hb
  have y4 := x4.below hb
  clear x1 x2 x3 x4 V9
  obtain ⟨p1, q1, rfl, -⟩ := id y1
  obtain ⟨p2, q2, rfl, -⟩ := id y2
  obtain ⟨p3, q3, rfl, -⟩ := id y3
  obtain ⟨p4, q4, rfl, -⟩ := id y4
  have k1 := y1.conv
  have k2 := y2.conv
  have k3 := y3.conv
  have k4 := y4.conv
  obtain ⟨s1, hs1⟩ : ∃ s, (⟨(aB a ks).toArray⟩ : ByteArray) = s := ⟨_, rfl⟩
  obtain ⟨s2, hs2⟩ : ∃ s, (⟨(pB ks).toArray⟩ : ByteArray) = s := ⟨_, rfl⟩
  rw [hs1] at k1 k2
  rw [hs2] at k3 k4
  clear hs1 hs2 y1 y2 y3 y4 hb
  go_wp2
  go_ret
  exact ⟨rfl, B10.out⟩
end Go.Proofs.YtifijfaefpdmpaaDoor.feedTells

