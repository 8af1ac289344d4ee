/- A region that draws its order, walked along a tree of the orders that may come: reads first, then what makes memory in each order. · lock.maySend, Send. · marchref3.Sent: lists of what was sent, by append; the reference's lock in memory. · The reference's lock: Has, Waits. · The reference's orders: the fault of one. · The reference: Orders (what is wrong with orders), behind. · The reference's lock: Send. · The reference's Last as mathematics: an order stays where no later one takes its place. · The reference: Last (orders that count). · The reference's lock: Take. · Lists of lists of integers that came in. · What a walk is told of records api.Order that came in. · What a walk is told of lists of lists of orders that came in; a part of such a list. · How long lists of orders are that came in; one more behind a long one. · Are two lists of orders the same? · What plain.Told and marchsame.Error answer of nil, and of an Errno: errors.As is walked at the target *api.Errno. · An error that is told is the reference's. · Lists of integers: what marchsame.Ints answers. -/
import Derived.Test.YtbomnicnoanjlaaDoorZLockWaits3
import Derived.Lib.SliceRun
import Derived.BigQuiet
import Derived.Test.YtbomnicnoanjlaaDoorZLockWaits2
import Derived.Test.YtbomnicnoanjlaaDoorZLockWaits1
import Derived.Laws.Closers25
import Derived.IntWalk
import Derived.LoopN
import Derived.Deep.DeepCutAuto
import Derived.BigRegion
import Derived.Deep.Slices
import Derived.ProofKit
import Derived.OpenShut
import Derived.Deep.SlicePairs
import Derived.ChangeArms
import Derived.Test.YtbomnicnoanjlaaDoorRows
import Derived.WalkKit
import Derived.WalkSpells
import Derived.WalkLawsBesides
import Derived.LaidEql
import Derived.Stop.Asserts
import Derived.RowKitTokens
namespace Go.Proofs.YtbomnicnoanjlaaDoor
open Go Go.RowKit
set_option linter.unusedVariables false

inductive TrT where
  | leaf : TrT
  | read : Nat → TrT → TrT
  | one : Nat → TrT → TrT
  | two : Nat → TrT → Nat → TrT → TrT
  | three : Nat → TrT → Nat → TrT → Nat → TrT → TrT
section
variable {P : Program} {ops : Array Oper} {md : Region.Mode} {C : World → Prop} {Q : Exit → Act → World → Prop}
def wpTr (P : Program) (ops : Array Oper) (C : World → Prop) (K : Act → World → Prop) : TrT → Act → World → Prop
  | .leaf, a, W => K a W
  | .read i t, a, W => ∃ o v, ops[i]? = some o ∧ YieldsS P ops C o v a ∧ wpTr P ops C K t (a.put o.dst v) W
  | .one i t, a, W => ∃ o, ops[i]? = some o ∧ StepS P ops C o (wpTr P ops C K t) a W
  | .two i t j u, a, W => (∃ o, ops[i]? = some o ∧ StepS P ops C o (wpTr P ops C K t) a W) ∧ (∃ o, ops[j]? = some o ∧ StepS P ops C o (wpTr P ops C K u) a W)
  | .three i t j u k v, a, W => (∃ o, ops[i]? = some o ∧ StepS P ops C o (wpTr P ops C K t) a W) ∧ (∃ o, ops[j]? = some o ∧ StepS P ops C o (wpTr P ops C K u) a W) ∧ (∃ o, ops[k]? = some o ∧ StepS P ops C o (wpTr P ops C K v) a W)
def trB (md : Region.Mode) (ops : Array Oper) (H0 : Array Bool) : Nat → TrT → Array Bool → Bool
  | 0, .leaf, listed => decide (listed = H0)
  | n + 1, .read i t, listed => (Region.ready md ops listed).contains i && (Region.free md ops listed i && ((waits md ops H0 i || decide (Region.ready md ops (H0.setIfInBounds i false) = [i])) && trB md ops H0 n t (listed.setIfInBounds i true)))
  | n + 1, .one i t, listed => (Region.ready md ops listed).contains i && ((Region.ready md ops listed).all (fun x => decide (x = i)) && trB md ops H0 n t (listed.setIfInBounds i true))
  | n + 1, .two i t j u, listed => (Region.ready md ops listed).contains i && ((Region.ready md ops listed).contains j && ((Region.ready md ops listed).all (fun x => decide (x = i) || decide (x = j)) && (trB md ops H0 n t (listed.setIfInBounds i true) && trB md ops H0 n u (listed.setIfInBounds j true))))
  | n + 1, .three i t j u k v, listed => (Region.ready md ops listed).contains i && ((Region.ready md ops listed).contains j && ((Region.ready md ops listed).contains k && ((Region.ready md ops listed).all (fun x => decide (x = i) || (decide (x = j) || decide (x = k))) && (trB md ops H0 n t (listed.setIfInBounds i true) && (trB md ops H0 n u (listed.setIfInBounds j true) && trB md ops H0 n v (listed.setIfInBounds k true))))))
  | _, _, _ => false
theorem wpAnyT_of_tr {K : Act → World → Prop} {H0 : Array Bool} (hsel : Region.noSelect ops = true) : ∀ (n : Nat) (t : TrT) (listed : Array Bool) (a : Act) (W : World), Clos md ops listed → trB md ops H0 n t listed = true → C W → wpTr P ops C K t a W → wpAnyT P md ops C (fun l a W => l = H0 ∧ K a W) n listed a W
  | 0, .leaf, listed, a, W, inv, hB, hC, h => by
    simp only [trB, decide_eq_true_eq] at hB
    exact ⟨hB, h⟩
  | n + 1, .read i t, listed, a, W, inv, hB, hC, h => by
    simp only [trB, Bool.and_eq_true, Bool.or_eq_true, decide_eq_true_eq] at hB
    obtain ⟨hr, hf, hH, hB⟩ := hB
    obtain ⟨o, v, ho, hy, hk⟩ := h
    have hr' : i ∈ Region.ready md ops listed := by simpa using hr
    exact wpAnyT_first ho (Region.noSelect_spec hsel) hH (fun _ _ _ h => h.1) n listed a W inv (Region.free_spec ho hf) hr' hy hC (wpAnyT_of_tr hsel n t _ _ _ (inv.set hr') hB hC hk)
  | n + 1, .one i t, listed, a, W, inv, hB, hC, h => by
    simp only [trB, Bool.and_eq_true] at hB
    obtain ⟨hr, hall, hB⟩ := hB
    have hr' : i ∈ Region.ready md ops listed := by simpa using hr
    obtain ⟨o, ho, hs⟩ := h
    refine ⟨fun h => (by rw [h] at hr'; cases hr'), fun x hx => ?_⟩
    have hx' := List.all_eq_true.1 hall x hx
    simp only [decide_eq_true_eq] at hx'
    subst hx'
    exact ⟨o, ho, hs.mono fun a' W' hC' hk => wpAnyT_of_tr hsel n t _ _ _ (inv.set hr') hB hC' hk⟩
  | n + 1, .two i t j u, listed, a, W, inv, hB, hC, h => by
    simp only [trB, Bool.and_eq_true] at hB
    obtain ⟨hi, hj, hall, hB1, hB2⟩ := hB
    have hi' : i ∈ Region.ready md ops listed := by simpa using hi
    have hj' : j ∈ Region.ready md ops listed := by simpa using hj
    obtain ⟨⟨o, ho, hs⟩, ⟨o2, ho2, hs2⟩⟩ := h
    refine ⟨fun h => (by rw [h] at hi'; cases hi'), fun x hx => ?_⟩
    have hx' := List.all_eq_true.1 hall x hx
    simp only [Bool.or_eq_true, decide_eq_true_eq] at hx'
    rcases hx' with e | e
    · subst e; exact ⟨o, ho, hs.mono fun a' W' hC' hk => wpAnyT_of_tr hsel n t _ _ _ (inv.set hi') hB1 hC' hk⟩
    · subst e; exact ⟨o2, ho2, hs2.mono fun a' W' hC' hk => wpAnyT_of_tr hsel n u _ _ _ (inv.set hj') hB2 hC' hk⟩
  | n + 1, .three i t j u k v, listed, a, W, inv, hB, hC, h => by
    simp only [trB, Bool.and_eq_true] at hB
    obtain ⟨hi, hj, hk, hall, hB1, hB2, hB3⟩ := hB
    have hi' : i ∈ Region.ready md ops listed := by simpa using hi
    have hj' : j ∈ Region.ready md ops listed := by simpa using hj
    have hk' : k ∈ Region.ready md ops listed := by simpa using hk
    obtain ⟨⟨o, ho, hs⟩, ⟨o2, ho2, hs2⟩, ⟨o3, ho3, hs3⟩⟩ := h
    refine ⟨fun h => (by rw [h] at hi'; cases hi'), fun x hx => ?_⟩
    have hx' := List.all_eq_true.1 hall x hx
    simp only [Bool.or_eq_true, decide_eq_true_eq] at hx'
    rcases hx' with e | e | e
    · subst e; exact ⟨o, ho, hs.mono fun a' W' hC' hk => wpAnyT_of_tr hsel n t _ _ _ (inv.set hi') hB1 hC' hk⟩
    · subst e; exact ⟨o2, ho2, hs2.mono fun a' W' hC' hk => wpAnyT_of_tr hsel n u _ _ _ (inv.set hj') hB2 hC' hk⟩
    · subst e; exact ⟨o3, ho3, hs3.mono fun a' W' hC' hk => wpAnyT_of_tr hsel n v _ _ _ (inv.set hk') hB3 hC' hk⟩
  | 0, .read _ _, _, _, _, _, hB, _, _ => by simp [trB] at hB
  | 0, .one _ _, _, _, _, _, hB, _, _ => by simp [trB] at hB
  | 0, .two _ _ _ _, _, _, _, _, hB, _, _ => by simp [trB] at hB
  | 0, .three _ _ _ _ _ _, _, _, _, _, hB, _, _ => by simp [trB] at hB
  | _ + 1, .leaf, _, _, _, _, hB, _, _ => by simp [trB] at hB
/-- the region: along the tree, in the worlds C; then its tail. s: what the tree holds, in any order. -/
theorem wp_region_tree {id : Nat} {a : Act} {w : World} (T : TrT) (s t : List (Bool × Nat)) (C : World → Prop) (hm : P.follows .mixedOrders = true) (hs : Region.noSelect ops = true) (hl : s.length + t.length = ops.size)
    (hB : trB .any ops (listedBy ops.size s) s.length T (Array.replicate ops.size false) = true)
    (hT : schedB .any ops t (listedBy ops.size s) = true)
    (hC : C { w with drawn := w.drawn + 1 }) (h : wpTr P ops C (wpSched P ops (fun _ => True) Q t) T a { w with drawn := w.drawn + 1 }) : (Code.region id ops true).wp P Q a w := by
  refine wp_region_any hm ?_
  rw [← hl]
  refine wpAny_of_T (g := t.length) (fun listed a W hh => ?_) _ _ _ _ (wpAnyT_of_tr (H0 := listedBy ops.size s) hs s.length T _ a _ (fun j oj _ hj => by rw [getD_replicate_false] at hj; cases hj) (by rw [hl]; exact hB) hC h)
  obtain ⟨rfl, hk⟩ := hh
  exact wpAny_of_S _ _ _ _ (wpAnyS_of_sched hs t _ a W hT trivial hk)
theorem tr_read {K : Act → World → Prop} {i : Nat} {t : TrT} {o : Oper} {a : Act} {W : World} (ho : ops[i]? = some o) (v : Value) (hw : Region.wanted o (yielded ops a.tmps) = true) (hr : ∀ W, C W → (execOp a.eval o).run P W = .ok (.value v) W) (h : wpTr P ops C K t (a.put o.dst v) W) : wpTr P ops C K (.read i t) a W :=
  ⟨o, v, ho, ⟨hw, hr⟩, h⟩
theorem tr_one {K : Act → World → Prop} {i : Nat} {t : TrT} {a : Act} {W : World} (h : ∃ o, ops[i]? = some o ∧ StepS P ops C o (wpTr P ops C K t) a W) : wpTr P ops C K (.one i t) a W := h
theorem tr_two {K : Act → World → Prop} {i j : Nat} {t u : TrT} {a : Act} {W : World} (h : ∃ o, ops[i]? = some o ∧ StepS P ops C o (wpTr P ops C K t) a W) (h2 : ∃ o, ops[j]? = some o ∧ StepS P ops C o (wpTr P ops C K u) a W) : wpTr P ops C K (.two i t j u) a W := ⟨h, h2⟩
theorem tr_three {K : Act → World → Prop} {i j k : Nat} {t u v : TrT} {a : Act} {W : World} (h : ∃ o, ops[i]? = some o ∧ StepS P ops C o (wpTr P ops C K t) a W) (h2 : ∃ o, ops[j]? = some o ∧ StepS P ops C o (wpTr P ops C K u) a W) (h3 : ∃ o, ops[k]? = some o ∧ StepS P ops C o (wpTr P ops C K v) a W) : wpTr P ops C K (.three i t j u k v) a W := ⟨h, h2, h3⟩
theorem st_call {K : Act → World → Prop} {i : Nat} {o : Oper} {a : Act} {W : World} (ho : ops[i]? = some o) (f : FuncId) (args : Array Value) (hw : Region.wanted o (yielded ops a.tmps) = true) (hr : (execOp a.eval o).run P W = .ok (.enter f args) W)
    (hc : Calls P f args W (fun e w' => ∃ v, e = .returned v ∧ C w' ∧ K (a.put o.dst v) w')) : ∃ o, ops[i]? = some o ∧ StepS P ops C o K a W :=
  ⟨o, ho, hw, .inr (.inr ⟨f, args, hr, hc⟩)⟩
theorem st_value {K : Act → World → Prop} {i : Nat} {o : Oper} {a : Act} {W : World} (ho : ops[i]? = some o) (v : Value) (W' : World) (hw : Region.wanted o (yielded ops a.tmps) = true) (hr : (execOp a.eval o).run P W = .ok (.value v) W') (hC : C W') (h : K (a.put o.dst v) W') : ∃ o, ops[i]? = some o ∧ StepS P ops C o K a W :=
  ⟨o, ho, hw, .inl ⟨v, W', hr, hC, h⟩⟩
theorem st_skip {K : Act → World → Prop} {i : Nat} {o : Oper} {a : Act} {W : World} (ho : ops[i]? = some o) (W' : World) (hw : Region.wanted o (yielded ops a.tmps) = true) (hr : (execOp a.eval o).run P W = .ok .skip W') (hC : C W') (h : K (a.put o.dst undef) W') : ∃ o, ops[i]? = some o ∧ StepS P ops C o K a W :=
  ⟨o, ho, hw, .inr (.inl ⟨W', hr, hC, h⟩)⟩
end
end Go.Proofs.YtbomnicnoanjlaaDoor

namespace Go.Proofs.YtbomnicnoanjlaaDoor
open Go.RowKit Go.Proofs.YtbomnicnoanjlaaDoor.So
set_option linter.unusedVariables false

/-- what maySend says. -/
def mayF (L : LoV) (p t : Int) : Int := if 0 ≤ p ∧ p < (L.out.length : Int) then (if L.out.getD p.toNat true = true ∨ t < L.now then 7 else if L.now + L.delay < t then 1 else if (L.sent t p).isSome then 8 else 0) else 1
theorem below_dn9 {B : Nat} {a w : World} (h : Below B a w) (n : Nat) : Below B a (w.drewN n) := h.trans ⟨rfl, rfl, rfl, Nat.le_refl _, fun _ _ => rfl⟩
set_option maxRecDepth 100000 in
set_option maxHeartbeats 8000000 in
theorem lmay_any (z bo bm : Nat) (L : LoV) (p t : Int) (w : World) (h : Lk w z bo bm L) (hl : L.out.length ≤ 4) (hn : 0 ≤ L.now ∧ L.now ≤ 1000000) (hd : 0 ≤ L.delay ∧ L.delay ≤ 20) (ht : (Lit.int .i64 t).wf = true) :
    Calls Tryd.prog 18 #[.pointer (some ⟨z, 0, none⟩), .int .i64 p, .int .i64 t] w fun e w' => ∃ r, e = .returned r ∧ Er r (mayF L p t) ∧ Below w.heap.size w w' := by
  have H : Hid (Lk w z bo bm L) := h
  clear h
  obtain ⟨R, hR⟩ : ∃ R, mayF L p t = R := ⟨_, rfl⟩
  have HR : Hid (mayF L p t = R) := hR
  rw [hR]
  clear hR
  go_enter Tryd.func18, Tryd.ntmps18
  go_wp2_with fail
  refine (lplays_any z bo bm L p w H.out hl).mono ?_
  rintro e w1 ⟨rfl, b1⟩
  have B1 : Hid (Below w.heap.size w w1) := b1
  have H1 : Hid (Lk w1 z bo bm L) := H.out.below b1
  clear b1 H
  by_cases hp : 0 ≤ p ∧ p < (L.out.length : Int)
  case neg =>
    have E : decide (0 ≤ p ∧ p < (L.out.length : Int)) = false := decide_eq_false hp
    have F : Hid (R = 1) := by unfold Hid; rw [← HR.out]; unfold mayF; rw [if_neg hp]
    rw [E]
    clear E hp
    go_wp2
    go_ret
    exact ⟨_, rfl, by rw [F.out]; exact Er.no (by decide), B1.out⟩
  have E : decide (0 ≤ p ∧ p < (L.out.length : Int)) = true := decide_eq_true hp
  rw [E]
  clear E
  obtain ⟨q, rfl⟩ : ∃ q : Nat, p = (q : Nat) := ⟨p.toNat, by omega⟩
  have hqk : q < L.out.length := by omega
  have hqi : (q : Int) < (L.out.length : Nat) := by omega
  obtain ⟨d, hd'⟩ : ∃ d, L.out[q]? = some d := ⟨_, List.getElem?_eq_getElem hqk⟩
  have HD : Hid (R = if d = true ∨ t < L.now then 7 else if L.now + L.delay < t then 1 else if (L.sent t q).isSome then 8 else 0) := by unfold Hid; rw [← HR.out]; unfold mayF; rw [if_pos hp, List.getD_eq_getElem?_getD, Int.toNat_natCast, hd']; rfl
  have qc := H1.out.b.cell hd'
  obtain ⟨c0, c1, c2, c3⟩ := H1.out.cells
  clear hd' hp c3
  cases d
  case true =>
    have F : Hid (R = 7) := by unfold Hid; rw [HD.out, if_pos (.inl rfl)]
    go_wp2
    go_ret
    exact ⟨_, rfl, by rw [F.out]; exact Er.no (by decide), B1.out⟩
  by_cases h1 : t < L.now
  · have F : Hid (R = 7) := by unfold Hid; rw [HD.out, if_pos (.inr h1)]
    go_wp2
    go_ret
    exact ⟨_, rfl, by rw [F.out]; exact Er.no (by decide), B1.out⟩
  have HD2 : Hid (R = if L.now + L.delay < t then 1 else if (L.sent t q).isSome then 8 else 0) := by unfold Hid; rw [HD.out, if_neg (by rintro (h | h); cases h; exact h1 h)]
  clear HD
  have NW : IntKind.i64.wrap (L.now + L.delay) = L.now + L.delay := by rw [IntKind.wrap_i64]; omega
  by_cases h2 : L.now + L.delay < t
  · have F : Hid (R = 1) := by unfold Hid; rw [HD2.out, if_pos h2]
    have h2d : decide (L.now + L.delay < t) = true := decide_eq_true h2
    go_upto_region 5 with fail
    go_quiet (fail)
    go_wp2
    go_ret
    exact ⟨_, rfl, by rw [F.out]; exact Er.no (by decide), below_dn9 B1.out _⟩
  have h2d : decide (L.now + L.delay < t) = false := decide_eq_false h2
  have F : Hid (R = if (L.sent t q).isSome then 8 else 0) := by unfold Hid; rw [HD2.out, if_neg h2]
  have WQ : Hid ((Lit.int .i64 ((q : Nat) : Int)).wf = true) := pmwf (by omega) (by omega)
  clear HD2
  go_upto_region 5 with fail
  go_quiet (fail)
  have DQ : Hid (Below w1.heap.size w1 (w1.drewN nq)) := below_dn9 (Below.refl _ _) _
  generalize w1.drewN nq = w2 at *
  have B2 : Hid (Below w.heap.size w w2) := B1.out.trans (DQ.out.mono B1.out.size)
  have H2 : Hid (Lk w2 z bo bm L) := H1.out.below DQ.out
  clear c0 c1 c2 qc
  go_wp2_with fail
  refine (lhas_any z bo bm L _ _ w2 H2.out WQ.out ht).mono ?_
  rintro e w3 ⟨rfl, b3⟩
  have B3 : Hid (Below w.heap.size w w3) := B2.out.trans (b3.mono B2.out.size)
  clear b3
  obtain ⟨s, hs⟩ : ∃ s, (L.sent t q).isSome = s := ⟨_, rfl⟩
  have FS : Hid (R = if s then 8 else 0) := by unfold Hid; rw [F.out, hs]
  rw [hs]
  clear hs F
  cases s
  · go_wp2
    go_ret
    exact ⟨_, rfl, by rw [FS.out]; exact Er.nil, B3.out⟩
  · go_wp2
    go_ret
    exact ⟨_, rfl, by rw [FS.out]; exact Er.no (by decide), B3.out⟩
set_option maxHeartbeats 4000000 in
theorem lsend1_any (o : OrV) (b : Nat) (p : Int) (w : World) (hc : w.cell? ⟨b, 0, none⟩ = some (.int .i64 p)) :
    Calls Tryd.prog 21 (#[o.val] ++ #[.pointer (some ⟨b, 0, none⟩)]) w fun e w' => e = .returned (.bool (o.player != p)) ∧ Below w.heap.size w w' := by
  unfold OrV.val
  have hc' : (w.alloc (Obj.cells #[.int .i64 o.player, .int .i64 o.unit, .int .i64 o.what, .int .i64 o.arg] 38)).cell? ⟨b, 0, none⟩ = some (.int .i64 p) := by
    rw [((Below.refl w.heap.size w).alloc (Nat.le_refl _) _).cell (p := ⟨b, 0, none⟩) (cell_lt hc)]; exact hc
  have BB : Hid (Below w.heap.size w (w.alloc (Obj.cells #[.int .i64 o.player, .int .i64 o.unit, .int .i64 o.what, .int .i64 o.arg] 38))) := (Below.refl _ _).alloc (Nat.le_refl _) _
  by_cases e : o.player = p
  · have E : Hid ((o.player != p) = false) := by unfold Hid; rw [e]; simp
    have eb : (o.player == p) = true := beq_iff_eq.2 e
    clear e
    go_enter Tryd.func21, Tryd.ntmps21
    go_wp2
    go_ret
    exact ⟨by rw [E.out]; rfl, BB.out⟩
  · have eb : (o.player == p) = false := beq_eq_false_iff_ne.2 e
    have E : Hid ((o.player != p) = true) := by unfold Hid; simp [bne, eb]
    clear e
    go_enter Tryd.func21, Tryd.ntmps21
    go_wp2
    go_ret
    exact ⟨by rw [E.out]; rfl, BB.out⟩
set_option maxRecDepth 100000 in
set_option maxHeartbeats 4000000 in
theorem cloneo_any (v : Value) (l : List OrV) (w : World) (h : Orl w v l) (hl : l.length ≤ 1048576) :
    Calls Tryd.prog 22 #[v] w fun e w' => ∃ u, e = .returned u ∧ Oro w' w.heap.size u l ∧ Below w.heap.size w w' := by
  have H : Hid (Orl w v l) := h
  obtain ⟨a, c, rfl, c1, c2, c3⟩ := h
  cases a with
  | none =>
    have E : Hid (l = []) := by
      by_cases e : l = []
      · exact e
      · obtain ⟨x, h, -⟩ := c3 e; cases h
    clear c3
    have hq : ∀ W : World, (binOp .eql 23 (.slice none l.length c) (.slice none 0 0)).run Tryd.prog W = .ok (.bool true) W := fun W => Lib.run_eql_slice_nil W _ _ none _ _ _ _ Tryd.underlying23
    go_enter Tryd.func22, Tryd.ntmps22
    go_wp2
    go_ret
    exact ⟨_, rfl, by rw [E.out]; exact Oro.nil _ _, Below.refl _ _⟩
  | some x =>
    clear c3
    have OA : Hid (Oro (w.alloc (Obj.cells #[] 38)) w.heap.size (.slice (some ⟨w.heap.size, 0, none⟩) 0 0) []) := ⟨rfl, .inr ⟨_, _, _, rfl, Nat.le_refl _, heap_alloc_new w _, Nat.le_refl _, by unfold maxLen; decide, rfl, rfl⟩⟩
    have BA : Hid (Below w.heap.size w (w.alloc (Obj.cells #[] 38))) := (Below.refl _ _).alloc (Nat.le_refl _) _
    have LA : Hid (Orl (w.alloc (Obj.cells #[] 38)) (.slice (some x) l.length c) l) := H.out.below BA.out
    have hq : ∀ W : World, (binOp .eql 23 (.slice (some x) l.length c) (.slice none 0 0)).run Tryd.prog W = .ok (.bool false) W := fun W => Lib.run_eql_slice_nil W _ _ (some x) _ _ _ _ Tryd.underlying23
    go_enter Tryd.func22, Tryd.ntmps22
    go_wp2_with (at_builtin; refine app_ors _ rfl _ _ rfl w.heap.size _ [] rfl OA.out _ l rfl LA.out (by simp; omega) BA.out.size ?_)
    intro v5 w2 o2 g2 e2
    have O2 : Hid (Oro w2 w.heap.size v5 l) := by unfold Hid; simpa using o2
    have B2 : Hid (Below w.heap.size w w2) := BA.out.grown g2 BA.out.size (fun k hk => (OA.out.block k hk).1)
    clear o2 g2 e2
    go_wp2
    go_ret
    exact ⟨_, rfl, O2.out, B2.out⟩
/-- what Send says. -/
def sendF (L : LoV) (p t : Int) (l : List OrV) : Int := if mayF L p t = 0 then (if Od.faults l = 0 then (if l.any (fun o => o.player != p) then 3 else 0) else Od.faults l) else mayF L p t
/-- something was sent. -/
def LoV.put (L : LoV) (p t : Int) (l : List OrV) : LoV := { L with sent := fun t' p' => if t' = t ∧ p' = p then some l else L.sent t' p', many := L.many + 1 }
/-- what comes of it. -/
def SendSays (z bo bm : Nat) (L : LoV) (p t : Int) (l : List OrV) (w : World) (e : Ending) (w' : World) : Prop := ∃ r, e = .returned r ∧ Er r (sendF L p t l) ∧ Lf z bo bm w w' ∧ ((sendF L p t l = 0 ∧ Lk w' z bo bm (L.put p t l)) ∨ (sendF L p t l ≠ 0 ∧ Lk w' z bo bm L))
theorem Lk.puts {w w' : World} {z bo bm : Nat} {L : LoV} (h : Lk w z bo bm L) {p t : Int} {v : Value} {l : List OrV} {f : Int → Int → Option Value} (hs : ∀ t' p', (f t' p' = none ∧ L.sent t' p' = none) ∨ ∃ v l, f t' p' = some v ∧ L.sent t' p' = some l ∧ Oro w 0 v l) (hv : Oro w 0 v l) (hm : Pm w' bm (L.many + 1) (pmSet f t p (some v))) (g : w.grownBy w' (some bm)) : Lk w' z bo bm (L.put p t l) ∧ Lf z bo bm w w' := by
  have G : Lf z bo bm w w' := Lf.gb g (fun k hk => by injection hk with hk; exact .inr (.inr hk.symm))
  refine ⟨⟨(g.block z h.lz (fun e => by injection e with e; exact h.zm e)).trans h.x, ?_, _, hm, fun t' p' => ?_⟩, G⟩
  · have := h.b
    unfold Bb at *
    exact (g.block bo h.lb (fun e => by injection e with e; exact h.bm e)).trans this
  · unfold pmSet LoV.put
    simp only
    by_cases c : t' = t ∧ p' = p
    · rw [if_pos c, if_pos c]
      exact .inr ⟨v, l, rfl, rfl, h.oro G hv⟩
    · rw [if_neg c, if_neg c]
      rcases hs t' p' with h1 | ⟨v, l, a1, a2, a3⟩
      · exact .inl h1
      · exact .inr ⟨v, l, a1, a2, h.oro G a3⟩
set_option maxRecDepth 100000 in
set_option maxHeartbeats 8000000 in
theorem lsend_any (z bo bm : Nat) (L : LoV) (p t : Int) (v : Value) (l : List OrV) (w : World) (h : Lk w z bo bm L) (hl : L.out.length ≤ 4) (hn : 0 ≤ L.now ∧ L.now ≤ 1000000) (hd : 0 ≤ L.delay ∧ L.delay ≤ 20) (hm : L.many ≤ 1000000) (hp : (Lit.int .i64 p).wf = true) (ht : (Lit.int .i64 t).wf = true) (ho : Orl w v l) :
    Calls Tryd.prog 6 #[.pointer (some ⟨z, 0, none⟩), .int .i64 p, .int .i64 t, v] w (SendSays z bo bm L p t l w) := by
  have BB : Hid (Below w.heap.size w (w.alloc (Obj.cells #[.int .i64 p] 3))) := (Below.refl _ _).alloc (Nat.le_refl _) _
  have CB : Hid ((w.alloc (Obj.cells #[.int .i64 p] 3)).cell? ⟨w.heap.size, 0, none⟩ = some (.int .i64 p)) := by
    unfold Hid
    simp only [World.cell?, heap_alloc_new]
    rfl
  have H0 : Hid (Lk (w.alloc (Obj.cells #[.int .i64 p] 3)) z bo bm L) := h.below BB.out
  have OL : Hid (Orl (w.alloc (Obj.cells #[.int .i64 p] 3)) v l) := ho.below BB.out
  have WF : Hid ((Lit.int .i64 p).wf = true ∧ (Lit.int .i64 t).wf = true) := ⟨hp, ht⟩
  have LZ : Hid (z < w.heap.size ∧ bo < w.heap.size ∧ bm < w.heap.size) := ⟨h.lz, h.lb, h.lm⟩
  obtain ⟨av, cv, rfl, -⟩ := ho
  clear h hp ht
  go_enter Tryd.func6, Tryd.ntmps6
  go_upto_region 1 with fail
  obtain ⟨y, hy⟩ : ∃ y, w.heap.size = y := ⟨_, rfl⟩
  have SY : Hid (w.heap.size = y) := hy
  rw [hy] at CB
  (try rw [hy])
  clear hy
  generalize (w.alloc (Obj.cells #[.int .i64 p] 3)) = w0 at *
  have c0 := CB.out
  obtain ⟨R, hR⟩ : ∃ R, sendF L p t l = R := ⟨_, rfl⟩
  have HR : Hid (sendF L p t l = R) := hR
  clear hR
  go_wp2_with fail
  refine (lmay_any z bo bm L p t w0 H0.out hl hn hd WF.out.2).mono ?_
  rintro e w1 ⟨r1, rfl, hr, b1⟩
  have B1 : Hid (Below w.heap.size w w1) := BB.out.trans (b1.mono BB.out.size)
  have H1 : Hid (Lk w1 z bo bm L) := H0.out.below b1
  have O1 : Hid (Orl w1 (.slice av l.length cv) l) := OL.out.below b1
  have C1 : Hid (w1.cell? ⟨y, 0, none⟩ = some (.int .i64 p)) := by unfold Hid; rw [b1.cell (p := ⟨y, 0, none⟩) (cell_lt CB.out)]; exact CB.out
  clear b1 c0 CB H0 OL BB
  rcases hr with ⟨hf, rfl⟩ | ⟨hf, rfl⟩
  case inr =>
    have F : Hid (R = mayF L p t ∧ R ≠ 0) := by unfold Hid; rw [← HR.out]; unfold sendF; rw [if_neg hf]; exact ⟨rfl, hf⟩
    clear hf
    go_wp2
    go_ret
    exact ⟨_, rfl, by rw [HR.out, ← F.out.1]; exact Er.no F.out.2, Lf.of B1.out, .inr ⟨by rw [HR.out]; exact F.out.2, H1.out⟩⟩
  have F1 : Hid (R = if Od.faults l = 0 then (if l.any (fun o => o.player != p) then 3 else 0) else Od.faults l) := by unfold Hid; rw [← HR.out]; unfold sendF; rw [if_pos hf]
  clear hf
  go_wp2_with fail
  refine (ocheck_any _ l w1 O1.out).mono ?_
  rintro e w2 ⟨r2, rfl, hr, b2⟩
  have B2 : Hid (Below w.heap.size w w2) := B1.out.trans (b2.mono B1.out.size)
  have H2 : Hid (Lk w2 z bo bm L) := H1.out.below b2
  have O2 : Hid (Orl w2 (.slice av l.length cv) l) := O1.out.below b2
  have C2 : Hid (w2.cell? ⟨y, 0, none⟩ = some (.int .i64 p)) := by unfold Hid; rw [b2.cell (p := ⟨y, 0, none⟩) (cell_lt C1.out)]; exact C1.out
  clear b2 C1 H1 O1 B1
  rcases hr with ⟨hf, rfl⟩ | ⟨hf, rfl⟩
  case inr =>
    have F : Hid (R = Od.faults l ∧ R ≠ 0) := by unfold Hid; rw [F1.out, if_neg hf]; exact ⟨rfl, hf⟩
    clear hf
    go_wp2
    go_ret
    exact ⟨_, rfl, by rw [HR.out, ← F.out.1]; exact Er.no F.out.2, Lf.of B2.out, .inr ⟨by rw [HR.out]; exact F.out.2, H2.out⟩⟩
  have F2 : Hid (R = if l.any (fun o => o.player != p) then 3 else 0) := by unfold Hid; rw [F1.out, if_pos hf]
  have L60 : Hid (l.length ≤ 60) := (Od.faults_ok hf).1
  clear hf F1
  have HC : Hid (Calls Tryd.prog 20 #[.slice av l.length cv, .func (Fn.func 21) #[] #[.pointer (some ⟨y, 0, none⟩)]] w2 fun e w' => e = .returned (.bool (l.any (fun o => o.player != p))) ∧ Below w2.heap.size w2 w') :=
    haso_any 21 (fun args w => by rfl) _ _ l (fun o => o.player != p) w2 O2.out (fun W hW k _ => lsend1_any k y p W (by rw [hW.cell (p := ⟨y, 0, none⟩) (cell_lt C2.out)]; exact C2.out))
  go_wp2_with fail
  refine HC.out.mono ?_
  rintro e w3 ⟨rfl, b3⟩
  have B3 : Hid (Below w.heap.size w w3) := B2.out.trans (b3.mono B2.out.size)
  have H3 : Hid (Lk w3 z bo bm L) := H2.out.below b3
  have O3 : Hid (Orl w3 (.slice av l.length cv) l) := O2.out.below b3
  have C3 : Hid (w3.cell? ⟨y, 0, none⟩ = some (.int .i64 p)) := by unfold Hid; rw [b3.cell (p := ⟨y, 0, none⟩) (cell_lt C2.out)]; exact C2.out
  clear b3 C2 H2 O2 B2 HC
  obtain ⟨s, hs⟩ : ∃ s, l.any (fun o => o.player != p) = s := ⟨_, rfl⟩
  have F3 : Hid (R = if s then 3 else 0) := by unfold Hid; rw [F2.out, hs]
  rw [hs]
  clear hs F2
  cases s
  case true =>
    go_wp2
    go_ret
    exact ⟨_, rfl, by rw [HR.out, F3.out]; exact Er.no (by decide), Lf.of B3.out, .inr ⟨by rw [HR.out, F3.out]; decide, H3.out⟩⟩
  case false =>
    have F4 : Hid (R = 0) := F3.out
    have K3 : Hid (∀ V, Below w3.heap.size w3 V → V.cell? ⟨y, 0, none⟩ = some (.int .i64 p) ∧ V.cell? ⟨z, 3, none⟩ = some (.map (some bm))) := fun V hV => ⟨by rw [hV.cell (p := ⟨y, 0, none⟩) (cell_lt C3.out)]; exact C3.out, (H3.out.below hV).cells.2.2.2⟩
    go_upto_region 9 with fail
    refine wp_region_tree (.read 0 (.read 1 (.read 2 (.read 3 (.read 4 (.read 5 (.read 6 (.read 7 (.one 8 .leaf))))))))) [(false, 0), (false, 1), (false, 2), (false, 3), (false, 4), (false, 5), (false, 6), (false, 7), (false, 8)] [(false, 9)] (fun V => V.cell? ⟨y, 0, none⟩ = some (.int .i64 p) ∧ V.cell? ⟨z, 3, none⟩ = some (.map (some bm))) (by kernel_rfl) (by kernel_rfl) (by kernel_rfl) (by decide +kernel) (by decide +kernel) (K3.out _ (Below.refl _ _).drew) ?_
    have D3 : Hid (Below w3.heap.size w3 { w3 with drawn := w3.drawn + 1 }) := (Below.refl _ _).drew
    generalize ({ w3 with drawn := w3.drawn + 1 } : World) = w4 at *
    have B4 : Hid (Below w.heap.size w w4) := B3.out.trans (D3.out.mono B3.out.size)
    have H4 : Hid (Lk w4 z bo bm L) := H3.out.below D3.out
    have O4 : Hid (Orl w4 (.slice av l.length cv) l) := O3.out.below D3.out
    refine tr_read rfl (.pointer (some ⟨z, 0, none⟩)) (by go_simp) (fun V hV => by obtain ⟨v0, v1⟩ := hV; go_simp) ?_
    go_simp
    refine tr_read rfl (.pointer (some ⟨z, 0, none⟩)) (by go_simp) (fun V hV => by obtain ⟨v0, v1⟩ := hV; go_simp) ?_
    go_simp
    refine tr_read rfl (.pointer (some ⟨z, 3, none⟩)) (by go_simp) (fun V hV => by obtain ⟨v0, v1⟩ := hV; go_simp) ?_
    go_simp
    refine tr_read rfl (.map (some bm)) (by go_simp) (fun V hV => by obtain ⟨v0, v1⟩ := hV; go_simp) ?_
    go_simp
    refine tr_read rfl (.int .i64 t) (by go_simp) (fun V hV => by obtain ⟨v0, v1⟩ := hV; go_simp) ?_
    go_simp
    refine tr_read rfl (.int .i64 p) (by go_simp) (fun V hV => by obtain ⟨v0, v1⟩ := hV; go_simp) ?_
    go_simp
    refine tr_read rfl (.agg #[.int .i64 t, .int .i64 p]) (by go_simp) (fun V hV => by obtain ⟨v0, v1⟩ := hV; go_simp) ?_
    go_simp
    refine tr_read rfl (.slice av l.length cv) (by go_simp) (fun V hV => by obtain ⟨v0, v1⟩ := hV; go_simp) ?_
    go_simp
    refine tr_one ?_
    refine st_call rfl 22 #[.slice av l.length cv] (by go_simp) (by go_simp) ?_
    refine (cloneo_any _ l w4 O4.out (by have := L60.out; omega)).mono ?_
    rintro e w5 ⟨u, rfl, ho, b5⟩
    have B5 : Hid (Below w.heap.size w w5) := B4.out.trans (b5.mono B4.out.size)
    have H5 : Hid (Lk w5 z bo bm L) := H4.out.below b5
    have D5 : Hid (Below w3.heap.size w3 w5) := D3.out.trans (b5.mono D3.out.size)
    obtain ⟨f, M, S⟩ := H5.out.m
    obtain ⟨w6, up, m6, g6⟩ := M.put (by unfold maxLen; omega) WF.out.2 WF.out.1 u
    have P6 := H5.out.puts S (ho.mono (Nat.zero_le _)) m6 g6
    have F6 : Hid (Lk w6 z bo bm (L.put p t l) ∧ Lf z bo bm w w6) := ⟨P6.1, (Lf.of B5.out).trans P6.2⟩
    refine ⟨_, rfl, K3.out _ D5.out, ?_⟩
    clear ho b5 m6 g6 P6 M S
    go_simp
    unfold wpTr
    refine sched_skip rfl w6 (by go_simp) (by go_simp) trivial ?_
    go_simp
    unfold wpSched
    go_wp2
    go_ret
    exact ⟨_, rfl, by rw [HR.out, F4.out]; exact Er.nil, F6.out.2, .inl ⟨by rw [HR.out, F4.out], F6.out.1⟩⟩
end Go.Proofs.YtbomnicnoanjlaaDoor

namespace Go.Proofs.YtbomnicnoanjlaaDoor
open Go.RowKit
set_option linter.unusedVariables false

/-- what was sent. -/
structure SnV where
  player : Int
  turn : Int
  v : Value
  l : List OrV
def SnV.cs (e : SnV) : List Value := [.int .i64 e.player, .int .i64 e.turn, e.v]
theorem info_sn : (Tryd.prog.info? 68).map (fun i => (i.zero, i.size, i.bytes)) = some (some (.agg #[.int .i64 0, .int .i64 0, .slice none 0 0]), 3, 40) := by kernel_rfl
theorem len_sn (es : List SnV) : (es.flatMap SnV.cs).length = es.length * 3 := by
  induction es with
  | nil => rfl
  | cons x l ih => rw [List.flatMap_cons, List.length_append, ih, List.length_cons, Nat.succ_mul, Nat.add_comm]; rfl
theorem flat_sn : ∀ (es : List SnV) (i j : Nat) (k : SnV), es[i]? = some k → j < 3 → (es.flatMap SnV.cs)[i * 3 + j]? = k.cs[j]?
  | [], i, j, k, h, _ => by simp at h
  | x :: es, 0, j, k, h, hj => by
    simp at h
    subst h
    rw [List.flatMap_cons, List.getElem?_append_left (by simp [SnV.cs]; omega)]
    simp
  | x :: es, i + 1, j, k, h, hj => by
    rw [List.flatMap_cons, List.getElem?_append_right (by simp [SnV.cs]; omega)]
    have : (i + 1) * 3 + j - (SnV.cs x).length = i * 3 + j := by simp [SnV.cs]; omega
    rw [this]
    exact flat_sn es i j k (by simpa using h) hj
/-- v is a slice of them, in a block of its own from base on. -/
def Sno (w : World) (base : Nat) (v : Value) (es : List SnV) : Prop := w.ownsRow base 68 3 v es.length (es.flatMap SnV.cs)
theorem Sno.nil (w : World) (base : Nat) : Sno w base (.slice none 0 0) [] := World.ownsRow_nil _ _ _ _
theorem Sno.block {w : World} {base : Nat} {v : Value} {es : List SnV} (h : Sno w base v es) : ∀ k, v.ownBlock = some k → base ≤ k ∧ k < w.heap.size := World.ownsRow.lt h
theorem Sno.cells {w : World} {base : Nat} {v : Value} {es : List SnV} (h : Sno w base v es) : ∃ a c, v = .slice a es.length c ∧ es.length ≤ c ∧ c ≤ 9223372036854775807 ∧ (es ≠ [] → ∃ g, a = some ⟨g, 0, none⟩ ∧ ∀ (i : Nat) e, es[i]? = some e → w.cell? ⟨g, i * 3, none⟩ = some (.int .i64 e.player) ∧ w.cell? ⟨g, i * 3 + 1, none⟩ = some (.int .i64 e.turn) ∧ w.cell? ⟨g, i * 3 + 2, none⟩ = some e.v) := by
  rcases h.2 with ⟨hv, h0⟩ | ⟨g, cap, cur, hv, hb, hg, h1, h2, h3, h4⟩
  · exact ⟨none, 0, by rw [hv, h0], by omega, by omega, fun hn => absurd (List.length_eq_zero_iff.1 h0) hn⟩
  · refine ⟨_, cap, hv, h1, by unfold maxLen at h2; omega, fun _ => ⟨g, rfl, fun i e he => ?_⟩⟩
    have hi : i < es.length := (List.getElem?_eq_some_iff.1 he).1
    have h5 : w.ownsRow base 68 3 (.slice (some ⟨g, 0, none⟩) es.length cap) es.length (es.flatMap SnV.cs) := by rw [← hv]; exact h
    have hc : ∀ j u, j < 3 → e.cs[j]? = some u → w.cell? ⟨g, i * 3 + j, none⟩ = some u := fun j u hj hu => by
      rw [h5.cellAt (i * 3 + j) (by omega), flat_sn es i j e he hj, hu]
    exact ⟨hc 0 _ (by decide) rfl, hc 1 _ (by decide) rfl, hc 2 _ (by decide) rfl⟩
/-- what is from base on stays. -/
theorem own_high {w w' : World} {base : Nat} {T : TypeId} {s : Nat} {v : Value} {n : Nat} {cs : List Value} (h : w.ownsRow base T s v n cs) (g : ∀ k, k < w.heap.size → base ≤ k → w'.heap[k]? = w.heap[k]?) : w'.ownsRow base T s v n cs := by
  refine ⟨h.1, ?_⟩
  rcases h.2 with h1 | ⟨k, cap, cur, h1, h2, h3, h4⟩
  · exact .inl h1
  · exact .inr ⟨k, cap, cur, h1, h2, (g k (lt_of_block h3) h2).trans h3, h4⟩
/-- one more. -/
theorem app_sn {ops : Array Oper} {rest : List Oper} {o : Oper} {a : Act} {Q : Exit → Act → World → Prop} (w : World) (hgd : o.guard = none) (s x : Operand)
    (ho : o.op = .call { callee := .builtin .append, args := #[s, x], argTypes := #[32, 32] }) (base : Nat) (v : Value) (es : List SnV) (hs : a.eval s = v) (hown : Sno w base v es)
    (b : Nat) (d : SnV) (p : Option Addr) (n c : Nat) (hdv : d.v = .slice p n c) (hx : a.eval x = .slice (some ⟨b, 0, none⟩) 1 1) (d0 : w.cell? ⟨b, 0, none⟩ = some (.int .i64 d.player)) (d1 : w.cell? ⟨b, 1, none⟩ = some (.int .i64 d.turn)) (d2 : w.cell? ⟨b, 2, none⟩ = some d.v) (hl : es.length ≤ 1000000) (hbase : base ≤ w.heap.size)
    (h : ∀ g cap w', Sno w' base (.slice (some ⟨g, 0, none⟩) (es.length + 1) cap) (es ++ [d]) → w.grownBy w' v.ownBlock → (v.ownBlock = some g ∨ g = w.heap.size) → g < w'.heap.size → wpList Tryd.prog ops Q rest (a.put o.dst (.slice (some ⟨g, 0, none⟩) (es.length + 1) cap)) w') :
    wpList Tryd.prog ops Q (o :: rest) a w := by
  obtain ⟨i0, hi, hz0, hz1, hz2⟩ := info_parts info_sn
  refine wpList_append_lies w hgd s x 32 ho base 68 i0 (.agg #[.int .i64 0, .int .i64 0, .slice none 0 0]) 3 40 Tryd.underlying32 hi hz0 hz1 hz2 rfl (by decide) v es.length _ hs hown ⟨b, 0, none⟩ 1 1 d.cs hx rfl ?_ ?_ (by decide) (by unfold maxLen; omega) (by omega) hbase _ rfl ?_
  · intro j u hj
    have hjn : j < 3 := (List.getElem?_eq_some_iff.1 hj).1
    rw [Addr.add_lit, Nat.zero_add]
    match j, hjn, hj with
    | 0, _, hj => simp [SnV.cs] at hj; subst hj; exact d0
    | 1, _, hj => simp [SnV.cs] at hj; subst hj; exact d1
    | 2, _, hj => simp [SnV.cs] at hj; subst hj; exact d2
  · intro u hu
    simp [SnV.cs] at hu
    rcases hu with rfl | rfl | rfl
    · rfl
    · rfl
    · rw [hdv]; rfl
  · intro g cap w' h1 h2 h3 h4
    refine h g cap w' ?_ h2 h3 h4
    unfold Sno
    rw [List.length_append, List.flatMap_append]
    simpa using h1
/-- did one send for a turn; what it sent. -/
def hasE (es : List SnV) (p t : Int) : Bool := es.any (fun e => e.player == p && e.turn == t)
def pick (es : List SnV) (p t : Int) : List OrV := (es.filter (fun e => e.player == p && e.turn == t)).flatMap SnV.l
/-- the reference's list tells what the lock holds, from the turn to be played on. -/
def Rl (es : List SnV) (L : LoV) : Prop := ∀ t p, L.now ≤ t → hasE es p t = (L.sent t p).isSome ∧ pick es p t = (L.sent t p).getD []
theorem Rl.put {es : List SnV} {L : LoV} (h : Rl es L) {p t : Int} {v : Value} {l : List OrV} (ht : L.now ≤ t) (hn : (L.sent t p).isSome = false) : Rl (es ++ [⟨p, t, v, l⟩]) (L.put p t l) := by
  intro t' p' ht'
  have h1 := h t' p' ht'
  have e1 : hasE (es ++ [⟨p, t, v, l⟩]) p' t' = (hasE es p' t' || (p == p' && t == t')) := by unfold hasE; rw [List.any_append]; simp
  have e2 : pick (es ++ [⟨p, t, v, l⟩]) p' t' = pick es p' t' ++ (if (p == p' && t == t') then l else []) := by
    unfold pick
    rw [List.filter_append, List.flatMap_append]
    by_cases c : (p == p' && t == t') = true
    · rw [if_pos c]; simp [c]
    · rw [if_neg c]; simp [c]
  rw [e1, e2, h1.1, h1.2]
  have e3 : (L.put p t l).sent t' p' = if t' = t ∧ p' = p then some l else L.sent t' p' := rfl
  rw [e3]
  by_cases c : t' = t ∧ p' = p
  · obtain ⟨rfl, rfl⟩ := c
    have hnone : L.sent t' p' = none := by cases hs : L.sent t' p' with | none => rfl | some x => rw [hs] at hn; cases hn
    rw [if_pos ⟨rfl, rfl⟩, hnone]
    simp
  · rw [if_neg c]
    have cb : (p == p' && t == t') = false := by
      rw [Bool.and_eq_false_iff]
      by_cases c1 : p' = p
      · right; exact beq_eq_false_iff_ne.2 (fun e => c ⟨e.symm, c1⟩)
      · left; exact beq_eq_false_iff_ne.2 (fun e => c1 e.symm)
    rw [cb]
    simp
theorem Rl.took {es : List SnV} {L : LoV} (h : Rl es L) : Rl es L.took := by
  intro t p ht
  have ht' : L.now + 1 ≤ t := ht
  have e : L.took.sent t p = L.sent t p := by
    show (if t = L.now ∧ 0 ≤ p ∧ p < (L.out.length : Int) then none else L.sent t p) = _
    rw [if_neg (by omega)]
  rw [e]
  exact h t p (by omega)
theorem Rl.drop {es : List SnV} {L : LoV} (h : Rl es L) (q : Nat) : Rl es (L.drop q) := h
theorem Rl.new (P : Nat) (d : Int) : Rl [] (lkNew P d) := fun t p _ => ⟨rfl, rfl⟩
/-- block y is the reference's lock. -/
structure RLk (w : World) (y base P : Nat) (L : LoV) (va : Value) (es : List SnV) : Prop where
  x : w.heap[y]? = some (.cells #[.int .i64 (P : Nat), .int .i64 L.delay, .int .i64 L.now, .bool (L.out.getD 0 false), .bool (L.out.getD 1 false), .bool (L.out.getD 2 false), .bool (L.out.getD 3 false), va] 34)
  r : Sno w base va es
  o : ∀ e ∈ es, Oro w base e.v e.l
  yb : y < base
theorem RLk.lt {w : World} {y base P : Nat} {L : LoV} {va : Value} {es : List SnV} (h : RLk w y base P L va es) : y < w.heap.size := lt_of_block h.x
theorem RLk.high {w w' : World} {y base P : Nat} {L : LoV} {va : Value} {es : List SnV} (h : RLk w y base P L va es) (g : ∀ k, k < w.heap.size → base ≤ k → w'.heap[k]? = w.heap[k]?) (gy : w'.heap[y]? = w.heap[y]?) : RLk w' y base P L va es :=
  ⟨gy.trans h.x, own_high h.r g, fun e he => own_high (h.o e he) g, h.yb⟩
theorem RLk.below {w w' : World} {y base P : Nat} {L : LoV} {va : Value} {es : List SnV} (h : RLk w y base P L va es) (g : Below w.heap.size w w') : RLk w' y base P L va es :=
  h.high (fun k hk _ => g.block k hk) (g.block y h.lt)
theorem RLk.lf {w w' : World} {y base P z bo bm : Nat} {L : LoV} {va : Value} {es : List SnV} (h : RLk w y base P L va es) (g : Lf z bo bm w w') (h1 : z < y) (h2 : bo < y) (h3 : bm < y) : RLk w' y base P L va es := by
  have := h.yb
  exact h.high (fun k hk hb => g.block k hk (by omega) (by omega) (by omega)) (g.block y h.lt (by omega) (by omega) (by omega))
theorem RLk.cells {w : World} {y base P : Nat} {L : LoV} {va : Value} {es : List SnV} (h : RLk w y base P L va es) : w.cell? ⟨y, 0, none⟩ = some (.int .i64 (P : Nat)) ∧ w.cell? ⟨y, 1, none⟩ = some (.int .i64 L.delay) ∧ w.cell? ⟨y, 2, none⟩ = some (.int .i64 L.now) ∧ w.cell? ⟨y, 7, none⟩ = some va ∧ ∀ i, i < 4 → w.cell? ⟨y, 3 + i, none⟩ = some (.bool (L.out.getD i false)) := by
  have hx := h.x
  refine ⟨?_, ?_, ?_, ?_, fun i hi => ?_⟩
  · simp [World.cell?, hx]
  · simp [World.cell?, hx]
  · simp [World.cell?, hx]
  · simp [World.cell?, hx]
  · match i, hi with
    | 0, _ => simp [World.cell?, hx]
    | 1, _ => simp [World.cell?, hx]
    | 2, _ => simp [World.cell?, hx]
    | 3, _ => simp [World.cell?, hx]
end Go.Proofs.YtbomnicnoanjlaaDoor

namespace Go.Proofs.YtbomnicnoanjlaaDoor
open Go.RowKit
set_option linter.unusedVariables false

theorem has_next {es : List SnV} {q : Nat} {e : SnV} (h : es[q]? = some e) (p t : Int) : hasE (es.take (q + 1)) p t = (hasE (es.take q) p t || (e.player == p && e.turn == t)) := by
  unfold hasE
  rw [List.take_add_one, h, List.any_append]
  simp
def RhI (es : List SnV) (p t : Int) (w : World) (i : Value) (W : World) : Prop := ∃ q : Nat, q ≤ es.length ∧ i = .int .i64 (q : Nat) ∧ hasE (es.take q) p t = false ∧ W = w
set_option maxRecDepth 100000 in
set_option maxHeartbeats 8000000 in
theorem rhas_any (y base P : Nat) (L : LoV) (va : Value) (es : List SnV) (p t : Int) (w : World) (h : RLk w y base P L va es) (hl : es.length ≤ 1000000) :
    Calls Tryd.prog 23 #[.pointer (some ⟨y, 0, none⟩), .int .i64 p, .int .i64 t] w fun e w' => e = .returned (.bool (hasE es p t)) ∧ w' = w := by
  obtain ⟨c0, c1, c2, c7, -⟩ := h.cells
  obtain ⟨a, c, rfl, -, -, h3⟩ := h.r.cells
  have H3 : Hid (es ≠ [] → ∃ g, a = some ⟨g, 0, none⟩ ∧ ∀ (i : Nat) e, es[i]? = some e → w.cell? ⟨g, i * 3, none⟩ = some (.int .i64 e.player) ∧ w.cell? ⟨g, i * 3 + 1, none⟩ = some (.int .i64 e.turn) ∧ w.cell? ⟨g, i * 3 + 2, none⟩ = some e.v) := h3
  clear h3 c0 c1 c2 h
  go_enter Tryd.func23, Tryd.ntmps23
  go_wp2_with fail
  go_loopw [7] (fun i W => RhI es p t w i W) (fun i _ => es.length - (intOf i).toNat)
  case atStart => exact ⟨0, Nat.zero_le _, rfl, rfl, rfl⟩
  case round =>
    obtain ⟨q, hq, rfl, hg, rfl⟩ := hrel
    have G : Hid (hasE (es.take q) p t = false) := hg
    clear hg
    by_cases hql : q = es.length
    · subst hql
      have E : Hid (hasE es p t = false) := by have h := G.out; rw [List.take_length] at h; exact h
      go_wp2
      go_ret
      exact ⟨by rw [E.out]; rfl, rfl⟩
    · have hqk : q < es.length := by omega
      have hqi : (q : Int) < (es.length : Nat) := by omega
      obtain ⟨e, hk⟩ : ∃ e, es[q]? = some e := ⟨_, List.getElem?_eq_getElem hqk⟩
      obtain ⟨g, rfl, hx⟩ := H3.out (by rintro rfl; simp at hqk)
      obtain ⟨e0, e1, e2⟩ := hx q e hk
      have NX : Hid (hasE (es.take (q + 1)) p t = (hasE (es.take q) p t || (e.player == p && e.turn == t))) := has_next hk p t
      have MM : Hid (e.player = p → e.turn = t → hasE es p t = true) := fun x1 x2 => by
        unfold hasE
        exact List.any_eq_true.2 ⟨e, List.mem_of_getElem? hk, by rw [x1, x2]; simp⟩
      have QW : IntKind.i64.wrap ((q : Int) + 1) = (q : Int) + 1 := by rw [IntKind.wrap_i64]; omega
      clear hx hk e2
      by_cases ce : e.player = p
      case neg =>
        have cb : (e.player == p) = false := beq_eq_false_iff_ne.2 ce
        have NK : Hid (hasE (es.take (q + 1)) p t = false) := by unfold Hid; rw [NX.out, G.out, cb]; rfl
        clear ce
        go_wp2
        go_round
        case rel => exact ⟨q + 1, by omega, by go_num, NK.out, rfl⟩
        case measure => simp [intOf]; omega
      have cb : (e.player == p) = true := beq_iff_eq.2 ce
      by_cases cf : e.turn = t
      case neg =>
        have cg : (e.turn == t) = false := beq_eq_false_iff_ne.2 cf
        have NK : Hid (hasE (es.take (q + 1)) p t = false) := by unfold Hid; rw [NX.out, G.out, cg]; simp
        clear ce cf
        go_wp2
        go_round
        case rel => exact ⟨q + 1, by omega, by go_num, NK.out, rfl⟩
        case measure => simp [intOf]; omega
      have cg : (e.turn == t) = true := beq_iff_eq.2 cf
      have E : Hid (hasE es p t = true) := MM.out ce cf
      clear ce cf
      go_wp2
      go_ret
      exact ⟨by rw [E.out]; rfl, rfl⟩
def RwI (L : LoV) (w : World) (j v : Value) (W : World) : Prop := ∃ q : Nat, q ≤ L.out.length ∧ j = .int .i64 (q : Nat) ∧ Ow W w.heap.size v (L.waitN q) ∧ Below w.heap.size w W
set_option maxRecDepth 100000 in
set_option maxHeartbeats 8000000 in
theorem rwaits_any (y base P : Nat) (L : LoV) (va : Value) (es : List SnV) (w : World) (h : RLk w y base P L va es) (hl : es.length ≤ 1000000) (hP : L.out.length = P) (h4 : P ≤ 4) (hr : Rl es L) :
    Calls Tryd.prog 12 #[.pointer (some ⟨y, 0, none⟩)] w fun e w' => ∃ u, e = .returned u ∧ Ow w' w.heap.size u L.waits ∧ Below w.heap.size w w' := by
  have H : Hid (RLk w y base P L va es) := h
  have R : Hid (Rl es L) := hr
  have P4 : Hid (L.out.length = P ∧ P ≤ 4) := ⟨hP, h4⟩
  clear h hr
  go_enter Tryd.func12, Tryd.ntmps12
  go_wp2_with fail
  go_loopw [4, 3] (fun j v W => RwI L w j v W) (fun j _ _ => L.out.length - (intOf j).toNat)
  case atStart => exact ⟨0, Nat.zero_le _, rfl, Ow.nil _ _, Below.refl _ _⟩
  case round =>
    obtain ⟨q, hq, rfl, hg, hb⟩ := hrel
    have O : Hid (Ow wr w.heap.size u3 (L.waitN q)) := hg
    have B : Hid (Below w.heap.size w wr) := hb
    have H1 : Hid (RLk wr y base P L va es) := H.out.below hb
    obtain ⟨c0, c1, c2, c7, cc⟩ := H1.out.cells
    clear hg hb c1 c7
    by_cases hql : q = L.out.length
    · have hqi : ¬ (q : Int) < (P : Nat) := by omega
      have O1 : Hid (Ow wr w.heap.size u3 L.waits) := by unfold LoV.waits; rw [← hql]; exact O.out
      clear cc
      go_wp2
      go_ret
      exact ⟨_, rfl, O1.out, B.out⟩
    · have hqk : q < L.out.length := by omega
      have hqi : (q : Int) < (P : Nat) := by omega
      have hq4 : q < 4 := by omega
      have hqi4 : (q : Int) < 4 := by omega
      obtain ⟨d, hd⟩ : ∃ d, L.out[q]? = some d := ⟨_, List.getElem?_eq_getElem hqk⟩
      have HD : Hid (L.out.getD q true = d) := by unfold Hid; rw [List.getD_eq_getElem?_getD, hd]; rfl
      have qc : wr.cell? ⟨y, 3 + q, none⟩ = some (.bool d) := by rw [cc q hq4, List.getD_eq_getElem?_getD, hd]; rfl
      clear cc hd
      go_wp2_with fail
      refine (rhas_any y base P L va es _ _ wr H1.out hl).mono ?_
      rintro e w1 ⟨rfl, rfl⟩
      obtain ⟨s, hs⟩ : ∃ s, hasE es q L.now = s := ⟨_, rfl⟩
      have HS : Hid ((L.sent L.now q).isSome = s) := by unfold Hid; rw [← hs]; exact ((R.out L.now q (Int.le_refl _)).1).symm
      rw [hs]
      clear hs
      cases s
      case true =>
        have NK : Hid (L.waitN (q + 1) = L.waitN q) := by unfold Hid; rw [LoV.waitN]; unfold LoV.waitB; rw [HS.out]; simp
        go_wp2
        go_round
        case rel => exact ⟨q + 1, by omega, by go_num, by rw [NK.out]; exact O.out, B.out⟩
        case measure => simp [intOf]; omega
      cases d
      case true =>
        have NK : Hid (L.waitN (q + 1) = L.waitN q) := by unfold Hid; rw [LoV.waitN]; unfold LoV.waitB; rw [HD.out]; rfl
        go_wp2
        go_round
        case rel => exact ⟨q + 1, by omega, by go_num, by rw [NK.out]; exact O.out, B.out⟩
        case measure => simp [intOf]; omega
      case false =>
        have NK : Hid (L.waitN (q + 1) = L.waitN q ++ [(q : Int)]) := by unfold Hid; rw [LoV.waitN]; unfold LoV.waitB; rw [HD.out, HS.out]; rfl
        have KL : Hid ((L.waitN q).length ≤ 4) := by have := L.waitN_len q; unfold Hid; omega
        have OA : Hid (Ow (w1.alloc (Obj.cells #[.int .i64 (q : Nat)] 3)) w.heap.size u3 (L.waitN q)) := O.out.alloc _
        have RC : Hid ((w1.alloc (Obj.cells #[.int .i64 (q : Nat)] 3)).cell? ⟨w1.heap.size, 0, none⟩ = some (.int .i64 (q : Nat))) := by unfold Hid; simp
        have BB : Hid (Below w.heap.size w (w1.alloc (Obj.cells #[.int .i64 (q : Nat)] 3))) := B.out.alloc B.out.size _
        go_wp2_with (at_builtin; refine app_int _ rfl _ _ rfl w.heap.size _ (L.waitN q) rfl OA.out ⟨w1.heap.size, 0, none⟩ (q : Nat) rfl RC.out (by have := KL.out; omega) BB.out.size ?_)
        intro g cap w5 o5 g5 a5 l5
        have B5 : Hid (Below w.heap.size w w5) := BB.out.grown g5 BB.out.size (fun k hk => (O.out.block k hk).1)
        have O5 : Hid (Ow w5 w.heap.size (.slice (some ⟨g, 0, none⟩) ((L.waitN q).length + 1) cap) (L.waitN (q + 1))) := by unfold Hid; rw [NK.out]; exact o5
        clear o5 g5 a5 l5
        go_wp2
        go_round
        case rel => exact ⟨q + 1, by omega, by go_num, O5.out, B5.out⟩
        case measure => simp [intOf]; omega
end Go.Proofs.YtbomnicnoanjlaaDoor

namespace Go.Proofs.YtbomnicnoanjlaaDoor
open Go.RowKit
set_option linter.unusedVariables false

set_option maxRecDepth 100000 in
set_option maxHeartbeats 4000000 in
theorem ref_order (o : OrV) (w : World) : Calls Tryd.prog 33 #[o.val] w fun e w' => e = .returned (.int .i64 (Od.fault o)) ∧ Below w.heap.size w w' := by
  obtain ⟨p, u, n, a⟩ := o
  have BB : Hid (Below w.heap.size w (w.alloc (Obj.cells #[.int .i64 p, .int .i64 u, .int .i64 n, .int .i64 a] 38))) := (Below.refl _ _).alloc (Nat.le_refl _) _
  have B1 : Hid (Od.bad ⟨p, u, n, a⟩ → Od.fault ⟨p, u, n, a⟩ = 1) := Od.fault_bad
  have B0 : Hid (¬ Od.bad ⟨p, u, n, a⟩ → Od.fault ⟨p, u, n, a⟩ = 0) := Od.fault_ok
  unfold OrV.val
  simp only
  by_cases h0 : p < 0
  · go_enter Tryd.func33, Tryd.ntmps33
    go_wp2
    go_ret
    exact ⟨by rw [B1.out (by unfold Od.bad; simp only; omega)]; rfl, BB⟩
  · skip
    by_cases h1 : 3 < p
    · go_enter Tryd.func33, Tryd.ntmps33
      go_wp2
      go_ret
      exact ⟨by rw [B1.out (by unfold Od.bad; simp only; omega)]; rfl, BB⟩
    · skip
      by_cases h2 : u < 0
      · go_enter Tryd.func33, Tryd.ntmps33
        go_wp2
        go_ret
        exact ⟨by rw [B1.out (by unfold Od.bad; simp only; omega)]; rfl, BB⟩
      · skip
        by_cases h3 : 1000000 < u
        · go_enter Tryd.func33, Tryd.ntmps33
          go_wp2
          go_ret
          exact ⟨by rw [B1.out (by unfold Od.bad; simp only; omega)]; rfl, BB⟩
        · skip
          by_cases h4 : a < 0
          · go_enter Tryd.func33, Tryd.ntmps33
            go_wp2
            go_ret
            exact ⟨by rw [B1.out (by unfold Od.bad; simp only; omega)]; rfl, BB⟩
          · skip
            by_cases h5 : 1000000 < a
            · go_enter Tryd.func33, Tryd.ntmps33
              go_wp2
              go_ret
              exact ⟨by rw [B1.out (by unfold Od.bad; simp only; omega)]; rfl, BB⟩
            · skip
              by_cases h6 : n < 0
              · go_enter Tryd.func33, Tryd.ntmps33
                go_wp2
                go_ret
                exact ⟨by rw [B1.out (by unfold Od.bad; simp only; omega)]; rfl, BB⟩
              · skip
                by_cases h7 : 3 < n
                · go_enter Tryd.func33, Tryd.ntmps33
                  go_wp2
                  go_ret
                  exact ⟨by rw [B1.out (by unfold Od.bad; simp only; omega)]; rfl, BB⟩
                · skip
                  by_cases h8 : n = 0
                  · subst h8
                    by_cases h9 : a = 0
                    · subst h9
                      go_enter Tryd.func33, Tryd.ntmps33
                      go_wp2
                      go_ret
                      exact ⟨by rw [B0.out (by unfold Od.bad; simp only; omega)]; rfl, BB⟩
                    · have h9b : (a == 0) = false := beq_eq_false_iff_ne.2 h9
                      go_enter Tryd.func33, Tryd.ntmps33
                      go_wp2
                      go_ret
                      exact ⟨by rw [B1.out (.inr (.inr (.inr (.inr (.inr (.inr (.inr (.inr ⟨rfl, h9⟩))))))))]; rfl, BB⟩
                  · have h8b : (n == 0) = false := beq_eq_false_iff_ne.2 h8
                    go_enter Tryd.func33, Tryd.ntmps33
                    go_wp2
                    go_ret
                    exact ⟨by rw [B0.out (by unfold Od.bad; simp only; omega)]; rfl, BB⟩
end Go.Proofs.YtbomnicnoanjlaaDoor

namespace Go.Proofs.YtbomnicnoanjlaaDoor
open Go.RowKit Go.Proofs.YtbomnicnoanjlaaDoor.So
set_option linter.unusedVariables false

def RcI (ks : List OrV) (w : World) (j : Value) (W' : World) : Prop := ∃ q : Nat, q ≤ ks.length ∧ j = .int .i64 (q : Nat) ∧ (∀ (i : Nat) o, i < q → ks[i]? = some o → ¬ Od.bad o) ∧ Below w.heap.size w W'
set_option maxRecDepth 100000 in
set_option maxHeartbeats 4000000 in
theorem ref_orders (v : Value) (ks : List OrV) (w : World) (h : Orl w v ks) :
    Calls Tryd.prog 24 #[v] w fun e w' => e = .returned (.int .i64 (Od.faults ks)) ∧ Below w.heap.size w w' := by
  have K0 : Hid (Orl w v ks) := h
  obtain ⟨R, hR⟩ : ∃ R, Od.faults ks = R := ⟨_, rfl⟩
  have HR : Hid (Od.faults ks = R) := hR
  rw [hR]
  clear hR
  obtain ⟨a, c, rfl, c1, c2, -⟩ := h
  by_cases h8 : 60 < ks.length
  · have E : Hid (R = 4) := by unfold Hid; rw [← HR.out]; unfold Od.faults; rw [if_pos h8]
    have h8' : (60 : Int) < (ks.length : Int) := by omega
    go_enter Tryd.func24, Tryd.ntmps24
    go_wp2
    go_ret
    exact ⟨by rw [E.out]; rfl, Below.refl _ _⟩
  · have h8' : ¬ (60 : Int) < (ks.length : Int) := by omega
    have LE : Hid (ks.length ≤ 60) := by unfold Hid; omega
    go_enter Tryd.func24, Tryd.ntmps24
    go_wp2_with fail
    go_loopw [3] (fun j W' => RcI ks w j W') (fun j _ => ks.length - (intOf j).toNat)
    case atStart => exact ⟨0, Nat.zero_le _, rfl, fun i o hi => by omega, Below.refl _ _⟩
    case round =>
      obtain ⟨q, hq, rfl, hg, hb⟩ := hrel
      have Gq : Hid (∀ (i : Nat) o, i < q → ks[i]? = some o → ¬ Od.bad o) := hg
      have B : Hid (Below w.heap.size w wr) := hb
      clear hg hb
      by_cases hql : q = ks.length
      · have E : Hid (R = 0) := by
          unfold Hid
          rw [← HR.out]
          refine Od.faults_of LE.out fun o ho => ?_
          obtain ⟨i, hi⟩ := List.mem_iff_getElem?.1 ho
          exact Gq.out i o (by rw [hql]; exact (List.getElem?_eq_some_iff.1 hi).1) hi
        subst hql
        go_wp2
        go_ret
        exact ⟨by rw [E.out]; rfl, B⟩
      · have hqk : q < ks.length := by omega
        obtain ⟨k, hk⟩ : ∃ k, ks[q]? = some k := ⟨_, List.getElem?_eq_getElem hqk⟩
        have HK : Hid (ks[q]? = some k) := hk
        have K1 := K0.out.below B.out
        have CK : Hid (∀ W : World, Calls Tryd.prog 33 #[k.val] W fun e w' => e = .returned (.int .i64 (Od.fault k)) ∧ Below W.heap.size W w') := fun W => ref_order k W
        obtain ⟨a', c', e, -, -, h3⟩ := K1
        injection e with e1 e2 e3
        subst e1 e3
        obtain ⟨x, rfl, hx1, hx⟩ := h3 (by rintro rfl; simp at hqk)
        have Yc := hx q k hk
        clear hx h3 e2 hk
        obtain ⟨q0, q1, q2, q3⟩ := Yc
        unfold OrV.val at CK
        go_wp2_with fail
        refine Calls.mono (CK.out wr) ?_
        rintro e w2 ⟨rfl, b2⟩
        have B3 : Hid (Below w.heap.size w w2) := B.out.trans (b2.mono B.out.size)
        clear b2 CK q0 q1 q2 q3
        by_cases hbad : Od.bad k
        · have E : Hid (R = 1) := by
            unfold Hid
            rw [← HR.out]
            unfold Od.faults
            rw [if_neg (by have := LE.out; omega), if_pos (List.any_eq_true.2 ⟨k, List.mem_of_getElem? HK.out, decide_eq_true hbad⟩)]
          rw [Od.fault_bad hbad]
          clear hbad
          go_wp2
          go_ret
          exact ⟨by rw [E.out]; rfl, B3⟩
        · have G2 : Hid (∀ (i : Nat) o, i < q + 1 → ks[i]? = some o → ¬ Od.bad o) := fun i o hi ho => by
            by_cases e : i = q
            · subst e
              rw [HK.out] at ho
              obtain rfl := Option.some.inj ho
              exact hbad
            · exact Gq.out i o (by omega) ho
          rw [Od.fault_ok hbad]
          clear hbad
          go_wp2
          go_round
          case rel => exact ⟨q + 1, by omega, by go_num, G2, B3⟩
          case measure => simp [intOf]; omega
set_option maxRecDepth 100000 in
set_option maxHeartbeats 4000000 in
theorem ref_behind (a b : OrV) (w : World) : Calls Tryd.prog 34 #[a.val, b.val] w fun e w' => e = .returned (.bool (decide (klt b a))) ∧ Below w.heap.size w w' := by
  have BB : Hid (∀ o1 o2, Below w.heap.size w ((w.alloc o1).alloc o2)) := fun o1 o2 => ((Below.refl _ _).alloc (Nat.le_refl _) _).alloc (by simp) _
  have KT : Hid (klt b a ↔ klt b a) := Iff.rfl
  unfold OrV.val
  by_cases h1 : a.player = b.player
  · by_cases h2 : a.unit = b.unit
    · by_cases h3 : a.what = 3
      · have E : Hid (decide (klt b a) = false) := decide_eq_false (by unfold klt rnk; rw [if_pos h3]; split <;> omega)
        go_enter Tryd.func34, Tryd.ntmps34
        go_wp2
        go_ret
        exact ⟨by rw [E.out]; rfl, BB.out _ _⟩
      · by_cases h4 : b.what = 3
        · have E : Hid (decide (klt b a) = true) := decide_eq_true (by unfold klt rnk; rw [if_neg h3, if_pos h4]; omega)
          have H3 : Hid ((a.what != 3) = true) := bne_iff_ne.2 h3
          have h3b : (a.what == 3) = false := beq_eq_false_iff_ne.2 h3
          go_enter Tryd.func34, Tryd.ntmps34
          go_wp2
          go_ret
          exact ⟨by rw [E.out]; show Ending.returned (Value.bool (a.what != 3)) = _; rw [H3.out], BB.out _ _⟩
        · have E : Hid (decide (klt b a) = false) := decide_eq_false (by unfold klt rnk; rw [if_neg h3, if_neg h4]; omega)
          have h3b : (a.what == 3) = false := beq_eq_false_iff_ne.2 h3
          have h4b : (b.what == 3) = false := beq_eq_false_iff_ne.2 h4
          go_enter Tryd.func34, Tryd.ntmps34
          go_wp2
          go_ret
          exact ⟨by rw [E.out]; rfl, BB.out _ _⟩
    · have h2b : (a.unit == b.unit) = false := beq_eq_false_iff_ne.2 h2
      have E : Hid (decide (klt b a) = decide (b.unit < a.unit)) := by
        unfold Hid
        congr 1
        unfold klt
        exact propext ⟨fun h => by omega, fun h => by omega⟩
      go_enter Tryd.func34, Tryd.ntmps34
      go_wp2
      go_ret
      exact ⟨by rw [E.out]; rfl, BB.out _ _⟩
  · have h1b : (a.player == b.player) = false := beq_eq_false_iff_ne.2 h1
    have E : Hid (decide (klt b a) = decide (b.player < a.player)) := by
      unfold Hid
      congr 1
      unfold klt
      exact propext ⟨fun h => by omega, fun h => by omega⟩
    go_enter Tryd.func34, Tryd.ntmps34
    go_wp2
    go_ret
    exact ⟨by rw [E.out]; rfl, BB.out _ _⟩
end Go.Proofs.YtbomnicnoanjlaaDoor

namespace Go.Proofs.YtbomnicnoanjlaaDoor
open Go.RowKit Go.Proofs.YtbomnicnoanjlaaDoor.So
set_option linter.unusedVariables false

/-- nothing has turned but the reference's lock. -/
structure RFr (y : Nat) (va : Value) (w w' : World) : Prop where
  os : w'.os = w.os
  tape : w'.tape = w.tape
  output : w'.output = w.output
  size : w.heap.size ≤ w'.heap.size
  block : ∀ k, k < w.heap.size → k ≠ y → va.ownBlock ≠ some k → w'.heap[k]? = w.heap[k]?
theorem RFr.of {y : Nat} {va : Value} {w w' : World} (h : Below w.heap.size w w') : RFr y va w w' := ⟨h.os, h.tape, h.output, h.size, fun k hk _ _ => h.block k hk⟩
theorem RFr.low {y n : Nat} {va : Value} {w w' : World} (h : RFr y va w w') (hn : n ≤ w.heap.size) (hy : n ≤ y) (hv : ∀ k, va.ownBlock = some k → n ≤ k) : Below n w w' :=
  ⟨h.os, h.tape, h.output, h.size, fun k hk => h.block k (by omega) (by omega) (fun e => by have := hv k e; omega)⟩
theorem RLk.lk {w w' : World} {y base P z bo bm : Nat} {L M : LoV} {va : Value} {es : List SnV} (h : RLk w y base P L va es) (k : Lk w z bo bm M) (g : RFr y va w w') (h1 : z < y) (h2 : bo < y) (h3 : bm < y) : Lk w' z bo bm M := by
  have hy := h.yb
  refine k.keep (fun i => i = y ∨ va.ownBlock = some i) (fun i hi hn => g.block i hi (fun e => hn (.inl e)) (fun e => hn (.inr e))) (fun b cur hb hc => ?_) ?_ ?_ ?_
  · rcases hb with rfl | hb
    · rw [h.x] at hc
      injection hc with hc
      injection hc with _ hc
      exact absurd hc (by decide)
    · rcases h.r.2 with ⟨e, -⟩ | ⟨g', cap, cur', e, -, e3, -⟩
      · rw [e] at hb; cases hb
      · rw [e] at hb
        simp [Value.ownBlock] at hb
        subst hb
        rw [e3] at hc
        injection hc with hc
        injection hc with _ hc
        exact absurd hc (by decide)
  · rintro (e | e)
    · omega
    · have := (h.r.block _ e).1; omega
  · rintro (e | e)
    · omega
    · have := (h.r.block _ e).1; omega
  · rintro (e | e)
    · omega
    · have := (h.r.block _ e).1; omega
/-- what Send says. -/
def RSays (y base P : Nat) (L : LoV) (va : Value) (es : List SnV) (p t : Int) (v : Value) (l : List OrV) (w : World) (e : Ending) (w' : World) : Prop :=
  e = .returned (.int .i64 (sendF L p t l)) ∧ RFr y va w w' ∧ ((sendF L p t l = 0 ∧ L.now ≤ t ∧ (L.sent t p).isSome = false ∧ ∃ va', RLk w' y base P (L.put p t l) va' (es ++ [⟨p, t, v, l⟩])) ∨ (sendF L p t l ≠ 0 ∧ RLk w' y base P L va es))
theorem sendF_may {L : LoV} {p t : Int} {l : List OrV} {f : Int} (h : mayF L p t = f) (hf : f ≠ 0) : sendF L p t l = f := by unfold sendF; rw [h, if_neg hf]
def RsI (l : List OrV) (p : Int) (w : World) (i : Value) (W : World) : Prop := ∃ q : Nat, q ≤ l.length ∧ i = .int .i64 (q : Nat) ∧ (l.take q).any (fun o => o.player != p) = false ∧ W = w
theorem any_nexto {l : List OrV} {q : Nat} {o : OrV} {f : OrV → Bool} (h : l[q]? = some o) : (l.take (q + 1)).any f = ((l.take q).any f || f o) := by
  rw [List.take_add_one, h, List.any_append]
  simp
theorem RLk.stored {w w' : World} {y base P : Nat} {L : LoV} {va va' : Value} {es : List SnV} {d : SnV} (h : RLk w y base P L va es) (g : w.grownBy w' va.ownBlock) (hs : Sno w' base va' (es ++ [d])) (ho : Oro w base d.v d.l) :
    RLk (w'.setCell ⟨y, 7, none⟩ va') y base P (L.put d.player d.turn d.l) va' (es ++ [d]) ∧ RFr y va w (w'.setCell ⟨y, 7, none⟩ va') ∧ w'.frozen? ⟨y, 7, none⟩ = false ∧ w'.cell? ⟨y, 7, none⟩ = some va := by
  have hy := h.yb
  have yn : va.ownBlock ≠ some y := fun e => by have := (h.r.block _ e).1; omega
  have hx : w'.heap[y]? = _ := (g.block y h.lt (fun e => yn e.symm)).trans h.x
  have KK : Kp y w' (w'.setCell ⟨y, 7, none⟩ va') := Kp.set w' 7 _
  have K9 : ∀ {base' : Nat} {v : Value} {l : List OrV}, Oro w base v l → Oro w' base v l := fun {_ v l} o => by
    refine o.kept g ?_
    rcases o.2 with ⟨e, -⟩ | ⟨k, cap, cur, e, -, e3, -⟩
    · left; rw [e]; rfl
    · right
      intro e5
      rw [e] at e5
      rcases h.r.2 with ⟨e6, -⟩ | ⟨k', cap', cur', e6, -, e7, -⟩
      · rw [e6] at e5; cases e5
      · rw [e6] at e5
        simp [Value.ownBlock] at e5
        subst e5
        rw [e3] at e7
        injection e7 with e7
        injection e7 with _ e7
        exact absurd e7 (by decide)
  have H9 : ∀ k, k < w'.heap.size → base ≤ k → (w'.setCell ⟨y, 7, none⟩ va').heap[k]? = w'.heap[k]? := fun k hk hb => KK.block k hk (by omega)
  refine ⟨⟨?_, own_high hs H9, fun e he => ?_, hy⟩, ⟨g.os, g.tape, g.output, Nat.le_trans g.size KK.size, fun k hk h1 h2 => (KK.block k (Nat.lt_of_lt_of_le hk g.size) h1).trans (g.block k hk (fun e => h2 e.symm))⟩, ?_, ?_⟩
  · rw [heap_setCell_same w' y 7 _ _ _ hx]
    rfl
  · rcases List.mem_append.1 he with he | he
    · exact own_high (K9 (base' := 0) (h.o e he)) H9
    · simp at he
      subst he
      exact own_high (K9 (base' := 0) ho) H9
  · simp [World.frozen?, hx]
  · simp [World.cell?, hx]
set_option maxRecDepth 100000 in
set_option maxHeartbeats 16000000 in
theorem rsend_any (y base P : Nat) (L : LoV) (va : Value) (es : List SnV) (p t : Int) (v : Value) (l : List OrV) (w : World) (h : RLk w y base P L va es) (hP : L.out.length = P) (h4 : P ≤ 4) (hn : 0 ≤ L.now ∧ L.now ≤ 1000000) (hd : 0 ≤ L.delay ∧ L.delay ≤ 20) (hl : es.length ≤ 1000) (ht : t ≤ 9223372036854775807) (hr : Rl es L) (ho : Oro w base v l) (hb : base ≤ w.heap.size) :
    Calls Tryd.prog 7 #[.pointer (some ⟨y, 0, none⟩), .int .i64 p, .int .i64 t, v] w (RSays y base P L va es p t v l w) := by
  have H : Hid (RLk w y base P L va es) := h
  have R : Hid (Rl es L) := hr
  have O : Hid (Oro w base v l) := ho
  obtain ⟨av, cv, rfl⟩ := ho.len
  obtain ⟨c0, c1, c2, c7, cc⟩ := h.cells
  obtain ⟨X, hX⟩ : ∃ X, sendF L p t l = X := ⟨_, rfl⟩
  have HX : Hid (sendF L p t l = X) := hX
  clear hX h hr ho
  go_enter Tryd.func7, Tryd.ntmps7
  by_cases p0 : p < 0
  · have F : Hid (X = 1) := by unfold Hid; rw [← HX.out]; unfold sendF mayF; rw [if_neg (by omega : ¬ (0 ≤ p ∧ p < (L.out.length : Int)))]; rfl
    clear cc
    go_wp2
    go_ret
    exact ⟨by rw [HX.out, F.out]; rfl, RFr.of (Below.refl _ _), .inr ⟨by rw [HX.out, F.out]; decide, H.out⟩⟩
  by_cases p1 : (P : Int) ≤ p
  · have F : Hid (X = 1) := by unfold Hid; rw [← HX.out]; unfold sendF mayF; rw [if_neg (by omega : ¬ (0 ≤ p ∧ p < (L.out.length : Int)))]; rfl
    clear cc
    go_wp2
    go_ret
    exact ⟨by rw [HX.out, F.out]; rfl, RFr.of (Below.refl _ _), .inr ⟨by rw [HX.out, F.out]; decide, H.out⟩⟩
  obtain ⟨q, rfl⟩ : ∃ q : Nat, p = (q : Nat) := ⟨p.toNat, by omega⟩
  have hq4 : q < 4 := by omega
  have hqi4 : (q : Int) < 4 := by omega
  have hqi : (q : Int) < (P : Nat) := by omega
  obtain ⟨d, hd'⟩ : ∃ d, L.out[q]? = some d := ⟨_, List.getElem?_eq_getElem (by omega)⟩
  have qc : w.cell? ⟨y, 3 + q, none⟩ = some (.bool d) := by rw [cc q hq4, List.getD_eq_getElem?_getD, hd']; rfl
  have MF : Hid (mayF L (q : Nat) t = if d = true ∨ t < L.now then 7 else if L.now + L.delay < t then 1 else if (L.sent t q).isSome then 8 else 0) := by unfold Hid mayF; rw [if_pos (by omega), List.getD_eq_getElem?_getD, Int.toNat_natCast, hd']; rfl
  clear cc hd' p0 p1
  cases d
  case true =>
    have F : Hid (X = 7) := by unfold Hid; rw [← HX.out]; exact sendF_may (by rw [MF.out, if_pos (Or.inl rfl)]) (by decide)
    go_wp2
    go_ret
    exact ⟨by rw [HX.out, F.out]; rfl, RFr.of (Below.refl _ _), .inr ⟨by rw [HX.out, F.out]; decide, H.out⟩⟩
  by_cases t0 : t < L.now
  · have F : Hid (X = 7) := by unfold Hid; rw [← HX.out]; exact sendF_may (by rw [MF.out, if_pos (Or.inr t0)]) (by decide)
    go_wp2
    go_ret
    exact ⟨by rw [HX.out, F.out]; rfl, RFr.of (Below.refl _ _), .inr ⟨by rw [HX.out, F.out]; decide, H.out⟩⟩
  have TW : IntKind.i64.wrap (t - L.now) = t - L.now := by rw [IntKind.wrap_i64]; omega
  have TN : Hid (L.now ≤ t) := by unfold Hid; omega
  have MF2 : Hid (mayF L (q : Nat) t = if L.now + L.delay < t then 1 else if (L.sent t q).isSome then 8 else 0) := by unfold Hid; rw [MF.out, if_neg (by rintro (h | h); cases h; exact t0 h)]
  clear MF
  by_cases t1 : L.now + L.delay < t
  · have F : Hid (X = 1) := by unfold Hid; rw [← HX.out]; unfold sendF; rw [MF2.out, if_pos t1]; rfl
    have t1d : decide (L.delay < t - L.now) = true := decide_eq_true (by omega)
    go_upto_region 5 with fail
    go_quiet (fail)
    go_wp2
    go_ret
    exact ⟨by rw [HX.out, F.out]; rfl, RFr.of (below_dn9 (Below.refl _ _) _), .inr ⟨by rw [HX.out, F.out]; decide, H.out.below (below_dn9 (Below.refl _ _) _)⟩⟩
  have t1d : decide (L.delay < t - L.now) = false := decide_eq_false (by omega)
  have MF3 : Hid (mayF L (q : Nat) t = if (L.sent t q).isSome then 8 else 0) := by unfold Hid; rw [MF2.out, if_neg t1]
  clear MF2
  go_upto_region 5 with fail
  go_quiet (fail)
  have DQ : Hid (Below w.heap.size w (w.drewN nq)) := below_dn9 (Below.refl _ _) _
  generalize w.drewN nq = w1 at *
  have H1 : Hid (RLk w1 y base P L va es) := H.out.below DQ.out
  have O1 : Hid (Oro w1 base (.slice av l.length cv) l) := O.out.below DQ.out
  clear c0 c1 c2 c7 qc t1d t1 t0
  go_wp2_with fail
  refine (rhas_any y base P L va es _ _ w1 H1.out (by omega)).mono ?_
  rintro e w2 ⟨rfl, rfl⟩
  obtain ⟨s, hs⟩ : ∃ s, hasE es q t = s := ⟨_, rfl⟩
  have HS : Hid ((L.sent t q).isSome = s) := by unfold Hid; rw [← hs]; exact ((R.out t q TN.out).1).symm
  rw [hs]
  clear hs
  cases s
  case true =>
    have F : Hid (X = 8) := by unfold Hid; rw [← HX.out]; unfold sendF; rw [MF3.out, HS.out]; rfl
    go_wp2
    go_ret
    exact ⟨by rw [HX.out, F.out]; rfl, RFr.of DQ.out, .inr ⟨by rw [HX.out, F.out]; decide, H1.out⟩⟩
  have F1 : Hid (X = if Od.faults l = 0 then (if l.any (fun o => o.player != (q : Int)) then 3 else 0) else Od.faults l) := by unfold Hid; rw [← HX.out]; unfold sendF; rw [MF3.out, HS.out, if_pos (by rfl)]
  clear MF3
  go_wp2_with fail
  refine (ref_orders _ l w2 O1.out.l).mono ?_
  rintro e w3 ⟨rfl, b3⟩
  have B3 : Hid (Below w.heap.size w w3) := DQ.out.trans (b3.mono DQ.out.size)
  have H3 : Hid (RLk w3 y base P L va es) := H1.out.below b3
  have O3 : Hid (Oro w3 base (.slice av l.length cv) l) := O1.out.below b3
  clear b3
  obtain ⟨fo, hfo⟩ : ∃ f, Od.faults l = f := ⟨_, rfl⟩
  have FO : Hid (Od.faults l = fo) := hfo
  rw [hfo]
  clear hfo
  by_cases f0 : fo = 0
  case neg =>
    have F : Hid (X = fo ∧ fo ≠ 0) := by unfold Hid; rw [F1.out, FO.out, if_neg f0]; exact ⟨rfl, f0⟩
    have f0b : (fo == 0) = false := beq_eq_false_iff_ne.2 f0
    go_wp2
    go_ret
    exact ⟨by rw [HX.out, F.out.1]; rfl, RFr.of B3.out, .inr ⟨by rw [HX.out, F.out.1]; exact F.out.2, H3.out⟩⟩
  subst f0
  have F2 : Hid (X = if l.any (fun o => o.player != (q : Int)) then 3 else 0) := by unfold Hid; rw [F1.out, FO.out, if_pos rfl]
  have L60 : Hid (l.length ≤ 60) := (Od.faults_ok FO.out).1
  clear F1
  go_wp2_with fail
  go_loopw [11] (fun i W => RsI l (q : Nat) w3 i W) (fun i _ => l.length - (intOf i).toNat)
  case atStart => exact ⟨0, Nat.zero_le _, rfl, rfl, rfl⟩
  case round =>
    obtain ⟨n, hn', rfl, hg, rfl⟩ := hrel
    have G : Hid ((l.take n).any (fun o => o.player != (q : Int)) = false) := hg
    clear hg
    by_cases hnl : n = l.length
    case neg =>
      have hnk : n < l.length := by omega
      have hni : (n : Int) < (l.length : Nat) := by omega
      have NW : IntKind.i64.wrap ((n : Int) + 1) = (n : Int) + 1 := by have := L60.out; rw [IntKind.wrap_i64]; omega
      obtain ⟨o, hk⟩ : ∃ o, l[n]? = some o := ⟨_, List.getElem?_eq_getElem hnk⟩
      have NX : Hid ((l.take (n + 1)).any (fun o => o.player != (q : Int)) = ((l.take n).any (fun o => o.player != (q : Int)) || (o.player != (q : Int)))) := any_nexto hk
      have MM : Hid ((o.player != (q : Int)) = true → l.any (fun o => o.player != (q : Int)) = true) := fun x => List.any_eq_true.2 ⟨o, List.mem_of_getElem? hk, x⟩
      obtain ⟨a', c', e, -, -, h3⟩ := O3.out.l
      injection e with e1 e2 e3
      subst e1 e3
      obtain ⟨x, rfl, -, hx⟩ := h3 (by rintro rfl; simp at hnk)
      obtain ⟨r0, r1, r2, r3⟩ := hx n o hk
      clear hx h3 e2 hk r1 r2 r3
      by_cases ce : o.player = (q : Int)
      · have cb : (o.player == (q : Int)) = true := beq_iff_eq.2 ce
        have NK : Hid ((l.take (n + 1)).any (fun o => o.player != (q : Int)) = false) := by unfold Hid; rw [NX.out, G.out, bne, cb]; rfl
        clear ce
        go_wp2
        go_round
        case rel => exact ⟨n + 1, by omega, by go_num, NK.out, rfl⟩
        case measure => simp [intOf]; omega
      · have cb : (o.player == (q : Int)) = false := beq_eq_false_iff_ne.2 ce
        have F : Hid (X = 3) := by unfold Hid; rw [F2.out, MM.out (by rw [bne, cb]; rfl)]; rfl
        clear ce
        go_wp2
        go_ret
        exact ⟨by rw [HX.out, F.out]; rfl, RFr.of B3.out, .inr ⟨by rw [HX.out, F.out]; decide, H3.out⟩⟩
    have F : Hid (X = 0) := by unfold Hid; rw [F2.out]; have h := G.out; rw [hnl, List.take_length] at h; rw [h]; rfl
    subst hnl
    obtain ⟨c0, c1, c2, c7, -⟩ := H3.out.cells
    clear c0 c1 c2
    have BA : Hid (Below wr.heap.size wr (wr.alloc (Obj.cells #[.int .i64 (q : Nat), .int .i64 t, .slice av l.length cv] 68))) := (Below.refl _ _).alloc (Nat.le_refl _) _
    have HA : Hid (RLk (wr.alloc (Obj.cells #[.int .i64 (q : Nat), .int .i64 t, .slice av l.length cv] 68)) y base P L va es) := H3.out.below BA.out
    have OA : Hid (Oro (wr.alloc (Obj.cells #[.int .i64 (q : Nat), .int .i64 t, .slice av l.length cv] 68)) base (.slice av l.length cv) l) := O3.out.below BA.out
    have DA : Hid ((wr.alloc (Obj.cells #[.int .i64 (q : Nat), .int .i64 t, .slice av l.length cv] 68)).cell? ⟨wr.heap.size, 0, none⟩ = some (.int .i64 (q : Nat)) ∧ (wr.alloc (Obj.cells #[.int .i64 (q : Nat), .int .i64 t, .slice av l.length cv] 68)).cell? ⟨wr.heap.size, 1, none⟩ = some (.int .i64 t) ∧ (wr.alloc (Obj.cells #[.int .i64 (q : Nat), .int .i64 t, .slice av l.length cv] 68)).cell? ⟨wr.heap.size, 2, none⟩ = some (.slice av l.length cv)) := by
      unfold Hid
      simp only [World.cell?, heap_alloc_new]
      exact ⟨rfl, rfl, rfl⟩
    have BW : Hid (Below w.heap.size w (wr.alloc (Obj.cells #[.int .i64 (q : Nat), .int .i64 t, .slice av l.length cv] 68))) := B3.out.trans (BA.out.mono B3.out.size)
    go_wp2_with (at_builtin; refine app_sn _ rfl _ _ rfl base _ es rfl HA.out.r wr.heap.size ⟨(q : Nat), t, .slice av l.length cv, l⟩ av l.length cv rfl rfl DA.out.1 DA.out.2.1 DA.out.2.2 (by omega) (Nat.le_trans hb BW.out.size) ?_)
    intro g cap w5 o5 g5 a5 l5
    obtain ⟨k1, k2, k3, k4⟩ := HA.out.stored g5 o5 OA.out
    have FIN : Hid (RLk (w5.setCell ⟨y, 7, none⟩ (.slice (some ⟨g, 0, none⟩) (es.length + 1) cap)) y base P (L.put (q : Nat) t l) (.slice (some ⟨g, 0, none⟩) (es.length + 1) cap) (es ++ [⟨(q : Nat), t, .slice av l.length cv, l⟩]) ∧ RFr y va w (w5.setCell ⟨y, 7, none⟩ (.slice (some ⟨g, 0, none⟩) (es.length + 1) cap))) := ⟨k1, k2.os.trans BW.out.os, k2.tape.trans BW.out.tape, k2.output.trans BW.out.output, Nat.le_trans BW.out.size k2.size, fun k hk h1 h2 => (k2.block k (Nat.lt_of_lt_of_le hk BW.out.size) h1 h2).trans (BW.out.block k hk)⟩
    clear o5 g5 a5 l5 k1 k2 c7
    go_wp2
    go_ret
    exact ⟨by rw [HX.out, F.out]; rfl, FIN.out.2, .inl ⟨by rw [HX.out, F.out], TN.out, HS.out, _, FIN.out.1⟩⟩
end Go.Proofs.YtbomnicnoanjlaaDoor

namespace Go.Proofs.YtbomnicnoanjlaaDoor
namespace So
set_option linter.unusedVariables false
theorem lf_later {l : List OrV} {k : Nat} {x : OrV} (hx : l[k]? = some x) (h3 : ¬ x.what = 3) : ∀ {q : Nat}, k < q → ((k : Nat) : Int) ≤ lf l q x.player x.unit
  | 0, h => by omega
  | q + 1, h => by
    by_cases e : k = q
    · subst e
      rw [lf_other hx h3]
      unfold updAt
      rw [if_pos ⟨rfl, rfl⟩]
      omega
    · have ih := lf_later hx h3 (q := q) (by omega)
      rw [lf]
      cases hq : l[q]? with
      | none => exact ih
      | some y =>
        simp only
        split
        · exact ih
        · unfold updAt
          split
          · omega
          · exact ih
/-- no later one takes its place. -/
def Stays (l : List OrV) (i : Nat) (o : OrV) : Prop := ∀ (k : Nat) x, i < k → k < l.length → l[k]? = some x → ¬ (¬ o.what = 3 ∧ ¬ x.what = 3 ∧ x.player = o.player ∧ x.unit = o.unit)
theorem stays_iff {l : List OrV} {i : Nat} {o : OrV} (ho : l[i]? = some o) : Stays l i o ↔ (o.what = 3 ∨ lf l l.length o.player o.unit = (i : Nat)) := by
  have hi : i < l.length := (List.getElem?_eq_some_iff.1 ho).1
  constructor
  · intro h
    by_cases h3 : o.what = 3
    · exact .inl h3
    · refine .inr (lf_last ho h3 hi fun k x h1 h2 hx => ?_)
      have := h k x h1 h2 hx
      by_cases hx3 : x.what = 3
      · exact .inl hx3
      · by_cases hp : x.player = o.player
        · exact .inr (.inr fun hu => this ⟨h3, hx3, hp, hu⟩)
        · exact .inr (.inl hp)
  · rintro (h | h) k x h1 h2 hx ⟨h3, hx3, hp, hu⟩
    · exact h3 h
    · have := lf_later hx hx3 h2
      rw [hp, hu, h] at this
      omega
theorem stays_yes {l : List OrV} {i : Nat} {o : OrV} (ho : l[i]? = some o) (h : Stays l i o) : kp l (i + 1) = kp l i ++ [(o, i)] := kp_yes ho ((stays_iff ho).1 h)
theorem stays_no {l : List OrV} {i : Nat} {o : OrV} (ho : l[i]? = some o) (h : ¬ Stays l i o) : kp l (i + 1) = kp l i := kp_no ho (fun hc => h ((stays_iff ho).2 hc))
/-- x, with the greatest tag, put in its place. -/
theorem put_place {S1 S2 : List T} {x : T} (h : (S1 ++ S2).Pairwise lt) (ht : ∀ y ∈ S1 ++ S2, y.2 < x.2) (h2 : ∀ y ∈ S2, klt x.1 y.1) (h1 : ∀ y, S1.getLast? = some y → ¬ klt x.1 y.1) : (S1 ++ x :: S2).Pairwise lt := by
  refine put_rise h (fun y hy => ?_) (fun y hy => .inl (h2 y hy))
  rcases List.eq_nil_or_concat S1 with rfl | ⟨S, z, rfl⟩
  · cases hy
  · have hz : lt z x := (ask_ge (ht z (by simp))).1 (h1 z (by simp))
    rw [List.concat_eq_append] at hy h
    rcases List.mem_append.1 hy with hy | hy
    · rw [List.append_assoc, List.pairwise_append] at h
      exact lt_trans (h.2.2 y hy z (by simp)) hz
    · simp at hy
      subst hy
      exact hz
end So
end Go.Proofs.YtbomnicnoanjlaaDoor

namespace Go.Proofs.YtbomnicnoanjlaaDoor
open Go.RowKit Go.Proofs.YtbomnicnoanjlaaDoor.So
set_option linter.unusedVariables false

theorem below_dn (w : World) (n : Nat) : Below w.heap.size w (w.drewN n) := ⟨rfl, rfl, rfl, Nat.le_refl _, fun _ _ => rfl⟩
def Rl1 (ks : List OrV) (w : World) (v3 v4 : Value) (W : World) : Prop := ∃ q : Nat, q ≤ ks.length ∧ v4 = .int .i64 (q : Nat) ∧ Oro W w.heap.size v3 (fs (kp ks q)) ∧ Below w.heap.size w W
def Rl2 (ks : List OrV) (o : OrV) (q : Nat) (wo : World) (v5 v6 : Value) (W : World) : Prop := ∃ (b : Bool) (j : Nat), v5 = .bool b ∧ v6 = .int .i64 (j : Nat) ∧ q < j ∧ j ≤ ks.length ∧ (b = true ↔ ∀ (k : Nat) x, q < k → k < j → ks[k]? = some x → ¬ (¬ o.what = 3 ∧ ¬ x.what = 3 ∧ x.player = o.player ∧ x.unit = o.unit)) ∧ ∃ n, W = wo.drewN n
def Rl3 (U : List T) (u3 : Value) (w : World) (v7 v8 : Value) (W : World) : Prop := ∃ (q : Nat) (S : List T), q ≤ U.length ∧ v8 = .int .i64 (q : Nat) ∧ S.Perm (U.take q) ∧ S.Pairwise lt ∧ Oro W w.heap.size v7 (fs S) ∧ Oro W w.heap.size u3 (fs U) ∧ Below w.heap.size w W
def Rl4 (S : List T) (x : T) (wo : World) (v9 : Value) (W : World) : Prop := ∃ (S1 S2 : List T), v9 = .int .i64 (S1.length : Nat) ∧ S1 ++ S2 = S ∧ (∀ y ∈ S2, klt x.1 y.1) ∧ Below wo.heap.size wo W
/-- a part of a list, from its beginning. -/
theorem Orl.front {w : World} {a : Option Addr} {c n L : Nat} {ks : List OrV} (h : Orl w (.slice a L c) ks) (hn : n ≤ ks.length) : Orl w (.slice a n c) (ks.take n) := by
  obtain ⟨a', c', e, h1, h2, h3⟩ := h
  injection e with e1 e2 e3
  subst e1 e3
  refine ⟨a, c, by rw [List.length_take, Nat.min_eq_left hn], by rw [List.length_take]; omega, h2, fun hne => ?_⟩
  obtain ⟨x, hx, hx1, hx2⟩ := h3 (by rintro rfl; simp at hne)
  exact ⟨x, hx, hx1, fun i k hk => hx2 i k (by rw [List.getElem?_take] at hk; split at hk; exact hk; cases hk)⟩
/-- .. and from a place on. -/
theorem or_elem : Tryd.prog.elem 23 = 38 := by
  have hu : Tryd.prog.underlying 23 = some (.slice 38) := Tryd.underlying23
  simp [Program.elem, hu]
theorem Orl.back {w : World} {v : Value} {n : Nat} {ks : List OrV} (h : Orl w v ks) (hn : n ≤ ks.length) : ∃ v', Orl w v' (ks.drop n) ∧ ∀ W, (Instr.slice 23 v (some (.int .i64 (n : Nat))) none none).run Tryd.prog W = .ok v' W := by
  obtain ⟨a, c, rfl, h1, h2, h3⟩ := h
  obtain ⟨i0, hi, hz0, hz1, hz2⟩ := info_parts info_or
  have hu : Tryd.prog.underlying 23 = some (.slice 38) := Tryd.underlying23
  have he := or_elem
  have run : ∀ W, (Instr.slice 23 (.slice a ks.length c) (some (.int .i64 (n : Nat))) none none).run Tryd.prog W = .ok (sliced a n ks.length c 4) W := fun W => by
    refine (run_slice_l (P := Tryd.prog) W 23 a ks.length c (by rw [he]; exact hu) .i64 n (by omega) (by omega)).trans ?_
    rw [he]
    simp [sizeOf, typeInfo, hi, hz1]
  refine ⟨_, ?_, run⟩
  unfold sliced
  refine ⟨_, _, by rw [List.length_drop], by rw [List.length_drop]; omega, by omega, fun hne => ?_⟩
  have hnl : n < ks.length := by
    rcases Nat.lt_or_ge n ks.length with h | h
    · exact h
    · exact absurd (List.drop_eq_nil_of_le h) hne
  obtain ⟨x, rfl, hx1, hx2⟩ := h3 (by rintro rfl; simp at hnl)
  refine ⟨x.add (n * 4), ?_, by rw [add_block]; exact hx1, fun i k hk => ?_⟩
  · simp
    intro hc
    omega
  · rw [List.getElem?_drop] at hk
    have := hx2 (n + i) k hk
    have e : (x.add (n * 4)).add (i * 4) = x.add ((n + i) * 4) := by
      unfold Addr.add
      split <;> split <;> split <;> simp_all <;> omega
    rw [e]
    exact this
theorem Orl.sl {w : World} {a : Option Addr} {c n L : Nat} {ks : List OrV} (h : Orl w (.slice a L c) ks) (hn : n ≤ ks.length) : Orl w (sliced a n L c 4) (ks.drop n) := by
  obtain ⟨a', c', e, h1, h2, h3⟩ := h
  injection e with e1 e2 e3
  subst e1 e3 e2
  unfold sliced
  refine ⟨_, _, by rw [List.length_drop], by rw [List.length_drop]; omega, by omega, fun hne => ?_⟩
  have hnl : n < ks.length := by
    rcases Nat.lt_or_ge n ks.length with h | h
    · exact h
    · exact absurd (List.drop_eq_nil_of_le h) hne
  obtain ⟨x, rfl, hx1, hx2⟩ := h3 (by rintro rfl; simp at hnl)
  refine ⟨x.add (n * 4), ?_, by rw [add_block]; exact hx1, fun i k hk => ?_⟩
  · simp
    intro hc
    omega
  · rw [List.getElem?_drop] at hk
    have := hx2 (n + i) k hk
    have e : (x.add (n * 4)).add (i * 4) = x.add ((n + i) * 4) := by
      unfold Addr.add
      split <;> split <;> split <;> simp_all <;> omega
    rw [e]
    exact this
set_option maxRecDepth 100000 in
set_option maxHeartbeats 16000000 in
theorem ref_last (v : Value) (ks : List OrV) (w : World) (h : Orl w v ks) (hl : ks.length ≤ 60) :
    Calls Tryd.prog 26 #[v] w fun e w' => ∃ u out, e = .returned u ∧ LastSays ks out ∧ Oro w' w.heap.size u out ∧ Below w.heap.size w w' := by
  have K0 : Hid (Orl w v ks) := h
  obtain ⟨pa, pc, rfl, c1, c2, -⟩ := h
  go_enter Tryd.func26, Tryd.ntmps26
  go_wp2_with fail
  go_loopw [3, 4] (fun v3 v4 W => Rl1 ks w v3 v4 W) (fun _ v4 _ => ks.length - (intOf v4).toNat)
  case atStart => exact ⟨0, Nat.zero_le _, rfl, Oro.nil _ _, Below.refl _ _⟩
  case round =>
    obtain ⟨q, hq, rfl, hko, hb⟩ := hrel
    have OQ : Hid (Oro wr w.heap.size u3 (fs (kp ks q))) := hko
    have BQ : Hid (Below w.heap.size w wr) := hb
    clear hko hb
    generalize wr = wo at *
    by_cases hql : q = ks.length
    · subst hql
      obtain ⟨U, hU⟩ : ∃ U, kp ks ks.length = U := ⟨_, rfl⟩
      have HU : Hid (kp ks ks.length = U) := hU
      have UT : Hid (U.Pairwise (fun x y => x.2 < y.2)) := by unfold Hid; rw [← hU]; exact kp_tags _
      have UL : U.length ≤ 60 := by rw [← hU]; exact Nat.le_trans (kp_len _) hl
      rw [hU] at OQ
      clear hU
      obtain ⟨xa, xc, rfl⟩ := OQ.out.len
      have eUl : (fs U).length = U.length := by simp [fs]
      rw [eUl] at OQ ⊢
      clear eUl
      generalize huu : Value.slice xa U.length xc = u3 at *
      subst huu
      go_wp2_with fail
      go_loopw [7, 8] (fun v7 v8 W => Rl3 U (.slice xa U.length xc) w v7 v8 W) (fun _ v8 _ => U.length - (intOf v8).toNat)
      case atStart => exact ⟨0, [], Nat.zero_le _, rfl, by simp, List.Pairwise.nil, Oro.nil _ _, OQ.out, BQ.out⟩
      case round =>
        obtain ⟨q, S, hq, rfl, hp, hs, ho7, ho3, hb⟩ := hrel
        have HS : Hid (S.Perm (U.take q) ∧ S.Pairwise lt) := ⟨hp, hs⟩
        have OS : Hid (Oro wr w.heap.size u7 (fs S)) := ho7
        have OU : Hid (Oro wr w.heap.size (.slice xa U.length xc) (fs U)) := ho3
        have BS : Hid (Below w.heap.size w wr) := hb
        clear hp hs ho7 ho3 hb
        generalize wr = wo2 at *
        by_cases hqU : q = U.length
        · have LSY : Hid (LastSays ks (fs S)) := ⟨S, by have h := HS.out.1; rw [hqU, List.take_length, ← HU.out] at h; exact h, HS.out.2, rfl⟩
          subst hqU
          go_wp2
          go_ret
          exact ⟨_, _, rfl, LSY.out, OS.out, BS.out⟩
        · have hqk : q < U.length := by omega
          have hqi : ((q : Nat) : Int) < (U.length : Nat) := by omega
          obtain ⟨x, hx⟩ : ∃ x, U[q]? = some x := ⟨_, List.getElem?_eq_getElem hqk⟩
          have UX : Hid (U[q]? = some x) := hx
          have NX : Hid (U.take (q + 1) = U.take q ++ [x]) := by
            obtain ⟨hi, e⟩ := List.getElem?_eq_some_iff.1 hx
            unfold Hid
            rw [List.take_succ_eq_append_getElem hi, e]
          have TG : Hid (∀ y ∈ S, y.2 < x.2) := fun y hy => by
            have h1 := HS.out.1.mem_iff.1 hy
            have h2 := UT.out
            rw [← List.take_append_drop q U, List.pairwise_append] at h2
            refine h2.2.2 y h1 x ?_
            have : (U.drop q)[0]? = some x := by rw [List.getElem?_drop]; exact hx
            exact List.mem_of_getElem? this
          have SL : Hid (S.length ≤ 60) := by have h1 := HS.out.1.length_eq; rw [List.length_take] at h1; unfold Hid; omega
          obtain ⟨a7, c7, rfl⟩ := OS.out.len
          have eSl : (fs S).length = S.length := by simp [fs]
          rw [eSl] at OS ⊢
          clear eSl
          obtain ⟨xu, rfl⟩ : ∃ xu, xa = some xu := by
            obtain ⟨a', c', e, -, -, h3⟩ := OU.out.l
            injection e with e1 e2 e3
            subst e1
            obtain ⟨z, e9, -, -⟩ := h3 (by intro h; have := congrArg List.length h; simp [fs] at this; rw [this] at hqk; simp at hqk)
            exact ⟨z, e9⟩
          clear hx
          have sl60 : S.length ≤ 60 := SL.out
          go_wp2_with fail
          go_loopw [9] (fun v9 W => Rl4 S x wo2 v9 W) (fun v9 _ => (intOf v9).toNat)
          case atStart => exact ⟨S, [], rfl, by simp, by simp, Below.refl _ _⟩
          case round =>
            obtain ⟨S1, S2, rfl, h12, hk2, hb7⟩ := hrel
            generalize wr = w6 at *
            rcases List.eq_nil_or_concat S1 with h0 | ⟨S1', y, h0⟩
            · subst h0
              have hlast : ∀ y, ([] : List T).getLast? = some y → ¬ klt x.1 y.1 := fun y h => by simp at h
              simp only [List.length_nil]
              go_upto_region 18 with fail
              go_quiet (fail)
              have D6 : Hid (Below wo2.heap.size wo2 (w6.drewN nq)) := hb7.trans ((below_dn w6 nq).mono hb7.size)
              generalize w6.drewN nq = w7 at *
              have O7 : Hid (Oro w7 w.heap.size (.slice a7 S.length c7) (fs S)) := OS.out.below D6.out
              have U7 : Hid (Oro w7 w.heap.size (.slice (some xu) U.length xc) (fs U)) := OU.out.below D6.out
              have D7 : Hid (Below w.heap.size w w7) := BS.out.trans (D6.out.mono BS.out.size)
              clear hb7
              obtain ⟨S1, hS1⟩ : ∃ S1 : List T, [] = S1 := ⟨_, rfl⟩
              have hk0 : ((0 : Nat) : Int) = ((S1.length : Nat) : Int) := by rw [← hS1]; rfl
              rw [hk0]
              rw [hS1] at h12 hlast
              clear hk0 hS1
              have S12 : Hid (S1 ++ S2 = S) := h12
              have PW : Hid ((S1 ++ x :: S2).Pairwise lt) := put_place (by rw [h12]; exact HS.out.2) (fun y hy => TG.out y (by rw [← h12]; exact hy)) hk2 hlast
              have PM : Hid ((S1 ++ x :: S2).Perm (U.take (q + 1))) := by
                unfold Hid
                rw [NX.out]
                refine List.perm_middle.trans ?_
                rw [h12]
                exact ((HS.out.1.cons x).trans (List.perm_append_singleton x _).symm)
              obtain ⟨m, hm⟩ : ∃ m, S.length = m := ⟨_, rfl⟩
              obtain ⟨k, hk⟩ : ∃ k, S1.length = k := ⟨_, rfl⟩
              have hkm : k ≤ m := by rw [← hk, ← hm, ← h12]; simp
              have FR : Hid (Orl w7 (.slice a7 k c7) (fs S1)) := by
                have h := (O7.out.l).front (n := k) (by simp [fs]; omega)
                have e : (fs S).take k = fs S1 := by rw [← h12, ← hk]; simp [fs]
                rw [e] at h
                exact h
              have BKV : Hid (∀ W, Below w7.heap.size w7 W → Orl W (sliced a7 k m c7 4) (fs S2)) := fun W hW => by
                have h := Orl.sl ((O7.out.l).below hW) (n := k) (by simp [fs]; omega)
                have e : (fs S).drop k = fs S2 := by rw [← h12, ← hk]; simp [fs]
                rw [e, hm] at h
                exact h
              have ml : (fs S).length = m := by simp [fs, hm]
              have km' : ((k : Nat) : Int) ≤ (m : Nat) := by omega
              have kc7 : ((k : Nat) : Int) ≤ (c7 : Nat) := by
                obtain ⟨a', c', e, h1, -, -⟩ := O7.out.l
                injection e with e1 e2 e3
                subst e3
                simp [fs] at h1
                omega
              have LM : Hid (m ≤ 60 ∧ k ≤ m ∧ S1.length = k) := ⟨by rw [← hm]; exact SL.out, hkm, hk⟩
              simp only [hk]
              have ml2 : S.length = m := hm
              simp only [ml2]
              clear h12 hlast hk2 hm hk ml ml2
              go_wp2_with (at_builtin; refine app_ors _ rfl _ _ rfl w7.heap.size _ [] rfl (Oro.nil _ _) _ (fs S1) rfl FR.out (by have := LM.out; simp [fs]; omega) (Nat.le_refl _) ?_)
              intro v10 w8 o8 g8 a8
              have B8 : Hid (Below w7.heap.size w7 w8) := (Below.refl _ _).grown g8 (Nat.le_refl _) (fun k hk => by cases hk)
              have O8 : Hid (Oro w8 w7.heap.size v10 (fs S1)) := by unfold Hid; simpa using o8
              obtain ⟨a10, c10, e10⟩ := O8.out.len
              rw [show (fs S1).length = S1.length by simp [fs]] at e10
              subst e10
              clear o8 g8 a8
              have U8 : Hid (Oro w8 w.heap.size (.slice (some xu) U.length xc) (fs U)) := U7.out.below B8.out
              obtain ⟨y0, y1, y2, y3⟩ : Orc w8 (xu.add (q * 4)) x.1 := by
                obtain ⟨a', c', e, -, -, h3⟩ := U8.out.l
                injection e with e1 e2 e3
                subst e1
                obtain ⟨z, e9, -, hz⟩ := h3 (by intro h; have h9 := UX.out; have h8 := congrArg List.length h; simp [fs] at h8; rw [h8] at h9; simp at h9)
                injection e9 with e9
                subst e9
                exact hz q x.1 (by have := UX.out; simp [fs, this])
              have OA : Hid (Oro (w8.alloc (Obj.cells #[.int .i64 x.1.player, .int .i64 x.1.unit, .int .i64 x.1.what, .int .i64 x.1.arg] 38)) w7.heap.size (.slice a10 S1.length c10) (fs S1)) := O8.out.alloc _
              have RC : Hid (Orc (w8.alloc (Obj.cells #[.int .i64 x.1.player, .int .i64 x.1.unit, .int .i64 x.1.what, .int .i64 x.1.arg] 38)) ⟨w8.heap.size, 0, none⟩ x.1) := Orc.mk' (w := w8) x.1 rfl
              have BB : Hid (Below w8.heap.size w8 (w8.alloc (Obj.cells #[.int .i64 x.1.player, .int .i64 x.1.unit, .int .i64 x.1.what, .int .i64 x.1.arg] 38))) := (Below.refl _ _).alloc (Nat.le_refl _) _
              have SB : Hid (w7.heap.size ≤ (w8.alloc (Obj.cells #[.int .i64 x.1.player, .int .i64 x.1.unit, .int .i64 x.1.what, .int .i64 x.1.arg] 38)).heap.size) := Nat.le_trans B8.out.size BB.out.size
              go_wp2_with (at_builtin; refine app_or _ rfl _ _ rfl w7.heap.size _ (fs S1) rfl OA.out w8.heap.size x.1 rfl RC.out (by have := LM.out; simp [fs]; omega) SB.out ?_)
              intro g cap w9 o9 g9 a9 l9
              have B9 : Hid (Below w7.heap.size w7 w9) := (B8.out.trans (BB.out.mono B8.out.size)).grown g9 SB.out (fun k hk => (O8.out.block k hk).1)
              have O9 : Hid (Oro w9 w7.heap.size (.slice (some ⟨g, 0, none⟩) (S1.length + 1) cap) (fs S1 ++ [x.1])) := by unfold Hid; simpa [fs] using o9
              have BK := BKV.out w9 B9.out
              clear o9 g9 a9 l9 y0 y1 y2 y3
              go_wp2_with (at_builtin; refine app_ors _ rfl _ _ rfl w7.heap.size _ (fs S1 ++ [x.1]) (by first | rfl | simp [fs]) (by first | exact O9.out | simpa [fs] using O9.out) _ (fs S2) rfl (by first | exact BK | simpa [sliced] using BK) (by have := LM.out; have h9 := congrArg List.length S12.out; have h8 := SL.out; simp [fs] at h9 ⊢; omega) B9.out.size ?_)
              all_goals
                intro v11 wa oa ga aa
                have BA : Hid (Below w7.heap.size w7 wa) := B9.out.grown ga B9.out.size (fun k hk => (O9.out.block k (by first | exact hk | simpa [fs] using hk)).1)
                have OAA : Hid (Oro wa w.heap.size v11 (fs (S1 ++ x :: S2))) := by
                  have h := oa.mono (base' := w.heap.size) (by have := D7.out.size; omega)
                  unfold Hid
                  simpa [fs] using h
                have UA : Hid (Oro wa w.heap.size (.slice (some xu) U.length xc) (fs U)) := U7.out.below BA.out
                have DA : Hid (Below w.heap.size w wa) := D7.out.trans (BA.out.mono D7.out.size)
                clear oa ga aa BK
                go_wp2
                go_round
                case rel => exact ⟨q + 1, S1 ++ x :: S2, by omega, by go_num, PM.out, PW.out, OAA.out, UA.out, DA.out⟩
                case measure => simp [intOf]; omega
            · subst h0
              have hmm : S1'.length + 1 + S2.length = S.length := by have := congrArg List.length h12; simp at this; omega
              obtain ⟨k', hk'⟩ : ∃ k, S1'.length = k := ⟨_, rfl⟩
              have hk1 : (S1'.concat y).length = k' + 1 := by rw [← hk']; simp
              have O6 : Hid (Oro w6 w.heap.size (.slice a7 S.length c7) (fs S)) := OS.out.below hb7
              have U6 : Hid (Oro w6 w.heap.size (.slice (some xu) U.length xc) (fs U)) := OU.out.below hb7
              have SY : Hid ((fs S)[k']? = some y.1) := by
                unfold Hid
                rw [← h12, ← hk']
                simp [fs]
              obtain ⟨xs7, rfl⟩ : ∃ xs, a7 = some xs := by
                obtain ⟨a', c', e, -, -, h3⟩ := O6.out.l
                injection e with e1 e2 e3
                subst e1
                obtain ⟨z, e9, -, -⟩ := h3 (by intro h; rw [h] at SY; have := SY.out; simp at this)
                exact ⟨z, e9⟩
              have CX : Hid (∀ W, Below w6.heap.size w6 W → Orc W (xs7.add (k' * 4)) y.1 ∧ Orc W (xu.add (q * 4)) x.1) := fun W hW => by
                refine ⟨?_, ?_⟩
                · obtain ⟨a', c', e, -, -, h3⟩ := (O6.out.below hW).l
                  injection e with e1 e2 e3
                  subst e1
                  obtain ⟨z, e9, -, hz⟩ := h3 (by intro h; rw [h] at SY; have := SY.out; simp at this)
                  injection e9 with e9
                  subst e9
                  exact hz k' y.1 SY.out
                · obtain ⟨a', c', e, -, -, h3⟩ := (U6.out.below hW).l
                  injection e with e1 e2 e3
                  subst e1
                  obtain ⟨z, e9, -, hz⟩ := h3 (by intro h; have h9 := UX.out; have := congrArg List.length h; simp [fs] at this; rw [this] at h9; simp at h9)
                  injection e9 with e9
                  subst e9
                  exact hz q x.1 (by have := UX.out; simp [fs, this])
              have CB : Hid (∀ W, Below w6.heap.size w6 W → Calls Tryd.prog 34 #[.agg #[.int .i64 y.1.player, .int .i64 y.1.unit, .int .i64 y.1.what, .int .i64 y.1.arg], .agg #[.int .i64 x.1.player, .int .i64 x.1.unit, .int .i64 x.1.what, .int .i64 x.1.arg]] W fun e w' => e = .returned (.bool (decide (klt x.1 y.1))) ∧ Below w6.heap.size w6 w') := fun W hW => (ref_behind y.1 x.1 W).mono fun e w' ⟨h1, h2⟩ => ⟨h1, hW.trans (h2.mono hW.size)⟩
              have kpos : (0 : Int) < ((k' : Nat) : Int) + 1 := by omega
              have kk1 : ((k' : Nat) : Int) + 1 - 1 = k' := by omega
              have kw : IntKind.i64.wrap ((k' : Nat) : Int) = k' := by rw [IntKind.wrap_i64]; omega
              have hki0 : ((k' : Nat) : Int) < (S.length : Int) := by omega
              have e1 : (((S1'.concat y).length : Nat) : Int) = (k' : Int) + 1 := by rw [hk1]; rfl
              obtain ⟨bb, hbb⟩ : ∃ b, decide (klt x.1 y.1) = b := ⟨_, rfl⟩
              have HBB : Hid (decide (klt x.1 y.1) = bb) := hbb
              rw [hbb] at CB
              have HB7 : Hid (Below wo2.heap.size wo2 w6) := hb7
              have H12 : Hid (S1'.concat y ++ S2 = S) := h12
              have HK2 : Hid (∀ z ∈ S2, klt x.1 z.1) := hk2
              have HKL : Hid (S1'.length = k') := hk'
              rw [e1]
              clear hbb hb7 h12 hk2 hk1 e1 hmm hk'
              go_upto_region 18 with fail
              refine wp_region_class 13 (fun W => Below w6.heap.size w6 W) (by kernel_rfl) (by kernel_rfl) (Below.refl _ _).drew ?_
              simp only [List.take_succ_cons, List.take_zero, List.drop_succ_cons, List.drop_zero]
              refine head_step (.int .i64 ((k' : Int) + 1)) (by go_simp) (fun W hW => by go_simp) ?_
              go_simp
              refine head_step (.bool true) (by go_simp) (fun W hW => by go_simp) ?_
              go_simp
              refine head_step (.bool true) (by go_simp) (fun W hW => by go_simp) ?_
              go_simp
              refine head_step (.slice (some xs7) S.length c7) (by go_simp) (fun W hW => by go_simp) ?_
              go_simp
              refine head_step (.int .i64 ((k' : Int) + 1)) (by go_simp) (fun W hW => by go_simp) ?_
              go_simp
              refine head_step (.int .i64 (k' : Int)) (by go_simp) (fun W hW => by go_simp) ?_
              go_simp
              refine head_step (.pointer (some (xs7.add (k' * 4)))) (by go_simp) (fun W hW => by go_simp) ?_
              go_simp
              refine head_step (.agg #[.int .i64 y.1.player, .int .i64 y.1.unit, .int .i64 y.1.what, .int .i64 y.1.arg]) (by go_simp) (fun W hW => by obtain ⟨⟨x0, x1, x2, x3⟩, -⟩ := CX.out W hW; go_simp) ?_
              go_simp
              refine head_step (.slice (some xu) U.length xc) (by go_simp) (fun W hW => by go_simp) ?_
              go_simp
              refine head_step (.int .i64 (q : Int)) (by go_simp) (fun W hW => by go_simp) ?_
              go_simp
              refine head_step (.pointer (some (xu.add (q * 4)))) (by go_simp) (fun W hW => by go_simp) ?_
              go_simp
              refine head_step (.agg #[.int .i64 x.1.player, .int .i64 x.1.unit, .int .i64 x.1.what, .int .i64 x.1.arg]) (by go_simp) (fun W hW => by obtain ⟨-, x0, x1, x2, x3⟩ := CX.out W hW; go_simp) ?_
              go_simp
              refine head_call (.bool bb) 34 #[.agg #[.int .i64 y.1.player, .int .i64 y.1.unit, .int .i64 y.1.what, .int .i64 y.1.arg], .agg #[.int .i64 x.1.player, .int .i64 x.1.unit, .int .i64 x.1.what, .int .i64 x.1.arg]] (by go_simp) (fun W hW => by go_simp) (fun W hW => CB.out W hW) ?_
              go_simp
              intro w7 hW
              have D6 : Hid (Below wo2.heap.size wo2 w7) := HB7.out.trans (hW.mono HB7.out.size)
              clear hW CX CB
              cases bb
              · have O7 : Hid (Oro w7 w.heap.size (.slice (some xs7) S.length c7) (fs S)) := OS.out.below D6.out
                have U7 : Hid (Oro w7 w.heap.size (.slice (some xu) U.length xc) (fs U)) := OU.out.below D6.out
                have D7 : Hid (Below w.heap.size w w7) := BS.out.trans (D6.out.mono BS.out.size)
                have hlast : ∀ z, (S1'.concat y).getLast? = some z → ¬ klt x.1 z.1 := fun z hz => by
                  simp at hz
                  subst hz
                  exact of_decide_eq_false HBB.out
                have h12 : S1'.concat y ++ S2 = S := H12.out
                have hk2 : ∀ z ∈ S2, klt x.1 z.1 := HK2.out
                have hS1l : (k' : Int) + 1 = (((S1'.concat y).length : Nat) : Int) := by have := HKL.out; simp; omega
                rw [hS1l]
                generalize S1'.concat y = S1 at *
                clear hS1l kk1 kw kpos hki0
                have S12 : Hid (S1 ++ S2 = S) := h12
                have PW : Hid ((S1 ++ x :: S2).Pairwise lt) := put_place (by rw [h12]; exact HS.out.2) (fun y hy => TG.out y (by rw [← h12]; exact hy)) hk2 hlast
                have PM : Hid ((S1 ++ x :: S2).Perm (U.take (q + 1))) := by
                  unfold Hid
                  rw [NX.out]
                  refine List.perm_middle.trans ?_
                  rw [h12]
                  exact ((HS.out.1.cons x).trans (List.perm_append_singleton x _).symm)
                obtain ⟨m, hm⟩ : ∃ m, S.length = m := ⟨_, rfl⟩
                obtain ⟨k, hk⟩ : ∃ k, S1.length = k := ⟨_, rfl⟩
                have hkm : k ≤ m := by rw [← hk, ← hm, ← h12]; simp
                have FR : Hid (Orl w7 (.slice (some xs7) k c7) (fs S1)) := by
                  have h := (O7.out.l).front (n := k) (by simp [fs]; omega)
                  have e : (fs S).take k = fs S1 := by rw [← h12, ← hk]; simp [fs]
                  rw [e] at h
                  exact h
                have BKV : Hid (∀ W, Below w7.heap.size w7 W → Orl W (sliced (some xs7) k m c7 4) (fs S2)) := fun W hW => by
                  have h := Orl.sl ((O7.out.l).below hW) (n := k) (by simp [fs]; omega)
                  have e : (fs S).drop k = fs S2 := by rw [← h12, ← hk]; simp [fs]
                  rw [e, hm] at h
                  exact h
                have ml : (fs S).length = m := by simp [fs, hm]
                have km' : ((k : Nat) : Int) ≤ (m : Nat) := by omega
                have kc7 : ((k : Nat) : Int) ≤ (c7 : Nat) := by
                  obtain ⟨a', c', e, h1, -, -⟩ := O7.out.l
                  injection e with e1 e2 e3
                  subst e3
                  simp [fs] at h1
                  omega
                have LM : Hid (m ≤ 60 ∧ k ≤ m ∧ S1.length = k) := ⟨by rw [← hm]; exact SL.out, hkm, hk⟩
                simp only [hk]
                have ml2 : S.length = m := hm
                simp only [ml2]
                clear h12 hlast hk2 hm hk ml ml2
                go_wp2_with (at_builtin; refine app_ors _ rfl _ _ rfl w7.heap.size _ [] rfl (Oro.nil _ _) _ (fs S1) rfl FR.out (by have := LM.out; simp [fs]; omega) (Nat.le_refl _) ?_)
                intro v10 w8 o8 g8 a8
                have B8 : Hid (Below w7.heap.size w7 w8) := (Below.refl _ _).grown g8 (Nat.le_refl _) (fun k hk => by cases hk)
                have O8 : Hid (Oro w8 w7.heap.size v10 (fs S1)) := by unfold Hid; simpa using o8
                obtain ⟨a10, c10, e10⟩ := O8.out.len
                rw [show (fs S1).length = S1.length by simp [fs]] at e10
                subst e10
                clear o8 g8 a8
                have U8 : Hid (Oro w8 w.heap.size (.slice (some xu) U.length xc) (fs U)) := U7.out.below B8.out
                obtain ⟨y0, y1, y2, y3⟩ : Orc w8 (xu.add (q * 4)) x.1 := by
                  obtain ⟨a', c', e, -, -, h3⟩ := U8.out.l
                  injection e with e1 e2 e3
                  subst e1
                  obtain ⟨z, e9, -, hz⟩ := h3 (by intro h; have h9 := UX.out; have h8 := congrArg List.length h; simp [fs] at h8; rw [h8] at h9; simp at h9)
                  injection e9 with e9
                  subst e9
                  exact hz q x.1 (by have := UX.out; simp [fs, this])
                have OA : Hid (Oro (w8.alloc (Obj.cells #[.int .i64 x.1.player, .int .i64 x.1.unit, .int .i64 x.1.what, .int .i64 x.1.arg] 38)) w7.heap.size (.slice a10 S1.length c10) (fs S1)) := O8.out.alloc _
                have RC : Hid (Orc (w8.alloc (Obj.cells #[.int .i64 x.1.player, .int .i64 x.1.unit, .int .i64 x.1.what, .int .i64 x.1.arg] 38)) ⟨w8.heap.size, 0, none⟩ x.1) := Orc.mk' (w := w8) x.1 rfl
                have BB : Hid (Below w8.heap.size w8 (w8.alloc (Obj.cells #[.int .i64 x.1.player, .int .i64 x.1.unit, .int .i64 x.1.what, .int .i64 x.1.arg] 38))) := (Below.refl _ _).alloc (Nat.le_refl _) _
                have SB : Hid (w7.heap.size ≤ (w8.alloc (Obj.cells #[.int .i64 x.1.player, .int .i64 x.1.unit, .int .i64 x.1.what, .int .i64 x.1.arg] 38)).heap.size) := Nat.le_trans B8.out.size BB.out.size
                go_wp2_with (at_builtin; refine app_or _ rfl _ _ rfl w7.heap.size _ (fs S1) rfl OA.out w8.heap.size x.1 rfl RC.out (by have := LM.out; simp [fs]; omega) SB.out ?_)
                intro g cap w9 o9 g9 a9 l9
                have B9 : Hid (Below w7.heap.size w7 w9) := (B8.out.trans (BB.out.mono B8.out.size)).grown g9 SB.out (fun k hk => (O8.out.block k hk).1)
                have O9 : Hid (Oro w9 w7.heap.size (.slice (some ⟨g, 0, none⟩) (S1.length + 1) cap) (fs S1 ++ [x.1])) := by unfold Hid; simpa [fs] using o9
                have BK := BKV.out w9 B9.out
                clear o9 g9 a9 l9 y0 y1 y2 y3
                go_wp2_with (at_builtin; refine app_ors _ rfl _ _ rfl w7.heap.size _ (fs S1 ++ [x.1]) (by first | rfl | simp [fs]) (by first | exact O9.out | simpa [fs] using O9.out) _ (fs S2) rfl (by first | exact BK | simpa [sliced] using BK) (by have := LM.out; have h9 := congrArg List.length S12.out; have h8 := SL.out; simp [fs] at h9 ⊢; omega) B9.out.size ?_)
                all_goals
                  intro v11 wa oa ga aa
                  have BA : Hid (Below w7.heap.size w7 wa) := B9.out.grown ga B9.out.size (fun k hk => (O9.out.block k (by first | exact hk | simpa [fs] using hk)).1)
                  have OAA : Hid (Oro wa w.heap.size v11 (fs (S1 ++ x :: S2))) := by
                    have h := oa.mono (base' := w.heap.size) (by have := D7.out.size; omega)
                    unfold Hid
                    simpa [fs] using h
                  have UA : Hid (Oro wa w.heap.size (.slice (some xu) U.length xc) (fs U)) := U7.out.below BA.out
                  have DA : Hid (Below w.heap.size w wa) := D7.out.trans (BA.out.mono D7.out.size)
                  clear oa ga aa BK
                  go_wp2
                  go_round
                  case rel => exact ⟨q + 1, S1 ++ x :: S2, by omega, by go_num, PM.out, PW.out, OAA.out, UA.out, DA.out⟩
                  case measure => simp [intOf]; omega
              · have KX : Hid (∀ z ∈ y :: S2, klt x.1 z.1) := fun z hz => by
                  rcases List.mem_cons.1 hz with rfl | hz
                  · exact of_decide_eq_true HBB.out
                  · exact HK2.out z hz
                have HJ : Hid (S1' ++ y :: S2 = S) := by have := H12.out; unfold Hid; rw [← this]; simp
                go_wp2
                go_roundw
                case rel => exact ⟨S1', y :: S2, by rw [HKL.out], HJ.out, KX.out, D6.out⟩
                case measure => have := HKL.out; simp [intOf]; try omega
    · have hqk : q < ks.length := by omega
      obtain ⟨o, ho⟩ : ∃ o, ks[q]? = some o := ⟨_, List.getElem?_eq_getElem hqk⟩
      have HO : Hid (ks[q]? = some o) := ho
      obtain ⟨a', c', e, -, -, h3⟩ := K0.out.below BQ.out
      injection e with e1 e2 e3
      subst e1 e3
      obtain ⟨y, rfl, hy1, hy⟩ := h3 (by rintro rfl; simp at hqk)
      have HY : Hid (∀ (i : Nat) k, ks[i]? = some k → Orc wo (y.add (i * 4)) k) := hy
      obtain ⟨r0, r1, r2, r3⟩ := hy q o ho
      clear hy h3 e2 ho
      have hqi : ((q : Nat) : Int) < (ks.length : Nat) := by omega
      have hqb : q + 1 ≤ ks.length := by omega
      have KL : Hid ((fs (kp ks q)).length ≤ 60) := by have h1 := kp_len (l := ks) q; unfold Hid; simp [fs]; omega
      go_wp2_with fail
      go_loopw [5, 6] (fun v5 v6 W => Rl2 ks o q wo v5 v6 W) (fun _ v6 _ => ks.length - (intOf v6).toNat)
      case atStart => exact ⟨true, q + 1, rfl, by go_num, by omega, hqb, ⟨fun _ k x h1 h2 => by omega, fun _ => rfl⟩, 0, rfl⟩
      case round =>
        obtain ⟨b, j, rfl, rfl, hqj, hj, hall, m, rfl⟩ := hrel
        have HA : Hid (b = true ↔ ∀ (k : Nat) x, q < k → k < j → ks[k]? = some x → ¬ (¬ o.what = 3 ∧ ¬ x.what = 3 ∧ x.player = o.player ∧ x.unit = o.unit)) := hall
        clear hall
        by_cases hjl : j = ks.length
        · subst hjl
          have DN : Hid (Below wo.heap.size wo (wo.drewN m)) := below_dn wo m
          generalize wo.drewN m = w5 at *
          have B5 : Hid (Below w.heap.size w w5) := BQ.out.trans (DN.out.mono BQ.out.size)
          have O5 : Hid (Oro w5 w.heap.size u3 (fs (kp ks q))) := OQ.out.below DN.out
          cases b
          · have NK : Hid (kp ks (q + 1) = kp ks q) := stays_no HO.out (fun h => by have := HA.out.2 h; cases this)
            clear r0 r1 r2 r3
            go_wp2
            go_round
            case rel => exact ⟨q + 1, by omega, by go_num, by rw [NK.out]; exact O5.out, B5.out⟩
            case measure => simp [intOf]; omega
          · have NK : Hid (kp ks (q + 1) = kp ks q ++ [(o, q)]) := stays_yes HO.out (HA.out.1 rfl)
            clear r0 r1 r2 r3
            obtain ⟨r0, r1, r2, r3⟩ := (HY.out q o HO.out).below DN.out (by rw [add_block]; exact hy1)
            have OA : Hid (Oro (w5.alloc (Obj.cells #[.int .i64 o.player, .int .i64 o.unit, .int .i64 o.what, .int .i64 o.arg] 38)) w.heap.size u3 (fs (kp ks q))) := O5.out.alloc _
            have RC : Hid (Orc (w5.alloc (Obj.cells #[.int .i64 o.player, .int .i64 o.unit, .int .i64 o.what, .int .i64 o.arg] 38)) ⟨w5.heap.size, 0, none⟩ o) := Orc.mk' (w := w5) o rfl
            have BB : Hid (Below w5.heap.size w5 (w5.alloc (Obj.cells #[.int .i64 o.player, .int .i64 o.unit, .int .i64 o.what, .int .i64 o.arg] 38))) := (Below.refl _ _).alloc (Nat.le_refl _) _
            have SB : Hid (w.heap.size ≤ (w5.alloc (Obj.cells #[.int .i64 o.player, .int .i64 o.unit, .int .i64 o.what, .int .i64 o.arg] 38)).heap.size) := Nat.le_trans B5.out.size BB.out.size
            go_wp2_with (at_builtin; refine app_or _ rfl _ _ rfl w.heap.size _ (fs (kp ks q)) rfl OA.out w5.heap.size o rfl RC.out (by have := KL.out; omega) SB.out ?_)
            intro g cap w7 o7 g7 a7 l7
            have B7 : Hid (Below w.heap.size w w7) := (B5.out.trans (BB.out.mono B5.out.size)).grown g7 SB.out (fun k hk => (O5.out.block k hk).1)
            have O7 : Hid (Oro w7 w.heap.size (.slice (some ⟨g, 0, none⟩) ((kp ks q).length + 1) cap) (fs (kp ks (q + 1)))) := by unfold Hid; rw [NK.out]; simpa [fs] using o7
            clear o7 g7 a7 l7 r0 r1 r2 r3
            go_wp2
            go_round
            case rel => exact ⟨q + 1, by omega, by go_num, O7.out, B7.out⟩
            case measure => simp [intOf]; omega
        · have hjk : j < ks.length := by omega
          have hji : ((j : Nat) : Int) < (ks.length : Nat) := by omega
          obtain ⟨x, hx⟩ : ∃ x, ks[j]? = some x := ⟨_, List.getElem?_eq_getElem hjk⟩
          obtain ⟨s0, s1, s2, s3⟩ := HY.out j x hx
          have HX : Hid (ks[j]? = some x) := hx
          have NX : Hid ((¬ (¬ o.what = 3 ∧ ¬ x.what = 3 ∧ x.player = o.player ∧ x.unit = o.unit)) → (b = true ↔ ∀ (k : Nat) z, q < k → k < j + 1 → ks[k]? = some z → ¬ (¬ o.what = 3 ∧ ¬ z.what = 3 ∧ z.player = o.player ∧ z.unit = o.unit))) := fun hd => ⟨fun hb k z h1 h2 hz => by
              by_cases e : k = j
              · subst e
                rw [HX.out] at hz
                obtain rfl := Option.some.inj hz
                exact hd
              · exact HA.out.1 hb k z h1 (by omega) hz, fun h => HA.out.2 (fun k z h1 h2 hz => h k z h1 (by omega) hz)⟩
          clear hx hjl
          by_cases g0 : o.what = 3
          · go_upto_region 9 with fail
            go_quiet (fail)
            go_wp2
            go_roundw
            case rel => exact ⟨b, j + 1, rfl, by go_num, by omega, by omega, NX.out (fun h => h.1 g0), m + nq, rfl⟩
            case measure => simp [intOf]; omega
          · by_cases g3 : x.what = 3
            · go_upto_region 9 with fail
              have g0b : (o.what != 3) = true := bne_iff_ne.2 g0
              go_quiet (fail)
              go_wp2
              go_roundw
              case rel => exact ⟨b, j + 1, rfl, by go_num, by omega, by omega, NX.out (fun h => h.2.1 g3), m + nq, rfl⟩
              case measure => simp [intOf]; omega
            · by_cases gp : x.player = o.player
              · by_cases gu : x.unit = o.unit
                · have FX : Hid (false = true ↔ ∀ (k : Nat) z, q < k → k < j + 1 → ks[k]? = some z → ¬ (¬ o.what = 3 ∧ ¬ z.what = 3 ∧ z.player = o.player ∧ z.unit = o.unit)) := ⟨fun h => (by cases h), fun h => absurd ⟨g0, g3, gp, gu⟩ (h j x (by omega) (by omega) HX.out)⟩
                  go_upto_region 9 with fail
                  have g0b : (o.what != 3) = true := bne_iff_ne.2 g0
                  have g3b : (x.what != 3) = true := bne_iff_ne.2 g3
                  go_quiet (fail)
                  go_wp2
                  go_roundw
                  case rel => exact ⟨false, j + 1, rfl, by go_num, by omega, by omega, FX.out, m + nq, rfl⟩
                  case measure => simp [intOf]; omega
                · have gub : (x.unit == o.unit) = false := beq_eq_false_iff_ne.2 gu
                  go_upto_region 9 with fail
                  have g0b : (o.what != 3) = true := bne_iff_ne.2 g0
                  have g3b : (x.what != 3) = true := bne_iff_ne.2 g3
                  go_quiet (fail)
                  go_wp2
                  go_roundw
                  case rel => exact ⟨b, j + 1, rfl, by go_num, by omega, by omega, NX.out (fun h => gu h.2.2.2), m + nq, rfl⟩
                  case measure => simp [intOf]; omega
              · have gpb : (x.player == o.player) = false := beq_eq_false_iff_ne.2 gp
                go_upto_region 9 with fail
                have g0b : (o.what != 3) = true := bne_iff_ne.2 g0
                have g3b : (x.what != 3) = true := bne_iff_ne.2 g3
                go_quiet (fail)
                go_wp2
                go_roundw
                case rel => exact ⟨b, j + 1, rfl, by go_num, by omega, by omega, NX.out (fun h => gp h.2.2.1), m + nq, rfl⟩
                case measure => simp [intOf]; omega
end Go.Proofs.YtbomnicnoanjlaaDoor

namespace Go.Proofs.YtbomnicnoanjlaaDoor
open Go.RowKit Go.Proofs.YtbomnicnoanjlaaDoor.So
set_option linter.unusedVariables false

theorem pick_next {es : List SnV} {q : Nat} {e : SnV} (h : es[q]? = some e) (p t : Int) : pick (es.take (q + 1)) p t = pick (es.take q) p t ++ if (e.player == p && e.turn == t) then e.l else [] := by
  unfold pick
  rw [List.take_add_one, h, List.filter_append, List.flatMap_append]
  by_cases c : (e.player == p && e.turn == t) = true
  · rw [if_pos c]; simp [c]
  · rw [if_neg c]; simp [c]
theorem pick_le {es : List SnV} (q : Nat) (p t : Int) : (pick (es.take q) p t).length ≤ (pick es p t).length := by
  have h : pick es p t = pick (es.take q) p t ++ pick (es.drop q) p t := by
    unfold pick
    rw [← List.flatMap_append, ← List.filter_append, List.take_append_drop]
  rw [h, List.length_append]
  exact Nat.le_add_right _ _
theorem lsN_le {L : LoV} (hs : ∀ t p l, L.sent t p = some l → l.length ≤ 60) : ∀ n, (L.lsN n).flatten.length ≤ 60 * n
  | 0 => by simp [LoV.lsN]
  | n + 1 => by
    rw [LoV.lsN_next, List.flatten_append, List.length_append]
    have ih := lsN_le hs n
    have h1 : ((L.sent L.now n).getD []).length ≤ 60 := by
      cases e : L.sent L.now n with
      | none => simp
      | some l => exact hs _ _ _ e
    simp only [List.flatten_cons, List.flatten_nil, List.append_nil]
    omega
theorem RLk.nows {w : World} {y base P : Nat} {L : LoV} {va : Value} {es : List SnV} (h : RLk w y base P L va es) : RLk (w.setCell ⟨y, 2, none⟩ (.int .i64 (L.now + 1))) y base P L.took va es ∧ Kp y w (w.setCell ⟨y, 2, none⟩ (.int .i64 (L.now + 1))) ∧ w.frozen? ⟨y, 2, none⟩ = false := by
  have hy := h.yb
  have hx := h.x
  have KK : Kp y w (w.setCell ⟨y, 2, none⟩ (.int .i64 (L.now + 1))) := Kp.set w 2 _
  have H9 : ∀ k, k < w.heap.size → base ≤ k → (w.setCell ⟨y, 2, none⟩ (.int .i64 (L.now + 1))).heap[k]? = w.heap[k]? := fun k hk hb => KK.block k hk (by omega)
  refine ⟨⟨?_, own_high h.r H9, fun e he => own_high (h.o e he) H9, hy⟩, KK, ?_⟩
  · rw [heap_setCell_same w y 2 _ _ _ hx]
    rfl
  · simp [World.frozen?, hx]
/-- what Take says. -/
def RTk (y base P : Nat) (L : LoV) (va : Value) (es : List SnV) (w : World) (e : Ending) (w' : World) : Prop := ∃ u n, e = .returned (.tuple #[u, .int .i64 n]) ∧ RFr y va w w' ∧
  ((L.waits ≠ [] ∧ n = 7 ∧ u = .slice none 0 0 ∧ RLk w' y base P L va es) ∨
   (L.waits = [] ∧ Od.faults L.ls.flatten ≠ 0 ∧ n = Od.faults L.ls.flatten ∧ u = .slice none 0 0 ∧ RLk w' y base P L va es) ∨
   (L.waits = [] ∧ Od.faults L.ls.flatten = 0 ∧ n = 0 ∧ (∃ out, LastSays L.ls.flatten out ∧ Oro w' w.heap.size u out) ∧ RLk w' y base P L.took va es))
def Rt1 (L : LoV) (P : Nat) (w1 : World) (v6 v5 : Value) (W : World) : Prop := ∃ q : Nat, q ≤ P ∧ v6 = .int .i64 (q : Nat) ∧ Oro W w1.heap.size v5 (L.lsN q).flatten ∧ Below w1.heap.size w1 W
def Rt2 (L : LoV) (es : List SnV) (q : Nat) (w1 : World) (v7 v5 : Value) (W : World) : Prop := ∃ i : Nat, i ≤ es.length ∧ v7 = .int .i64 (i : Nat) ∧ Oro W w1.heap.size v5 ((L.lsN q).flatten ++ pick (es.take i) q L.now) ∧ Below w1.heap.size w1 W
set_option maxRecDepth 100000 in
set_option maxHeartbeats 16000000 in
theorem rtake_any (y base P : Nat) (L : LoV) (va : Value) (es : List SnV) (w : World) (h : RLk w y base P L va es) (hP : L.out.length = P) (h4 : P ≤ 4) (hn : 0 ≤ L.now ∧ L.now ≤ 1000000) (hl : es.length ≤ 1000) (hr : Rl es L) (hs : ∀ t p l, L.sent t p = some l → l.length ≤ 60) :
    Calls Tryd.prog 9 #[.pointer (some ⟨y, 0, none⟩)] w (RTk y base P L va es w) := by
  have H : Hid (RLk w y base P L va es) := h
  have R : Hid (Rl es L) := hr
  have HS : Hid (∀ t p l, L.sent t p = some l → l.length ≤ 60) := hs
  clear h hr hs
  go_enter Tryd.func9, Tryd.ntmps9
  go_wp2_with fail
  refine (rwaits_any y base P L va es w H.out (by omega) hP h4 R.out).mono ?_
  rintro e w1 ⟨u1, rfl, ho, b1⟩
  obtain ⟨a1, c1, rfl⟩ := ho.len
  have B1 : Hid (Below w.heap.size w w1) := b1
  have H1 : Hid (RLk w1 y base P L va es) := H.out.below b1
  clear ho b1
  by_cases he : L.waits = []
  case neg =>
    have HE : Hid (L.waits ≠ []) := he
    have hz : (0 : Int) < ((L.waits.length : Nat) : Int) := by have := List.length_pos_iff.2 he; omega
    clear he
    go_wp2
    go_ret2
    exact ⟨_, _, rfl, RFr.of B1.out, .inl ⟨HE.out, rfl, rfl, H1.out⟩⟩
  have HE : Hid (L.waits = []) := he
  rw [show L.waits.length = 0 by rw [he]; rfl]
  clear he
  go_wp2_with fail
  go_loopw [6, 5] (fun v6 v5 W => Rt1 L P w1 v6 v5 W) (fun v6 _ _ => P - (intOf v6).toNat)
  case atStart => exact ⟨0, Nat.zero_le _, rfl, by simpa [LoV.lsN] using Oro.nil _ _, Below.refl _ _⟩
  case round =>
    obtain ⟨q, hq, rfl, ho, hb⟩ := hrel
    have O : Hid (Oro wr w1.heap.size u5 (L.lsN q).flatten) := ho
    have B : Hid (Below w1.heap.size w1 wr) := hb
    have H2 : Hid (RLk wr y base P L va es) := H1.out.below hb
    obtain ⟨c0, -, c2, c7, -⟩ := H2.out.cells
    clear ho hb
    by_cases hqP : q = P
    case neg =>
      have hqi : (q : Int) < (P : Nat) := by omega
      have QW : IntKind.i64.wrap ((q : Int) + 1) = (q : Int) + 1 := by rw [IntKind.wrap_i64]; omega
      have LL : Hid ((L.lsN q).flatten.length ≤ 240) := by have := lsN_le HS.out q; unfold Hid; omega
      have PL : Hid ((pick es q L.now).length ≤ 60) := by
        unfold Hid
        rw [(R.out L.now q (Int.le_refl _)).2]
        cases e : L.sent L.now q with
        | none => simp
        | some l => exact HS.out _ _ _ e
      go_upto_region 9 with fail
      clear c0 c2 c7
      go_loopw [7, 5] (fun v7 v5 W => Rt2 L es q w1 v7 v5 W) (fun v7 _ _ => es.length - (intOf v7).toNat)
      case atStart => exact ⟨0, Nat.zero_le _, rfl, by simpa [pick] using O.out, B.out⟩
      case round =>
        obtain ⟨i, hi, rfl, ho, hb⟩ := hrel
        obtain ⟨A, hA⟩ : ∃ A, (L.lsN q).flatten ++ pick (es.take i) q L.now = A := ⟨_, rfl⟩
        rw [hA] at ho
        have EA : Hid ((L.lsN q).flatten ++ pick (es.take i) q L.now = A) := hA
        have O2 : Hid (Oro wr w1.heap.size u5 A) := ho
        have B2 : Hid (Below w1.heap.size w1 wr) := hb
        have H3 : Hid (RLk wr y base P L va es) := H1.out.below hb
        have AL : Hid (A.length ≤ 300) := by have h1 := pick_le (es := es) i q L.now; have h2 := LL.out; have h3 := PL.out; unfold Hid; rw [← EA.out, List.length_append]; omega
        obtain ⟨c0, -, c2, c7, -⟩ := H3.out.cells
        obtain ⟨av, cv, hva, -, -, hv3⟩ := H3.out.r.cells
        rw [hva] at c7
        clear ho hb hA c0
        by_cases hil : i = es.length
        · subst hil
          have O4 : Hid (Oro wr w1.heap.size u5 (L.lsN (q + 1)).flatten) := by
            have h := O2.out
            rw [← EA.out, List.take_length, (R.out L.now q (Int.le_refl _)).2] at h
            unfold Hid
            rw [LoV.lsN_next, List.flatten_append]
            simpa using h
          clear hv3
          go_wp2
          go_round
          case rel => exact ⟨q + 1, by omega, by go_num, O4.out, B2.out⟩
          case measure => simp [intOf]; omega
        · have hik : i < es.length := by omega
          have hii : (i : Int) < (es.length : Nat) := by omega
          have IW : IntKind.i64.wrap ((i : Int) + 1) = (i : Int) + 1 := by rw [IntKind.wrap_i64]; omega
          obtain ⟨e, hk⟩ : ∃ e, es[i]? = some e := ⟨_, List.getElem?_eq_getElem hik⟩
          obtain ⟨g, rfl, hx⟩ := hv3 (by rintro rfl; simp at hik)
          obtain ⟨e0, e1, e2⟩ := hx i e hk
          have NX : Hid (pick (es.take (i + 1)) q L.now = pick (es.take i) q L.now ++ if (e.player == (q : Int) && e.turn == L.now) then e.l else []) := pick_next hk q L.now
          have OE : Hid (Oro wr base e.v e.l) := H3.out.o e (List.mem_of_getElem? hk)
          have EL : Hid (e.player = (q : Int) → e.turn = L.now → e.l.length ≤ 60) := fun x1 x2 => by
            have h1 := pick_le (es := es) (i + 1) q L.now
            have h2 := PL.out
            rw [NX.out, x1, x2] at h1
            simp at h1
            omega
          obtain ⟨ae, ce, hev⟩ := OE.out.len
          rw [hev] at e2
          have EV : Hid (e.v = .slice ae e.l.length ce) := hev
          clear hx hk hev
          by_cases x1 : e.player = (q : Int)
          case neg =>
            have x1b : (e.player == (q : Int)) = false := beq_eq_false_iff_ne.2 x1
            have NK : Hid ((L.lsN q).flatten ++ pick (es.take (i + 1)) q L.now = A) := by unfold Hid; rw [NX.out, x1b, ← EA.out]; simp
            clear x1
            go_upto_region 11 with fail
            go_quiet (fail)
            go_wp2
            go_round
            case rel => exact ⟨i + 1, by omega, by go_num, by rw [NK.out]; exact O2.out, below_dn9 B2.out _⟩
            case measure => simp [intOf]; omega
          have x1b : (e.player == (q : Int)) = true := beq_iff_eq.2 x1
          by_cases x2 : e.turn = L.now
          case neg =>
            have x2b : (e.turn == L.now) = false := beq_eq_false_iff_ne.2 x2
            have NK : Hid ((L.lsN q).flatten ++ pick (es.take (i + 1)) q L.now = A) := by unfold Hid; rw [NX.out, x2b, ← EA.out]; simp
            clear x1 x2
            go_upto_region 11 with fail
            go_quiet (fail)
            go_wp2
            go_round
            case rel => exact ⟨i + 1, by omega, by go_num, by rw [NK.out]; exact O2.out, below_dn9 B2.out _⟩
            case measure => simp [intOf]; omega
          have x2b : (e.turn == L.now) = true := beq_iff_eq.2 x2
          have E60 : Hid (e.l.length ≤ 60) := EL.out x1 x2
          have NK : Hid ((L.lsN q).flatten ++ pick (es.take (i + 1)) q L.now = A ++ e.l) := by unfold Hid; rw [NX.out, x1b, x2b, ← EA.out]; simp
          clear x1 x2
          go_upto_region 11 with fail
          go_quiet (fail)
          go_upto_region 12 with fail
          have DQ : Hid (Below wr.heap.size wr (wr.drewN nq)) := below_dn9 (Below.refl _ _) _
          have d7 : (wr.drewN nq).cell? ⟨y, 7, none⟩ = some (.slice (some ⟨g, 0, none⟩) es.length cv) := c7
          have d2 : (wr.drewN nq).cell? ⟨g, i * 3 + 2, none⟩ = some (.slice ae e.l.length ce) := e2
          clear c2 c7 e0 e1 e2 x1b x2b
          generalize wr.drewN nq = wq at *
          have BQ : Hid (Below w1.heap.size w1 wq) := B2.out.trans (DQ.out.mono B2.out.size)
          have OQ : Hid (Oro wq w1.heap.size u5 A) := O2.out.below DQ.out
          have EQ : Hid (Orl wq (.slice ae e.l.length ce) e.l) := by have h := (OE.out.below DQ.out).l; rw [EV.out] at h; exact h
          go_wp2_with (at_builtin; refine app_ors _ rfl _ _ rfl w1.heap.size _ A rfl OQ.out _ e.l rfl EQ.out (by have := AL.out; have := E60.out; omega) BQ.out.size ?_)
          intro v5 w5 o5 g5 a5
          have B5 : Hid (Below w1.heap.size w1 w5) := BQ.out.grown g5 BQ.out.size (fun k hk => (OQ.out.block k hk).1)
          have O5 : Hid (Oro w5 w1.heap.size v5 ((L.lsN q).flatten ++ pick (es.take (i + 1)) q L.now)) := by unfold Hid; rw [NK.out]; exact o5
          clear o5 g5 a5 d7 d2
          go_wp2
          go_round
          case rel => exact ⟨i + 1, by omega, by go_num, O5.out, B5.out⟩
          case measure => simp [intOf]; omega
    have hqi : ¬ (q : Int) < (P : Nat) := by omega
    obtain ⟨T, hT⟩ : ∃ T, L.ls.flatten = T := ⟨_, rfl⟩
    have HT : Hid (L.ls.flatten = T) := hT
    have O4 : Hid (Oro wr w1.heap.size u5 T) := by
      have h := O.out
      unfold LoV.ls at hT
      rw [hqP, ← hP, hT] at h
      exact h
    obtain ⟨a5, c5, rfl⟩ := O4.out.len
    clear hT O
    go_wp2_with fail
    refine (ref_orders _ T wr O4.out.l).mono ?_
    rintro e w6 ⟨rfl, b6⟩
    have B6 : Hid (Below w1.heap.size w1 w6) := B.out.trans (b6.mono B.out.size)
    have H6 : Hid (RLk w6 y base P L va es) := H2.out.below b6
    have O6 : Hid (Oro w6 w1.heap.size (.slice a5 T.length c5) T) := O4.out.below b6
    clear b6 c0 c2 c7
    obtain ⟨fo, hfo⟩ : ∃ f, Od.faults T = f := ⟨_, rfl⟩
    have FO : Hid (Od.faults L.ls.flatten = fo) := by unfold Hid; rw [HT.out]; exact hfo
    have FT : Hid (fo = 0 → T.length ≤ 60) := fun h => (Od.faults_ok (hfo.trans h)).1
    rw [hfo]
    clear hfo
    by_cases f0 : fo = 0
    case neg =>
      have FN : Hid (fo ≠ 0) := f0
      have f0b : (fo == 0) = false := beq_eq_false_iff_ne.2 f0
      go_wp2
      go_ret2
      exact ⟨_, _, rfl, RFr.of (B1.out.trans (B6.out.mono B1.out.size)), .inr (.inl ⟨HE.out, by rw [FO.out]; exact FN.out, by rw [FO.out], rfl, H6.out⟩)⟩
    subst f0
    have T60 : Hid (T.length ≤ 60) := FT.out rfl
    obtain ⟨c0, -, c2, c7, -⟩ := H6.out.cells
    obtain ⟨n1, n2, n3⟩ := H6.out.nows
    have NW : IntKind.i64.wrap (L.now + 1) = L.now + 1 := by rw [IntKind.wrap_i64]; omega
    have N7 : Hid (RLk (w6.setCell ⟨y, 2, none⟩ (.int .i64 (L.now + 1))) y base P L.took va es ∧ Kp y w6 (w6.setCell ⟨y, 2, none⟩ (.int .i64 (L.now + 1)))) := ⟨n1, n2⟩
    have O7 : Hid (Oro (w6.setCell ⟨y, 2, none⟩ (.int .i64 (L.now + 1))) w1.heap.size (.slice a5 T.length c5) T) := own_high O6.out (fun k hk hb => n2.block k hk (by have := H1.out.lt; omega))
    clear n1 n2 c0 c7
    go_upto_region 17 with fail
    clear c2 n3
    generalize (w6.setCell ⟨y, 2, none⟩ (.int .i64 (L.now + 1))) = w7 at *
    go_wp2_with fail
    refine (ref_last _ T w7 O7.out.l T60.out).mono ?_
    rintro e w8 ⟨u8, out, rfl, hls, hoo, b8⟩
    have FIN : Hid (RFr y va w w8 ∧ (∃ out, LastSays L.ls.flatten out ∧ Oro w8 w.heap.size u8 out) ∧ RLk w8 y base P L.took va es) := by
      have s1 := B1.out.size
      have s6 := B6.out.size
      have s7 := N7.out.2.size
      refine ⟨⟨b8.os.trans (N7.out.2.os.trans (B6.out.os.trans B1.out.os)), b8.tape.trans (N7.out.2.tape.trans (B6.out.tape.trans B1.out.tape)), b8.output.trans (N7.out.2.output.trans (B6.out.output.trans B1.out.output)), by have := b8.size; omega, fun k hk h1 h2 => ?_⟩, ⟨out, by rw [HT.out]; exact hls, hoo.mono (by omega)⟩, N7.out.1.below b8⟩
      exact (b8.block k (by omega)).trans ((N7.out.2.block k (by omega) h1).trans ((B6.out.block k (by omega)).trans (B1.out.block k hk)))
    clear hls hoo b8
    go_wp2
    go_ret2
    exact ⟨_, _, rfl, FIN.out.1, .inr (.inr ⟨HE.out, FO.out, rfl, FIN.out.2.1, FIN.out.2.2⟩)⟩
end Go.Proofs.YtbomnicnoanjlaaDoor

namespace Go.Proofs.YtbomnicnoanjlaaDoor
open Go.ChangeShapes Go.WideShapes Go.ChangeAt Go.RowKit
set_option linter.unusedVariables false

/-- v is a list of lists of integers. -/
def Ill (w : World) (v : Value) (ls : List (List Int)) : Prop := ∃ a c, v = .slice a ls.length c ∧ ls.length ≤ c ∧ c ≤ 9223372036854775807 ∧ (ls ≠ [] → ∃ x, a = some x ∧ x.block < w.heap.size ∧ ∀ (i : Nat) l, ls[i]? = some l → ∃ u, w.cell? (x.add i) = some u ∧ Ro w u l ∧ ∀ z ∈ l, (Lit.int .i64 z).wf = true)
theorem Ill.below {w w' : World} {v : Value} {ls : List (List Int)} (h : Ill w v ls) (hb : Below w.heap.size w w') : Ill w' v ls := by
  obtain ⟨a, c, h1, h2, h3, h4⟩ := h
  refine ⟨a, c, h1, h2, h3, fun hn => ?_⟩
  obtain ⟨x, e, hx, hy⟩ := h4 hn
  refine ⟨x, e, Nat.lt_of_lt_of_le hx hb.size, fun i l hl => ?_⟩
  obtain ⟨u, c1, c2, c3⟩ := hy i l hl
  exact ⟨u, by rw [hb.cell (by rw [add_block]; exact hx)]; exact c1, c2.below hb, c3⟩
set_option maxRecDepth 100000 in
theorem open_row {H : Type} {enc : TypeId × Value → H} {W : World} {base : Nat} {held : Bool} {fuel : Nat} {v : Value} {y : DataW H × List MemPlace} (h : DataW.trod enc Tryd.prog W base (fun _ => true) held fuel 36 [v] = some y) :
    ∃ l : List Int, Ro W v l ∧ ∀ z ∈ l, (Lit.int .i64 z).wf = true := by
  rcases open_ints Tryd.underlying36 Tryd.underlying3 (by kernel_rfl) h with ⟨hcs, _⟩ | ⟨x, l, c, zs, hcs, _, hl, hm, hz, _, hcell, hwz⟩
  · simp at hcs
    subst hcs
    exact ⟨_, IsRow.ro (.inl ⟨rfl, rfl, rfl, rfl⟩), by simp⟩
  · simp at hcs
    subst hcs
    exact ⟨_, IsRow.ro (zs := zs) (.inr ⟨_, rfl, hl, hm, by simpa using hz, hcell, hwz⟩), fun z hz => hwz z (List.mem_of_mem_take hz)⟩
set_option maxRecDepth 100000 in
theorem open_ills {H : Type} {enc : TypeId × Value → H} {W : World} {base : Nat} {held : Bool} {fuel : Nat} {v : Value} {y : DataW H × List MemPlace} (h : DataW.trod enc Tryd.prog W base (fun _ => true) held fuel 22 [v] = some y) :
    ∃ ls : List (List Int), Ill W v ls := by
  have csk : Tryd.prog.cellsOf 36 = 1 := by kernel_rfl
  rcases Go.Deep.open_slice Tryd.underlying22 h with ⟨hcs, -⟩ | ⟨a, len, cap, m, q, D, Pl, hcs, hb, hl, hm, hmm, -, hx⟩
  · simp at hcs
    subst hcs
    exact ⟨[], ⟨none, 0, rfl, Nat.le_refl _, by omega, fun h => absurd rfl h⟩⟩
  · simp at hcs
    subst hcs
    have hlm : len ≤ m := by rw [hmm]; simp; exact hl
    have each : ∀ i, i < len → ∃ l : List Int, ∃ u, W.cell? (a.add i) = some u ∧ Ro W u l ∧ ∀ z ∈ l, (Lit.int .i64 z).wf = true := by
      intro i hi
      obtain ⟨cs', h1, h2⟩ := hx i (by omega)
      rw [csk] at h1
      rw [Nat.mul_one] at h1
      obtain ⟨-, hlen, hcell⟩ := World.cells?_some h1
      match cs', hlen with
      | [u], _ =>
        obtain ⟨l, hl', hw⟩ := open_row h2
        exact ⟨l, u, hcell 0 (by decide), hl', hw⟩
    obtain ⟨q, hq⟩ := Go.Deep.choose_lt each
    refine ⟨(List.range len).map q, ⟨some a, cap, by simp, by simpa using hl, by unfold maxLen at hm; omega, fun hn => ⟨a, rfl, ?_, fun i k hk => ?_⟩⟩⟩
    · have h0 : 0 < len := by
        rcases Nat.eq_zero_or_pos len with h | h
        · subst h; simp at hn
        · exact h
      obtain ⟨u, h1, -⟩ := hq 0 h0
      have := cell_lt h1
      rwa [add_block] at this
    · have hi : i < len := by
        have := (List.getElem?_eq_some_iff.1 hk).1
        simpa using this
      rw [List.getElem?_map, List.getElem?_range hi] at hk
      injection hk with hk
      subst hk
      exact hq i hi
set_option maxRecDepth 100000 in
theorem ills_in {H : Type} {enc : TypeId × Value → H} {W : World} {base b0 : Nat} {held : Bool} {v : Value} {d : DataW H} {p : List MemPlace} (hv : Value.okWide Tryd.prog W .any b0 22 v) (h : DataW.Trod enc Tryd.prog W base (fun _ => true) held 22 v d p) : ∃ ls : List (List Int), Ill W v ls := by
  obtain ⟨a, len, cap, rfl⟩ := okWide_slice Tryd.underlying22 hv
  obtain ⟨fuel, hf⟩ := h
  exact open_ills hf
end Go.Proofs.YtbomnicnoanjlaaDoor

namespace Go.Proofs.YtbomnicnoanjlaaDoor
open Go.ChangeShapes Go.WideShapes Go.ChangeAt Go.RowKit
set_option linter.unusedVariables false

theorem or_fields : ∃ f0 f1 f2 f3 : Field, Tryd.prog.underlying 38 = some (.struct #[f0, f1, f2, f3]) ∧
    f0.offset = 0 ∧ f0.type = 3 ∧ f1.offset = 1 ∧ f1.type = 3 ∧ f2.offset = 2 ∧ f2.type = 3 ∧ f3.offset = 3 ∧ f3.type = 3 := ⟨_, _, _, _, Tryd.underlying38, rfl, rfl, rfl, rfl, rfl, rfl, rfl, rfl⟩

set_option maxRecDepth 100000 in
theorem open_or {H : Type} {enc : TypeId × Value → H} {W : World} {base : Nat} {held : Bool} {fuel : Nat} {cs : List Value} {y : DataW H × List MemPlace} (h : DataW.trod enc Tryd.prog W base (fun _ => true) held fuel 38 cs = some y) :
    ∃ k : OrV, cs = [.int .i64 k.player, .int .i64 k.unit, .int .i64 k.what, .int .i64 k.arg] ∧ True := by
  obtain ⟨f0, f1, f2, f3, he, o0, t0, o1, t1, o2, t2, o3, t3⟩ := or_fields
  obtain ⟨xs, m, -, -, hlen, hxl, hf⟩ := DataW.trod_struct he h
  have csi : Tryd.prog.cellsOf 3 = 1 := by kernel_rfl
  have csk : Tryd.prog.cellsOf 38 = 4 := by kernel_rfl
  rw [csk] at hlen
  match cs, hlen with
  | [v0, v1, v2, v3], _ =>
    have hx : xs.length = 4 := hxl
    match xs, hx with
    | [x0, x1, x2, x3], _ =>
      have g0 := hf 0 f0 rfl
      rw [o0, t0, csi] at g0
      have g1 := hf 1 f1 rfl
      rw [o1, t1, csi] at g1
      have g2 := hf 2 f2 rfl
      rw [o2, t2, csi] at g2
      have g3 := hf 3 f3 rfl
      rw [o3, t3, csi] at g3
      obtain ⟨m0, e0, -, -⟩ := DataW.trod_int Tryd.underlying3 g0
      obtain ⟨m1, e1, -, -⟩ := DataW.trod_int Tryd.underlying3 g1
      obtain ⟨m2, e2, -, -⟩ := DataW.trod_int Tryd.underlying3 g2
      obtain ⟨m3, e3, -, -⟩ := DataW.trod_int Tryd.underlying3 g3
      simp at e0 e1 e2 e3
      subst e0 e1 e2 e3
      exact ⟨⟨m0, m1, m2, m3⟩, rfl, trivial⟩

theorem open_ors {H : Type} {enc : TypeId × Value → H} {W : World} {base : Nat} {held : Bool} {fuel : Nat} {v : Value} {y : DataW H × List MemPlace} (h : DataW.trod enc Tryd.prog W base (fun _ => true) held fuel 23 [v] = some y) :
    ∃ ks : List OrV, Orl W v ks ∧ ∀ k ∈ ks, True := by
  have csk : Tryd.prog.cellsOf 38 = 4 := by kernel_rfl
  rcases Go.Deep.open_slice Tryd.underlying23 h with ⟨hcs, -⟩ | ⟨a, len, cap, m, q, D, Pl, hcs, hb, hl, hm, hmm, -, hx⟩
  · simp at hcs
    subst hcs
    exact ⟨[], ⟨none, 0, rfl, Nat.le_refl _, by omega, fun h => absurd rfl h⟩, by simp⟩
  · simp at hcs
    subst hcs
    have hlm : len ≤ m := by rw [hmm]; simp; exact hl
    have each : ∀ i, i < len → ∃ k : OrV, Orc W (a.add (i * 4)) k ∧ (True) := by
      intro i hi
      obtain ⟨cs', h1, h2⟩ := hx i (by omega)
      obtain ⟨k, rfl, hk⟩ := open_or h2
      rw [csk] at h1
      obtain ⟨-, -, hcell⟩ := World.cells?_some h1
      refine ⟨k, ?_, hk⟩
      generalize a.add (i * 4) = y at *
      exact ⟨hcell 0 (by decide), hcell 1 (by decide), hcell 2 (by decide), hcell 3 (by decide)⟩
    have inh : Inhabited OrV := ⟨⟨0, 0, 0, 0⟩⟩
    obtain ⟨q, hq⟩ := Go.Deep.choose_lt each
    refine ⟨(List.range len).map q, ⟨some a, cap, by simp, by simpa using hl, by unfold maxLen at hm; omega, fun hn => ⟨a, rfl, ?_, fun i k hk => ?_⟩⟩, ?_⟩
    · have h0 : 0 < len := by
        rcases Nat.eq_zero_or_pos len with h | h
        · subst h; simp at hn
        · exact h
      have := (hq 0 h0).1.lt
      rwa [add_block] at this
    · have hi : i < len := by
        have := (List.getElem?_eq_some_iff.1 hk).1
        simpa using this
      rw [List.getElem?_map, List.getElem?_range hi] at hk
      injection hk with hk
      subst hk
      exact (hq i hi).1
    · intro k hk
      obtain ⟨i, hi, rfl⟩ := List.mem_map.1 hk
      exact (hq i (List.mem_range.1 hi)).2
set_option maxRecDepth 100000 in
theorem ors_in {H : Type} {enc : TypeId × Value → H} {W : World} {base b0 : Nat} {held : Bool} {v : Value} {d : DataW H} {p : List MemPlace} (hv : Value.okWide Tryd.prog W .any b0 23 v) (h : DataW.Trod enc Tryd.prog W base (fun _ => true) held 23 v d p) :
    ∃ ks : List OrV, Orl W v ks ∧ ∀ k ∈ ks, True := by
  obtain ⟨a, len, cap, rfl⟩ := okWide_slice Tryd.underlying23 hv
  obtain ⟨fuel, hf⟩ := h
  exact open_ors hf
end Go.Proofs.YtbomnicnoanjlaaDoor

namespace Go.Proofs.YtbomnicnoanjlaaDoor
open Go.ChangeShapes Go.WideShapes Go.ChangeAt Go.RowKit
set_option linter.unusedVariables false

set_option maxRecDepth 100000 in
theorem open_olls {H : Type} {enc : TypeId × Value → H} {W : World} {base : Nat} {held : Bool} {fuel : Nat} {v : Value} {y : DataW H × List MemPlace} (h : DataW.trod enc Tryd.prog W base (fun _ => true) held fuel 72 [v] = some y) :
    ∃ ls : List (List OrV), Oll W v ls := by
  have csk : Tryd.prog.cellsOf 23 = 1 := by kernel_rfl
  rcases Go.Deep.open_slice Tryd.underlying72 h with ⟨hcs, -⟩ | ⟨a, len, cap, m, q, D, Pl, hcs, hb, hl, hm, hmm, -, hx⟩
  · simp at hcs
    subst hcs
    exact ⟨[], ⟨none, 0, rfl, Nat.le_refl _, by omega, fun h => absurd rfl h⟩⟩
  · simp at hcs
    subst hcs
    have hlm : len ≤ m := by rw [hmm]; simp; exact hl
    have each : ∀ i, i < len → ∃ l : List OrV, ∃ u, W.cell? (a.add i) = some u ∧ Orl W u l := by
      intro i hi
      obtain ⟨cs', h1, h2⟩ := hx i (by omega)
      rw [csk] at h1
      rw [Nat.mul_one] at h1
      obtain ⟨-, hlen, hcell⟩ := World.cells?_some h1
      match cs', hlen with
      | [u], _ =>
        obtain ⟨l, hl', -⟩ := open_ors h2
        exact ⟨l, u, hcell 0 (by decide), hl'⟩
    have inh : Inhabited (List OrV) := ⟨[]⟩
    obtain ⟨q, hq⟩ := Go.Deep.choose_lt each
    refine ⟨(List.range len).map q, ⟨some a, cap, by simp, by simpa using hl, by unfold maxLen at hm; omega, fun hn => ⟨a, rfl, ?_, fun i k hk => ?_⟩⟩⟩
    · have h0 : 0 < len := by
        rcases Nat.eq_zero_or_pos len with h | h
        · subst h; simp at hn
        · exact h
      obtain ⟨u, h1, -⟩ := hq 0 h0
      have := cell_lt h1
      rwa [add_block] at this
    · have hi : i < len := by
        have := (List.getElem?_eq_some_iff.1 hk).1
        simpa using this
      rw [List.getElem?_map, List.getElem?_range hi] at hk
      injection hk with hk
      subst hk
      exact hq i hi
set_option maxRecDepth 100000 in
theorem olls_in {H : Type} {enc : TypeId × Value → H} {W : World} {base b0 : Nat} {held : Bool} {v : Value} {d : DataW H} {p : List MemPlace} (hv : Value.okWide Tryd.prog W .any b0 72 v) (h : DataW.Trod enc Tryd.prog W base (fun _ => true) held 72 v d p) : ∃ ls : List (List OrV), Oll W v ls := by
  obtain ⟨a, len, cap, rfl⟩ := okWide_slice Tryd.underlying72 hv
  obtain ⟨fuel, hf⟩ := h
  exact open_olls hf
/-- the first of them; those behind. -/
theorem Oll.take {w : World} {a : Option Addr} {n c : Nat} {ls : List (List OrV)} (h : Oll w (.slice a n c) ls) {k : Nat} (hk : k ≤ ls.length) : Oll w (.slice a k c) (ls.take k) := by
  obtain ⟨a', c', e, h2, h3, h4⟩ := h
  injection e with e1 e2 e3
  subst e1 e3
  have hl : (ls.take k).length = k := by rw [List.length_take]; omega
  refine ⟨a, c, by rw [hl], by omega, h3, fun hn => ?_⟩
  obtain ⟨x, ex, hx, hy⟩ := h4 (by rintro rfl; simp at hn)
  refine ⟨x, ex, hx, fun i l hi => hy i l ?_⟩
  rw [List.getElem?_take] at hi
  split at hi
  · exact hi
  · cases hi
theorem Oll.sl {w : World} {a : Option Addr} {c n L : Nat} {ls : List (List OrV)} (h : Oll w (.slice a L c) ls) (hn : n ≤ ls.length) : Oll w (sliced a n L c 1) (ls.drop n) := by
  obtain ⟨a', c', e, h1, h2, h3⟩ := h
  injection e with e1 e2 e3
  subst e1 e3 e2
  unfold sliced
  refine ⟨_, _, by rw [List.length_drop], by rw [List.length_drop]; omega, by omega, fun hne => ?_⟩
  have hnl : n < ls.length := by
    rcases Nat.lt_or_ge n ls.length with h | h
    · exact h
    · exact absurd (List.drop_eq_nil_of_le h) hne
  obtain ⟨x, rfl, hx1, hx2⟩ := h3 (by rintro rfl; simp at hnl)
  refine ⟨x.add n, ?_, by rw [add_block]; exact hx1, fun i l hk => ?_⟩
  · simp
    intro hc
    omega
  · rw [List.getElem?_drop] at hk
    obtain ⟨u, c1, c2⟩ := hx2 (n + i) l hk
    have e : (x.add n).add i = x.add (n + i) := by
      unfold Addr.add
      split <;> split <;> split <;> simp_all <;> omega
    rw [e]
    exact ⟨u, c1, c2⟩
end Go.Proofs.YtbomnicnoanjlaaDoor

namespace Go.Proofs.YtbomnicnoanjlaaDoor
open Go.ChangeShapes Go.WideShapes Go.ChangeAt Go.RowKit
set_option linter.unusedVariables false

theorem by_or : Tryd.prog.bytesOf 38 = 32 := by kernel_rfl
set_option maxRecDepth 100000 in
theorem ors_size {H : Type} {enc : TypeId × Value → H} {W : World} {base : Nat} {held : Bool} {fuel : Nat} {v : Value} {y : DataW H × List MemPlace} (h : DataW.trod enc Tryd.prog W base (fun _ => true) held fuel 23 [v] = some y)
    (hz : ∀ n ∈ y.1.weights Tryd.prog 23, n ≤ reachBytes) (ks : List OrV) (hk : Orl W v ks) : ks.length * 32 ≤ reachBytes := by
  obtain ⟨a', c', hv, -, -, -⟩ := hk
  rcases Go.Deep.open_slice Tryd.underlying23 h with ⟨hcs, -⟩ | ⟨a, len, cap, m, q, D, Pl, hcs, hb, hl, hm, hmm, rfl, hx⟩
  · simp at hcs
    rw [hv] at hcs
    injection hcs with _ e
    rw [e]
    exact Nat.zero_le _
  · simp at hcs
    rw [hv] at hcs
    injection hcs with _ e
    have hlm : len ≤ m := by rw [hmm]; simp; exact hl
    have h1 := hz ((len + (m - len)) * 32) (by simp [DataW.weights, Tryd.underlying23, by_or])
    rw [e]
    omega
theorem mem_all {H : Type} {P : Program} {e : TypeId} : ∀ {ds : List (DataW H)} {d : DataW H}, d ∈ ds → ∀ n ∈ d.weights P e, n ∈ DataW.weightsAll P e ds
  | x :: r, d, h, n, hn => by
    simp only [DataW.weightsAll, List.mem_append]
    rcases List.mem_cons.1 h with rfl | h
    · exact .inl hn
    · exact .inr (mem_all h n hn)
set_option maxRecDepth 100000 in
theorem olls_size {H : Type} {enc : TypeId × Value → H} {W : World} {base : Nat} {held : Bool} {v : Value} {d : DataW H} {p : List MemPlace} (h : DataW.Trod enc Tryd.prog W base (fun _ => true) held 72 v d p)
    (hz : ∀ n ∈ d.weights Tryd.prog 72, n ≤ reachBytes) {ls : List (List OrV)} (hk : Oll W v ls) : ∀ l ∈ ls, l.length * 32 ≤ reachBytes := by
  intro l hl
  obtain ⟨i, hi⟩ := List.mem_iff_getElem?.1 hl
  have csk : Tryd.prog.cellsOf 23 = 1 := by kernel_rfl
  obtain ⟨a', c', hv, -, -, h3⟩ := hk
  obtain ⟨x, ha, -, hc⟩ := h3 (by rintro rfl; simp at hi)
  obtain ⟨u, hu, ho⟩ := hc i l hi
  have hil : i < ls.length := (List.getElem?_eq_some_iff.1 hi).1
  subst hv
  obtain ⟨fuel, h⟩ := h
  rcases Go.Deep.open_slice Tryd.underlying72 h with ⟨hcs, -⟩ | ⟨a, len, cap, m, q, D, Pl, hcs, hb, hl', hm, hmm, he, hx⟩
  · have hcs : [Value.slice a' ls.length c'] = [Value.slice none 0 0] := hcs
    injection hcs with hcs
    injection hcs with _ e
    omega
  · have hcs : [Value.slice a' ls.length c'] = [Value.slice (some a) len cap] := hcs
    injection hcs with hcs
    injection hcs with e1 e2
    rw [ha] at e1
    injection e1 with e1
    subst e1
    have hlm : len ≤ m := by rw [hmm]; simp; exact hl'
    obtain ⟨cs', g1, g2⟩ := hx i (by omega)
    rw [csk, Nat.mul_one] at g1
    obtain ⟨-, hlen, hcell⟩ := World.cells?_some g1
    match cs', hlen with
    | [u'], _ =>
      have hu' : W.cell? (x.add i) = some u' := hcell 0 (by decide)
      rw [hu] at hu'
      injection hu' with hu'
      subst hu'
      refine ors_size g2 (fun n hn => hz n ?_) l ho
      have e3 : d = .slice ((List.range len).map D) ((List.range (m - len)).map fun j => D (len + j)) := congrArg Prod.fst he
      rw [e3]
      simp only [DataW.weights, Tryd.underlying72, List.mem_cons, List.mem_append]
      exact .inr (.inl (mem_all (List.mem_map.2 ⟨i, List.mem_range.2 (by omega), rfl⟩) n hn))
/-- one more, behind a long one. -/
theorem app_orx {ops : Array Oper} {rest : List Oper} {o : Oper} {a : Act} {Q : Exit → Act → World → Prop} (w : World) (hgd : o.guard = none) (s x : Operand)
    (ho : o.op = .call { callee := .builtin .append, args := #[s, x], argTypes := #[23, 23] }) (base : Nat) (v : Value) (ks : List OrV) (hs : a.eval s = v) (hown : Oro w base v ks)
    (b : Nat) (d : OrV) (hx : a.eval x = .slice (some ⟨b, 0, none⟩) 1 1) (hd : Orc w ⟨b, 0, none⟩ d) (hl : (ks.length + 1) * 32 ≤ 140737488355328) (hbase : base ≤ w.heap.size)
    (h : ∀ g cap w', Oro w' base (.slice (some ⟨g, 0, none⟩) (ks.length + 1) cap) (ks ++ [d]) → w.grownBy w' v.ownBlock → (v.ownBlock = some g ∨ g = w.heap.size) → g < w'.heap.size → wpList Tryd.prog ops Q rest (a.put o.dst (.slice (some ⟨g, 0, none⟩) (ks.length + 1) cap)) w') :
    wpList Tryd.prog ops Q (o :: rest) a w := by
  obtain ⟨i0, hi, hz0, hz1, hz2⟩ := info_parts info_or
  refine wpList_append_lies w hgd s x 23 ho base 38 i0 (.agg #[.int .i64 0, .int .i64 0, .int .i64 0, .int .i64 0]) 4 32 Tryd.underlying23 hi hz0 hz1 hz2 rfl (by decide) v ks.length _ hs hown ⟨b, 0, none⟩ 1 1 d.cs hx rfl ?_ ?_ (by decide) (by unfold maxLen; omega) hl hbase _ rfl ?_
  · intro j u hj
    have hjn : j < 4 := (List.getElem?_eq_some_iff.1 hj).1
    rw [Addr.add_lit, Nat.zero_add]
    match j, hjn, hj with
    | 0, _, hj => simp [OrV.cs] at hj; subst hj; exact hd.c0
    | 1, _, hj => simp [OrV.cs] at hj; subst hj; exact hd.c1
    | 2, _, hj => simp [OrV.cs] at hj; subst hj; exact hd.c2
    | 3, _, hj => simp [OrV.cs] at hj; subst hj; exact hd.c3
  · intro u hu
    simp [OrV.cs] at hu
    rcases hu with rfl | rfl | rfl | rfl <;> rfl
  · intro g cap w' h1 h2 h3 h4
    refine h g cap w' ?_ h2 h3 h4
    unfold Oro
    rw [List.length_append, List.flatMap_append]
    simpa using h1
end Go.Proofs.YtbomnicnoanjlaaDoor

namespace Go.Proofs.YtbomnicnoanjlaaDoor
open Go.RowKit
set_option linter.unusedVariables false

set_option maxRecDepth 100000 in
set_option maxHeartbeats 4000000 in
theorem orders_like (u v : Value) (ks : List OrV) (w : World) (hu : Orl w u ks) (hv : Orl w v ks) :
    Calls Tryd.prog 11 #[u, v] w fun e w' => e = .returned (.bool true) ∧ Below w.heap.size w w' := by
  obtain ⟨a, c, rfl, hc1, hc2, ha⟩ := hu
  obtain ⟨b, d, rfl, hd1, hd2, hb⟩ := hv
  have Ha : Hid (ks ≠ [] → ∃ x, a = some x ∧ x.block < w.heap.size ∧ ∀ (i : Nat) k, ks[i]? = some k → Orc w (x.add (i * 4)) k) := ha
  have Hb : Hid (ks ≠ [] → ∃ x, b = some x ∧ x.block < w.heap.size ∧ ∀ (i : Nat) k, ks[i]? = some k → Orc w (x.add (i * 4)) k) := hb
  clear ha hb
  go_enter Tryd.func11, Tryd.ntmps11
  go_wp2
  go_loopw [5] (fun i W' => ∃ k : Nat, k ≤ ks.length ∧ i = .int .i64 (k : Nat) ∧ ∃ n, W' = w.drewN n) (fun i _ => ks.length - (intOf i).toNat)
  case atStart => exact ⟨0, Nat.zero_le _, rfl, 0, rfl⟩
  case round =>
    obtain ⟨k, hk, rfl, n, rfl⟩ := hrel
    by_cases h0 : k = ks.length
    · subst h0
      have B : Hid (Below w.heap.size w (w.drewN n)) := ⟨rfl, rfl, rfl, Nat.le_refl _, fun _ _ => rfl⟩
      go_wp2
      go_ret
      exact ⟨rfl, B⟩
    · have hlt : k < ks.length := by omega
      have hlti : ((k : Nat) : Int) < (ks.length : Nat) := by omega
      obtain ⟨o, ho⟩ : ∃ o, ks[k]? = some o := ⟨_, List.getElem?_eq_getElem hlt⟩
      have hne : ks ≠ [] := by rintro rfl; simp at hlt
      obtain ⟨x, rfl, hx, hxc⟩ := Ha.out hne
      obtain ⟨y, rfl, hy, hyc⟩ := Hb.out hne
      have cx := hxc k o ho
      have cy := hyc k o ho
      obtain ⟨q0, q1, q2, q3⟩ := cx
      obtain ⟨r0, r1, r2, r3⟩ := cy
      clear hxc hyc hne ho
      go_wp2
      go_quiet (fail)
      go_wp2
      go_round
      case rel => exact ⟨k + 1, by omega, by go_num, n + nq, rfl⟩
      case measure => simp [intOf]; omega
end Go.Proofs.YtbomnicnoanjlaaDoor

namespace Go.Proofs.YtbomnicnoanjlaaDoor
open Go.RowKit Go.Extern.Stop Go.Stop Go.Extern

/-- the cell of errors.errorType. -/
def Et (w : World) : Prop := w.cell? ⟨0, 0, none⟩ = some (.iface 102 (.agg #[.pointer (some ⟨1, 26, none⟩)]))

theorem Et.lt {w : World} (h : Et w) : 0 < w.heap.size := by
  rcases Nat.lt_or_ge 0 w.heap.size with h1 | h1
  · exact h1
  · unfold Et at h
    simp [World.cell?, Array.getElem?_eq_none h1] at h
theorem Et.below {w w' : World} (h : Et w) (hb : Below w.heap.size w w') : Et w' := by
  unfold Et
  rw [hb.cell (p := ⟨0, 0, none⟩) h.lt]
  exact h
theorem Et.alloc {w : World} (h : Et w) (o : Obj) : Et (w.alloc o) := h.below ((Below.refl _ _).alloc (Nat.le_refl _) _)
theorem Et.drew {w : World} (h : Et w) : Et w.drew := h.below (Below.refl _ _).drew

theorem tk_valueOfP (t : Addr) (w : World) : (ReflectliteValue.unpack (.iface 75 (.pointer (some t)))).run Tryd.prog w
    = .ok (.agg #[.pointer (some ⟨1, 75, none⟩), .pointer (some ⟨w.heap.size, 0, none⟩), .int .u64 150]) (w.alloc (.cells #[.pointer (some t)] 75)) := by kernel_rfl
theorem tk_typeP (a : Addr) (w : World) : (ReflectliteValue.methodAny (ReflectliteValue.valueError "reflectlite.Value.Type" 0) (fun t _ _ _ => ReflectliteType.toType t) #[.agg #[.pointer (some ⟨1, 75, none⟩), .pointer (some a), .int .u64 150]]).run Tryd.prog w
    = .ok (.iface 102 (.agg #[.pointer (some ⟨1, 75, none⟩)])) w := by kernel_rfl
theorem tk_methodKind (h : Value) (w : World) : (Go.method 250 102 (.agg #[h]) "Kind").run Tryd.prog w = .ok (71, h) w := by kernel_rfl
theorem tk_kindP (w : World) : ((ReflectliteType.abiMethod fun t => (fun a : Nat => Value.int IntKind.u8 (a : Int)) <$> Rtype.kind t) #[.pointer (some ⟨1, 75, none⟩)]).run Tryd.prog w = .ok (.int .u8 22) w := by kernel_rfl
theorem tk_kindE (w : World) : ((ReflectliteType.abiMethod fun t => (fun a : Nat => Value.int IntKind.u8 (a : Int)) <$> Rtype.kind t) #[.pointer (some ⟨1, 52, none⟩)]).run Tryd.prog w = .ok (.int .u8 2) w := by kernel_rfl
theorem tk_open (z : Sem Value) (f : TypeId → Addr → Nat → Nat → Sem Value) (v : Value) :
    ReflectliteValue.method z f #[v] = (ReflectliteValue.parts v >>= fun o => o.elim z fun q => f q.1 q.2.1 q.2.2 (q.2.2 % 32)) := by
  refine (show ReflectliteValue.method z f #[v] = (ReflectliteValue.parts v >>= _) from rfl).trans ?_
  refine congrArg (ReflectliteValue.parts v >>= ·) (funext fun o => ?_)
  cases o <;> rfl
theorem tk_partsP (a : Addr) (w : World) : (ReflectliteValue.parts (.agg #[.pointer (some ⟨1, 75, none⟩), .pointer (some a), .int .u64 150])).run Tryd.prog w = .ok (some (75, a, 150)) w := by kernel_rfl
theorem tk_isNilP (a p : Addr) (W : World) (ha : W.cell? a = some (.pointer (some p))) :
    (ReflectliteValue.method (ReflectliteValue.valueError "reflectlite.Value.IsNil" 0) ReflectliteValue.isNil #[.agg #[.pointer (some ⟨1, 75, none⟩), .pointer (some a), .int .u64 150]]).run Tryd.prog W = .ok (.bool false) W := by
  rw [tk_open]
  simp only [Sem.run_bind, tk_partsP, Result.andThen]
  simp [ReflectliteValue.isNil, loadVar, isAgg, underlying, Tryd.underlying75, ha, Result.andThen]
theorem tk_methodElem (h : Value) (w : World) : (Go.method 250 102 (.agg #[h]) "Elem").run Tryd.prog w = .ok (81, .agg #[h]) w := by kernel_rfl
theorem tk_methodImplements (h : Value) (w : World) : (Go.method 250 102 (.agg #[h]) "Implements").run Tryd.prog w = .ok (82, .agg #[h]) w := by kernel_rfl
theorem tk_methodAssignableTo (h : Value) (w : World) : (Go.method 250 102 (.agg #[h]) "AssignableTo").run Tryd.prog w = .ok (79, .agg #[h]) w := by kernel_rfl
theorem tk_elemP (w : World) : (ReflectliteType.method ReflectliteType.elem #[.agg #[.pointer (some ⟨1, 75, none⟩)]]).run Tryd.prog w = .ok (.iface 102 (.agg #[.pointer (some ⟨1, 52, none⟩)])) w := by kernel_rfl
theorem tk_implementsE (w : World) : (ReflectliteType.relation "Implements" ReflectliteType.implements_ #[.agg #[.pointer (some ⟨1, 52, none⟩)], .iface 102 (.agg #[.pointer (some ⟨1, 26, none⟩)])]).run Tryd.prog w = .ok (.bool true) w := by kernel_rfl
theorem tk_typeOfE (v : Value) (w : World) : (ReflectliteType.typeOf #[.iface 52 v]).run Tryd.prog w = .ok (.iface 102 (.agg #[.pointer (some ⟨1, 52, none⟩)])) w := by kernel_rfl
theorem tk_assignableE (w : World) : (ReflectliteType.relation "AssignableTo" ReflectliteType.assignableTo #[.agg #[.pointer (some ⟨1, 52, none⟩)], .iface 102 (.agg #[.pointer (some ⟨1, 52, none⟩)])]).run Tryd.prog w = .ok (.bool true) w := by kernel_rfl
theorem tk_valueOfE (n : Int) (w : World) : (ReflectliteValue.unpack (.iface 52 (.int .i64 n))).run Tryd.prog w
    = .ok (.agg #[.pointer (some ⟨1, 52, none⟩), .pointer (some ⟨w.heap.size, 0, none⟩), .int .u64 130]) (w.alloc (.cells #[.int .i64 n] 52)) := by kernel_rfl
theorem tk_elemOfP (w : World) : (Rtype.elem? 75).run Tryd.prog w = .ok (some 52) w := by kernel_rfl
theorem tk_mkE (p : Addr) (w : World) : (ReflectliteValue.mk 52 p ReflectliteValue.flagAddr).run Tryd.prog w = .ok (.agg #[.pointer (some ⟨1, 52, none⟩), .pointer (some p), .int .u64 386]) w := by kernel_rfl
theorem tk_elemV (a p : Addr) (W : World) (ha : W.cell? a = some (.pointer (some p))) :
    (ReflectliteValue.method (ReflectliteValue.valueError "reflectlite.Value.Elem" 0) ReflectliteValue.elem #[.agg #[.pointer (some ⟨1, 75, none⟩), .pointer (some a), .int .u64 150]]).run Tryd.prog W
      = .ok (.agg #[.pointer (some ⟨1, 52, none⟩), .pointer (some p), .int .u64 386]) W := by
  rw [tk_open]
  simp only [Sem.run_bind, tk_partsP, Result.andThen]
  simp [ReflectliteValue.elem, loadVar, isAgg, underlying, Tryd.underlying75, ha, Result.andThen, tk_elemOfP, tk_mkE]
theorem tk_partsEa (a : Addr) (w : World) : (ReflectliteValue.parts (.agg #[.pointer (some ⟨1, 52, none⟩), .pointer (some a), .int .u64 386])).run Tryd.prog w = .ok (some (52, a, 386)) w := by kernel_rfl
theorem tk_partsE (a : Addr) (w : World) : (ReflectliteValue.parts (.agg #[.pointer (some ⟨1, 52, none⟩), .pointer (some a), .int .u64 130])).run Tryd.prog w = .ok (some (52, a, 130)) w := by kernel_rfl
theorem tk_directE (w : World) : (Rtype.directlyAssignable 52 52).run Tryd.prog w = .ok true w := by kernel_rfl
theorem tk_setE (ta b : Addr) (n : Int) (old : Value) (W : World) (hb : W.cell? b = some (.int .i64 n)) (ht : W.cell? ta = some old) (hf : W.frozen? ta = false) :
    (ReflectliteValue.set #[.agg #[.pointer (some ⟨1, 52, none⟩), .pointer (some ta), .int .u64 386], .agg #[.pointer (some ⟨1, 52, none⟩), .pointer (some b), .int .u64 130]]).run Tryd.prog W
      = .ok (.tuple #[]) (W.setCell ta (.int .i64 n)) := by
  rw [show ∀ X Y : Value, ReflectliteValue.set #[X, Y] = (ReflectliteValue.parts X >>= fun p => ReflectliteValue.parts Y >>= fun q => _) from fun _ _ => rfl]
  simp only [Sem.run_bind, tk_partsEa, tk_partsE, Result.andThen]
  simp [ReflectliteValue.flagAddr, loadVar, isAgg, underlying, Tryd.underlying52, hb, Result.andThen, tk_directE, storeVar, Value.cells, storeCells, Addr.add]
  rw [run_store Tryd.prog W ta _ _ (by rfl)]
  simp [ht, hf]

set_option maxHeartbeats 4000000 in
theorem as_hit (n : Int) (t : Addr) (old : Value) (w : World) (hg : w.cell? ⟨0, 0, none⟩ = some (.iface 102 (.agg #[.pointer (some ⟨1, 26, none⟩)]))) (ht0 : w.cell? t = some old) (hf0 : w.frozen? t = false) :
    Calls Tryd.prog 30 #[.iface 52 (.int .i64 n), .iface 75 (.pointer (some t))] w fun ev w' => ev = .returned (.bool true) ∧ w' = ((((w.alloc (.cells #[.pointer (some t)] 75)).alloc (.cells #[.pointer (some ⟨1, 75, none⟩), .pointer (some ⟨w.heap.size, 0, none⟩), .int .u64 150] 85)).alloc (.cells #[.pointer (some ⟨1, 75, none⟩), .pointer (some ⟨w.heap.size, 0, none⟩), .int .u64 150] 85)).alloc (.cells #[.int .i64 n] 52)).setCell t (.int .i64 n) := by
  have h6 := @run_callFunc_extern Tryd.prog 36 _ (fun args => ReflectliteValue.unpack (args.getD 0 (.tuple #[]))) Tryd.func36 (by kernel_rfl) (by kernel_rfl) (by kernel_rfl) (by kernel_rfl)
  have h7 := @run_callFunc_extern Tryd.prog 37 _ (ReflectliteValue.methodAny (ReflectliteValue.valueError "reflectlite.Value.Type" 0) (fun t _ _ _ => ReflectliteType.toType t)) Tryd.func37 (by kernel_rfl) (by kernel_rfl) (by kernel_rfl) (by kernel_rfl)
  have h8 := @run_callFunc_extern Tryd.prog 38 _ (ReflectliteValue.method (ReflectliteValue.valueError "reflectlite.Value.IsNil" 0) ReflectliteValue.isNil) Tryd.func38 (by kernel_rfl) (by kernel_rfl) (by kernel_rfl) (by kernel_rfl)
  have h27 := @run_callFunc_extern Tryd.prog 71 _ (ReflectliteType.abiMethod fun t => do pure (.int .u8 (← Rtype.kind t))) Tryd.func71 (by kernel_rfl) (by kernel_rfl) (by kernel_rfl) (by kernel_rfl)
  have h37 := @run_callFunc_extern Tryd.prog 81 _ (ReflectliteType.method ReflectliteType.elem) Tryd.func81 (by kernel_rfl) (by kernel_rfl) (by kernel_rfl) (by kernel_rfl)
  have h38 := @run_callFunc_extern Tryd.prog 82 _ (ReflectliteType.relation "Implements" ReflectliteType.implements_) Tryd.func82 (by kernel_rfl) (by kernel_rfl) (by kernel_rfl) (by kernel_rfl)
  have h10 := @run_callFunc_extern Tryd.prog 45 _ ReflectliteType.typeOf Tryd.func45 (by kernel_rfl) (by kernel_rfl) (by kernel_rfl) (by kernel_rfl)
  have h35 := @run_callFunc_extern Tryd.prog 79 _ (ReflectliteType.relation "AssignableTo" ReflectliteType.assignableTo) Tryd.func79 (by kernel_rfl) (by kernel_rfl) (by kernel_rfl) (by kernel_rfl)
  have h11 := @run_callFunc_extern Tryd.prog 46 _ (ReflectliteValue.method (ReflectliteValue.valueError "reflectlite.Value.Elem" 0) ReflectliteValue.elem) Tryd.func46 (by kernel_rfl) (by kernel_rfl) (by kernel_rfl) (by kernel_rfl)
  have h12 := @run_callFunc_extern Tryd.prog 47 _ ReflectliteValue.set Tryd.func47 (by kernel_rfl) (by kernel_rfl) (by kernel_rfl) (by kernel_rfl)
  have tO := tk_typeOfE
  have mA := tk_methodAssignableTo
  have a25 := tk_assignableE
  have v25 := tk_valueOfE
  have f6 := tk_valueOfP
  have f7 := tk_typeP
  have mK := tk_methodKind
  have mE := tk_methodElem
  have mI := tk_methodImplements
  have k27 := tk_kindP
  have k25 := tk_kindE
  have e27 := tk_elemP
  have i25 := tk_implementsE
  have n8 := tk_isNilP ⟨w.heap.size, 0, none⟩ t ((w.alloc (.cells #[.pointer (some t)] 75)).alloc (.cells #[.pointer (some ⟨1, 75, none⟩), .pointer (some ⟨w.heap.size, 0, none⟩), .int .u64 150] 85)) (by simp)
  have hlt : 0 < w.heap.size := Et.lt hg
  have hg2 : ((w.alloc (.cells #[.pointer (some t)] 75)).alloc (.cells #[.pointer (some ⟨1, 75, none⟩), .pointer (some ⟨w.heap.size, 0, none⟩), .int .u64 150] 85)).cell? ⟨0, 0, none⟩ = some (.iface 102 (.agg #[.pointer (some ⟨1, 26, none⟩)])) := by
    rw [World.cell?_alloc_lt _ _ ⟨0, 0, none⟩ (by simp; try omega), World.cell?_alloc_lt _ _ ⟨0, 0, none⟩ hlt]; exact hg
  have htl : t.block < w.heap.size := by
    rcases Nat.lt_or_ge t.block w.heap.size with h | h
    · exact h
    · simp [World.cell?, Array.getElem?_eq_none h] at ht0
  have el := tk_elemV ⟨w.heap.size, 0, none⟩ t (((w.alloc (.cells #[.pointer (some t)] 75)).alloc (.cells #[.pointer (some ⟨1, 75, none⟩), .pointer (some ⟨w.heap.size, 0, none⟩), .int .u64 150] 85)).alloc (.cells #[.pointer (some ⟨1, 75, none⟩), .pointer (some ⟨w.heap.size, 0, none⟩), .int .u64 150] 85)) (by rw [World.cell?_alloc_lt _ _ ⟨w.heap.size, 0, none⟩ (by simp; omega)]; simp)
  have st := tk_setE t ⟨w.heap.size + 1 + 1 + 1, 0, none⟩ n old ((((w.alloc (.cells #[.pointer (some t)] 75)).alloc (.cells #[.pointer (some ⟨1, 75, none⟩), .pointer (some ⟨w.heap.size, 0, none⟩), .int .u64 150] 85)).alloc (.cells #[.pointer (some ⟨1, 75, none⟩), .pointer (some ⟨w.heap.size, 0, none⟩), .int .u64 150] 85)).alloc (.cells #[.int .i64 n] 52))
    (by rw [World.cell?_alloc_at _ _ _ _ (by simp)]; rfl)
    (by rw [World.cell?_alloc_lt _ _ t (by simp; omega), World.cell?_alloc_lt _ _ t (by simp; omega), World.cell?_alloc_lt _ _ t (by simp; omega), World.cell?_alloc_lt _ _ t htl]; exact ht0)
    (by rw [World.frozen?_alloc_old _ _ t (by simp; omega), World.frozen?_alloc_old _ _ t (by simp; omega), World.frozen?_alloc_old _ _ t (by simp; omega), World.frozen?_alloc_old _ _ t (Nat.ne_of_lt htl)]; exact hf0)
  go_enter Tryd.func30, Tryd.ntmps30
  go_wp2
  refine wp_loop_rounds 1 ?_
  rw [rounds_succ]
  go_wp2
  go_ret
  exact ⟨rfl, rfl⟩

set_option maxHeartbeats 400000 in
theorem told_nil (w : World) : Calls Tryd.prog 17 #[.nilIface] w fun e w' => e = .returned (.int .i64 0) ∧ w' = w := by
  go_enter Tryd.func17, Tryd.ntmps17
  go_wp2
  go_ret
  exact ⟨rfl, rfl⟩

set_option maxHeartbeats 1000000 in
theorem told_hit (n : Int) (w : World) (hg : Et w) :
    Calls Tryd.prog 17 #[.iface 52 (.int .i64 n)] w fun e w' => e = .returned (.int .i64 n) ∧ Below w.heap.size w w' := by
  have hA : (w.alloc (.cells #[.int .i64 0] 52)).cell? ⟨0, 0, none⟩ = some (.iface 102 (.agg #[.pointer (some ⟨1, 26, none⟩)])) := hg.alloc _
  have hB : (w.alloc (.cells #[.int .i64 0] 52)).cell? ⟨w.heap.size, 0, none⟩ = some (.int .i64 0) := by simp
  have hC : (w.alloc (.cells #[.int .i64 0] 52)).frozen? ⟨w.heap.size, 0, none⟩ = false := by simp
  go_enter Tryd.func17, Tryd.ntmps17
  go_wp2_with (go_at_call 30; refine (as_hit _ _ (.int .i64 0) _ hA hB hC).mono ?_; rintro e w' ⟨rfl, rfl⟩)
  go_ret
  refine ⟨rfl, ?_⟩
  repeat (first | exact Below.refl _ _ | refine Below.alloc ?_ (by simp; try omega) _)

set_option maxHeartbeats 400000 in
theorem same_nil (x : Int) (w : World) : Calls Tryd.prog 5 #[.nilIface, .int .i64 x] w fun e w' => e = .returned (.bool (0 == x)) ∧ w' = w := by
  go_enter Tryd.func5, Tryd.ntmps5
  go_wp2_with (go_at_call 17; refine (told_nil _).mono ?_; rintro e w' ⟨rfl, rfl⟩)
  go_ret
  exact ⟨rfl, rfl⟩

set_option maxHeartbeats 400000 in
theorem same_hit (n x : Int) (w : World) (hg : Et w) : Calls Tryd.prog 5 #[.iface 52 (.int .i64 n), .int .i64 x] w fun e w' => e = .returned (.bool (n == x)) ∧ Below w.heap.size w w' := by
  have Hg : Hid (Et w) := hg
  clear hg
  go_enter Tryd.func5, Tryd.ntmps5
  go_wp2_with fail
  refine (told_hit _ _ Hg).mono ?_
  rintro e w1 ⟨rfl, hb⟩
  have Hb : Hid (Below w.heap.size w w1) := hb
  clear hb
  go_wp2
  go_ret
  exact ⟨rfl, Hb⟩
end Go.Proofs.YtbomnicnoanjlaaDoor

namespace Go.Proofs.YtbomnicnoanjlaaDoor
open Go.RowKit

theorem er_same (u : Value) (n : Int) (w : World) (h : Er u n) (hg : Et w) :
    Calls Tryd.prog 5 #[u, .int .i64 n] w fun e w' => e = .returned (.bool true) ∧ Below w.heap.size w w' := by
  rcases h with ⟨rfl, rfl⟩ | ⟨h0, rfl⟩
  · exact (same_nil 0 w).mono fun e w' ⟨h1, h2⟩ => ⟨h1, by rw [h2]; exact Below.refl _ _⟩
  · exact (same_hit n n w hg).mono fun e w' ⟨h1, h2⟩ => ⟨by rw [h1, beq_self_eq_true], h2⟩
end Go.Proofs.YtbomnicnoanjlaaDoor

namespace Go.Proofs.YtbomnicnoanjlaaDoor
open Go.RowKit

set_option maxHeartbeats 400000 in
theorem ints_any (u v : Value) (xs ys : List Int) (w : World) (hu : Ro w u xs) (hv : Ro w v ys) :
    Calls Tryd.prog 13 #[u, v] w fun e w' => e = .returned (.bool (decide (xs = ys))) ∧ ∃ n, w' = w.drewN n := by
  obtain ⟨a, c, rfl, hc1, hc2, ha⟩ := hu
  obtain ⟨b, d, rfl, hd1, hd2, hb⟩ := hv
  have Ha : Hid (Cells w a xs) := ha
  have Hb : Hid (Cells w b ys) := hb
  clear ha hb
  by_cases hl : xs.length = ys.length
  · have Hl : Hid (xs.length = ys.length) := hl
    rw [← hl] at hd1 ⊢
    clear hl
    go_enter Tryd.func13, Tryd.ntmps13
    go_wp2_with fail
    go_loopw [5] (fun i W => ∃ (k q : Nat), k ≤ xs.length ∧ i = .int .i64 (k : Nat) ∧ xs.take k = ys.take k ∧ W = w.drewN q) (fun i _ => xs.length - (intOf i).toNat)
    case atStart => exact ⟨0, 0, Nat.zero_le _, rfl, by simp, rfl⟩
    case round =>
      obtain ⟨k, q, hk, rfl, ht, rfl⟩ := hrel
      have Ht : Hid (xs.take k = ys.take k) := ht
      clear ht
      by_cases h0 : k = xs.length
      · subst h0
        go_wp2
        go_ret
        refine ⟨?_, q, rfl⟩
        have e := Ht.out
        rw [List.take_of_length_le (Nat.le_refl _), Hl.out, List.take_of_length_le (Nat.le_refl _)] at e
        simp [e]
      · have hkx : k < xs.length := by omega
        have hky : k < ys.length := by rw [← Hl.out]; exact hkx
        obtain ⟨x, rfl, -, hx⟩ := Ha.out (by intro h; rw [h] at hkx; simp at hkx)
        obtain ⟨y, rfl, -, hy⟩ := Hb.out (by intro h; rw [h] at hky; simp at hky)
        have cx := hx k xs[k] (List.getElem?_eq_getElem hkx)
        have cy := hy k ys[k] (List.getElem?_eq_getElem hky)
        have Te : Hid (xs.take (k + 1) = ys.take (k + 1) ↔ xs[k] = ys[k]) := by
          unfold Hid
          rw [List.take_succ_eq_append_getElem hkx, List.take_succ_eq_append_getElem hky, Ht.out]
          exact ⟨fun h => (List.cons.inj (List.append_cancel_left h)).1, fun h => by rw [h]⟩
        generalize xs[k] = p at *
        generalize ys[k] = r at *
        clear hx hy
        by_cases hpr : p = r
        · subst hpr
          go_wp2
          go_quiet (fail)
          go_wp2
          go_round
          case rel => exact ⟨k + 1, q + nq, by omega, by go_num, by first | exact Te.out.2 rfl | exact Te.out.2 trivial, rfl⟩
          case measure => simp [intOf]; omega
        · go_wp2
          go_quiet (fail)
          go_wp2
          go_ret
          refine ⟨?_, q + nq, by rw [World.drewN_drewN]⟩
          have : xs ≠ ys := fun h => hpr (Te.out.1 (by rw [h]))
          simp [this]
  · go_enter Tryd.func13, Tryd.ntmps13
    go_wp2
    go_ret
    refine ⟨?_, 0, rfl⟩
    have : xs ≠ ys := fun h => hl (by rw [h])
    simp [this]
end Go.Proofs.YtbomnicnoanjlaaDoor

