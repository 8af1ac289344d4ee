/- A region that draws its order, walked along a tree of the orders that may come: reads first, then what makes memory in each order. · lock.maySend, Send. · What a walk is told of records api.Order that came in. · What a walk is told of lists of lists of orders that came in; a part of such a list. · How long lists of orders are that came in; one more behind a long one. · LockAlike: what a player sends for a turn. · What orders.Last tells of the orders: those to train are all there, each unit's last word is, and no unit has two. · Orders that count, asked once more, are those that count; so are some of them. · LockAlike as mathematics: what two locks hold. · Are two lists of orders the same? -/
import Derived.Test.YtbomnicnoanjlaaZLockAlike3
import Derived.Lib.SliceRun
import Derived.BigQuiet
import Derived.Test.YtbomnicnoanjlaaZLockAlike1
import Derived.Deep.SlicePairs
import Derived.ChangeArms
import Derived.ProofKit
import Derived.OpenShut
import Derived.Test.YtbomnicnoanjlaaZLockAlike2
import Derived.LoopN
import Derived.Deep.DeepCutAuto
import Derived.Laws.Closers25
import Derived.IntWalk
import Derived.BigRegion
namespace Go.Proofs.Ytbomnicnoanjlaa
open Go Go.RowKit
set_option linter.unusedVariables false

inductive TrT where
  | leaf : TrT
  | read : Nat → TrT → TrT
  | one : Nat → TrT → TrT
  | two : Nat → TrT → Nat → TrT → TrT
  | three : Nat → TrT → Nat → TrT → Nat → TrT → TrT
section
variable {P : Program} {ops : Array Oper} {md : Region.Mode} {C : World → Prop} {Q : Exit → Act → World → Prop}
def wpTr (P : Program) (ops : Array Oper) (C : World → Prop) (K : Act → World → Prop) : TrT → Act → World → Prop
  | .leaf, a, W => K a W
  | .read i t, a, W => ∃ o v, ops[i]? = some o ∧ YieldsS P ops C o v a ∧ wpTr P ops C K t (a.put o.dst v) W
  | .one i t, a, W => ∃ o, ops[i]? = some o ∧ StepS P ops C o (wpTr P ops C K t) a W
  | .two i t j u, a, W => (∃ o, ops[i]? = some o ∧ StepS P ops C o (wpTr P ops C K t) a W) ∧ (∃ o, ops[j]? = some o ∧ StepS P ops C o (wpTr P ops C K u) a W)
  | .three i t j u k v, a, W => (∃ o, ops[i]? = some o ∧ StepS P ops C o (wpTr P ops C K t) a W) ∧ (∃ o, ops[j]? = some o ∧ StepS P ops C o (wpTr P ops C K u) a W) ∧ (∃ o, ops[k]? = some o ∧ StepS P ops C o (wpTr P ops C K v) a W)
def trB (md : Region.Mode) (ops : Array Oper) (H0 : Array Bool) : Nat → TrT → Array Bool → Bool
  | 0, .leaf, listed => decide (listed = H0)
  | n + 1, .read i t, listed => (Region.ready md ops listed).contains i && (Region.free md ops listed i && ((waits md ops H0 i || decide (Region.ready md ops (H0.setIfInBounds i false) = [i])) && trB md ops H0 n t (listed.setIfInBounds i true)))
  | n + 1, .one i t, listed => (Region.ready md ops listed).contains i && ((Region.ready md ops listed).all (fun x => decide (x = i)) && trB md ops H0 n t (listed.setIfInBounds i true))
  | n + 1, .two i t j u, listed => (Region.ready md ops listed).contains i && ((Region.ready md ops listed).contains j && ((Region.ready md ops listed).all (fun x => decide (x = i) || decide (x = j)) && (trB md ops H0 n t (listed.setIfInBounds i true) && trB md ops H0 n u (listed.setIfInBounds j true))))
  | n + 1, .three i t j u k v, listed => (Region.ready md ops listed).contains i && ((Region.ready md ops listed).contains j && ((Region.ready md ops listed).contains k && ((Region.ready md ops listed).all (fun x => decide (x = i) || (decide (x = j) || decide (x = k))) && (trB md ops H0 n t (listed.setIfInBounds i true) && (trB md ops H0 n u (listed.setIfInBounds j true) && trB md ops H0 n v (listed.setIfInBounds k true))))))
  | _, _, _ => false
theorem wpAnyT_of_tr {K : Act → World → Prop} {H0 : Array Bool} (hsel : Region.noSelect ops = true) : ∀ (n : Nat) (t : TrT) (listed : Array Bool) (a : Act) (W : World), Clos md ops listed → trB md ops H0 n t listed = true → C W → wpTr P ops C K t a W → wpAnyT P md ops C (fun l a W => l = H0 ∧ K a W) n listed a W
  | 0, .leaf, listed, a, W, inv, hB, hC, h => by
    simp only [trB, decide_eq_true_eq] at hB
    exact ⟨hB, h⟩
  | n + 1, .read i t, listed, a, W, inv, hB, hC, h => by
    simp only [trB, Bool.and_eq_true, Bool.or_eq_true, decide_eq_true_eq] at hB
    obtain ⟨hr, hf, hH, hB⟩ := hB
    obtain ⟨o, v, ho, hy, hk⟩ := h
    have hr' : i ∈ Region.ready md ops listed := by simpa using hr
    exact wpAnyT_first ho (Region.noSelect_spec hsel) hH (fun _ _ _ h => h.1) n listed a W inv (Region.free_spec ho hf) hr' hy hC (wpAnyT_of_tr hsel n t _ _ _ (inv.set hr') hB hC hk)
  | n + 1, .one i t, listed, a, W, inv, hB, hC, h => by
    simp only [trB, Bool.and_eq_true] at hB
    obtain ⟨hr, hall, hB⟩ := hB
    have hr' : i ∈ Region.ready md ops listed := by simpa using hr
    obtain ⟨o, ho, hs⟩ := h
    refine ⟨fun h => (by rw [h] at hr'; cases hr'), fun x hx => ?_⟩
    have hx' := List.all_eq_true.1 hall x hx
    simp only [decide_eq_true_eq] at hx'
    subst hx'
    exact ⟨o, ho, hs.mono fun a' W' hC' hk => wpAnyT_of_tr hsel n t _ _ _ (inv.set hr') hB hC' hk⟩
  | n + 1, .two i t j u, listed, a, W, inv, hB, hC, h => by
    simp only [trB, Bool.and_eq_true] at hB
    obtain ⟨hi, hj, hall, hB1, hB2⟩ := hB
    have hi' : i ∈ Region.ready md ops listed := by simpa using hi
    have hj' : j ∈ Region.ready md ops listed := by simpa using hj
    obtain ⟨⟨o, ho, hs⟩, ⟨o2, ho2, hs2⟩⟩ := h
    refine ⟨fun h => (by rw [h] at hi'; cases hi'), fun x hx => ?_⟩
    have hx' := List.all_eq_true.1 hall x hx
    simp only [Bool.or_eq_true, decide_eq_true_eq] at hx'
    rcases hx' with e | e
    · subst e; exact ⟨o, ho, hs.mono fun a' W' hC' hk => wpAnyT_of_tr hsel n t _ _ _ (inv.set hi') hB1 hC' hk⟩
    · subst e; exact ⟨o2, ho2, hs2.mono fun a' W' hC' hk => wpAnyT_of_tr hsel n u _ _ _ (inv.set hj') hB2 hC' hk⟩
  | n + 1, .three i t j u k v, listed, a, W, inv, hB, hC, h => by
    simp only [trB, Bool.and_eq_true] at hB
    obtain ⟨hi, hj, hk, hall, hB1, hB2, hB3⟩ := hB
    have hi' : i ∈ Region.ready md ops listed := by simpa using hi
    have hj' : j ∈ Region.ready md ops listed := by simpa using hj
    have hk' : k ∈ Region.ready md ops listed := by simpa using hk
    obtain ⟨⟨o, ho, hs⟩, ⟨o2, ho2, hs2⟩, ⟨o3, ho3, hs3⟩⟩ := h
    refine ⟨fun h => (by rw [h] at hi'; cases hi'), fun x hx => ?_⟩
    have hx' := List.all_eq_true.1 hall x hx
    simp only [Bool.or_eq_true, decide_eq_true_eq] at hx'
    rcases hx' with e | e | e
    · subst e; exact ⟨o, ho, hs.mono fun a' W' hC' hk => wpAnyT_of_tr hsel n t _ _ _ (inv.set hi') hB1 hC' hk⟩
    · subst e; exact ⟨o2, ho2, hs2.mono fun a' W' hC' hk => wpAnyT_of_tr hsel n u _ _ _ (inv.set hj') hB2 hC' hk⟩
    · subst e; exact ⟨o3, ho3, hs3.mono fun a' W' hC' hk => wpAnyT_of_tr hsel n v _ _ _ (inv.set hk') hB3 hC' hk⟩
  | 0, .read _ _, _, _, _, _, hB, _, _ => by simp [trB] at hB
  | 0, .one _ _, _, _, _, _, hB, _, _ => by simp [trB] at hB
  | 0, .two _ _ _ _, _, _, _, _, hB, _, _ => by simp [trB] at hB
  | 0, .three _ _ _ _ _ _, _, _, _, _, hB, _, _ => by simp [trB] at hB
  | _ + 1, .leaf, _, _, _, _, hB, _, _ => by simp [trB] at hB
/-- the region: along the tree, in the worlds C; then its tail. s: what the tree holds, in any order. -/
theorem wp_region_tree {id : Nat} {a : Act} {w : World} (T : TrT) (s t : List (Bool × Nat)) (C : World → Prop) (hm : P.follows .mixedOrders = true) (hs : Region.noSelect ops = true) (hl : s.length + t.length = ops.size)
    (hB : trB .any ops (listedBy ops.size s) s.length T (Array.replicate ops.size false) = true)
    (hT : schedB .any ops t (listedBy ops.size s) = true)
    (hC : C { w with drawn := w.drawn + 1 }) (h : wpTr P ops C (wpSched P ops (fun _ => True) Q t) T a { w with drawn := w.drawn + 1 }) : (Code.region id ops true).wp P Q a w := by
  refine wp_region_any hm ?_
  rw [← hl]
  refine wpAny_of_T (g := t.length) (fun listed a W hh => ?_) _ _ _ _ (wpAnyT_of_tr (H0 := listedBy ops.size s) hs s.length T _ a _ (fun j oj _ hj => by rw [getD_replicate_false] at hj; cases hj) (by rw [hl]; exact hB) hC h)
  obtain ⟨rfl, hk⟩ := hh
  exact wpAny_of_S _ _ _ _ (wpAnyS_of_sched hs t _ a W hT trivial hk)
theorem tr_read {K : Act → World → Prop} {i : Nat} {t : TrT} {o : Oper} {a : Act} {W : World} (ho : ops[i]? = some o) (v : Value) (hw : Region.wanted o (yielded ops a.tmps) = true) (hr : ∀ W, C W → (execOp a.eval o).run P W = .ok (.value v) W) (h : wpTr P ops C K t (a.put o.dst v) W) : wpTr P ops C K (.read i t) a W :=
  ⟨o, v, ho, ⟨hw, hr⟩, h⟩
theorem tr_one {K : Act → World → Prop} {i : Nat} {t : TrT} {a : Act} {W : World} (h : ∃ o, ops[i]? = some o ∧ StepS P ops C o (wpTr P ops C K t) a W) : wpTr P ops C K (.one i t) a W := h
theorem tr_two {K : Act → World → Prop} {i j : Nat} {t u : TrT} {a : Act} {W : World} (h : ∃ o, ops[i]? = some o ∧ StepS P ops C o (wpTr P ops C K t) a W) (h2 : ∃ o, ops[j]? = some o ∧ StepS P ops C o (wpTr P ops C K u) a W) : wpTr P ops C K (.two i t j u) a W := ⟨h, h2⟩
theorem tr_three {K : Act → World → Prop} {i j k : Nat} {t u v : TrT} {a : Act} {W : World} (h : ∃ o, ops[i]? = some o ∧ StepS P ops C o (wpTr P ops C K t) a W) (h2 : ∃ o, ops[j]? = some o ∧ StepS P ops C o (wpTr P ops C K u) a W) (h3 : ∃ o, ops[k]? = some o ∧ StepS P ops C o (wpTr P ops C K v) a W) : wpTr P ops C K (.three i t j u k v) a W := ⟨h, h2, h3⟩
theorem st_call {K : Act → World → Prop} {i : Nat} {o : Oper} {a : Act} {W : World} (ho : ops[i]? = some o) (f : FuncId) (args : Array Value) (hw : Region.wanted o (yielded ops a.tmps) = true) (hr : (execOp a.eval o).run P W = .ok (.enter f args) W)
    (hc : Calls P f args W (fun e w' => ∃ v, e = .returned v ∧ C w' ∧ K (a.put o.dst v) w')) : ∃ o, ops[i]? = some o ∧ StepS P ops C o K a W :=
  ⟨o, ho, hw, .inr (.inr ⟨f, args, hr, hc⟩)⟩
theorem st_value {K : Act → World → Prop} {i : Nat} {o : Oper} {a : Act} {W : World} (ho : ops[i]? = some o) (v : Value) (W' : World) (hw : Region.wanted o (yielded ops a.tmps) = true) (hr : (execOp a.eval o).run P W = .ok (.value v) W') (hC : C W') (h : K (a.put o.dst v) W') : ∃ o, ops[i]? = some o ∧ StepS P ops C o K a W :=
  ⟨o, ho, hw, .inl ⟨v, W', hr, hC, h⟩⟩
theorem st_skip {K : Act → World → Prop} {i : Nat} {o : Oper} {a : Act} {W : World} (ho : ops[i]? = some o) (W' : World) (hw : Region.wanted o (yielded ops a.tmps) = true) (hr : (execOp a.eval o).run P W = .ok .skip W') (hC : C W') (h : K (a.put o.dst undef) W') : ∃ o, ops[i]? = some o ∧ StepS P ops C o K a W :=
  ⟨o, ho, hw, .inr (.inl ⟨W', hr, hC, h⟩)⟩
end
end Go.Proofs.Ytbomnicnoanjlaa

namespace Go.Proofs.Ytbomnicnoanjlaa
open Go.RowKit Go.Proofs.Ytbomnicnoanjlaa.So
set_option linter.unusedVariables false

/-- what maySend says. -/
def mayF (L : LoV) (p t : Int) : Int := if 0 ≤ p ∧ p < (L.out.length : Int) then (if L.out.getD p.toNat true = true ∨ t < L.now then 7 else if L.now + L.delay < t then 1 else if (L.sent t p).isSome then 8 else 0) else 1
theorem below_dn9 {B : Nat} {a w : World} (h : Below B a w) (n : Nat) : Below B a (w.drewN n) := h.trans ⟨rfl, rfl, rfl, Nat.le_refl _, fun _ _ => rfl⟩
set_option maxRecDepth 100000 in
set_option maxHeartbeats 8000000 in
theorem lmay_any (z bo bm : Nat) (L : LoV) (p t : Int) (w : World) (h : Lk w z bo bm L) (hl : L.out.length ≤ 4) (hn : 0 ≤ L.now ∧ L.now ≤ 1000000) (hd : 0 ≤ L.delay ∧ L.delay ≤ 20) (ht : (Lit.int .i64 t).wf = true) :
    Calls Try.prog 14 #[.pointer (some ⟨z, 0, none⟩), .int .i64 p, .int .i64 t] w fun e w' => ∃ r, e = .returned r ∧ Er r (mayF L p t) ∧ Below w.heap.size w w' := by
  have H : Hid (Lk w z bo bm L) := h
  clear h
  obtain ⟨R, hR⟩ : ∃ R, mayF L p t = R := ⟨_, rfl⟩
  have HR : Hid (mayF L p t = R) := hR
  rw [hR]
  clear hR
  go_enter Try.func14, Try.ntmps14
  go_wp2_with fail
  refine (lplays_any z bo bm L p w H.out hl).mono ?_
  rintro e w1 ⟨rfl, b1⟩
  have B1 : Hid (Below w.heap.size w w1) := b1
  have H1 : Hid (Lk w1 z bo bm L) := H.out.below b1
  clear b1 H
  by_cases hp : 0 ≤ p ∧ p < (L.out.length : Int)
  case neg =>
    have E : decide (0 ≤ p ∧ p < (L.out.length : Int)) = false := decide_eq_false hp
    have F : Hid (R = 1) := by unfold Hid; rw [← HR.out]; unfold mayF; rw [if_neg hp]
    rw [E]
    clear E hp
    go_wp2
    go_ret
    exact ⟨_, rfl, by rw [F.out]; exact Er.no (by decide), B1.out⟩
  have E : decide (0 ≤ p ∧ p < (L.out.length : Int)) = true := decide_eq_true hp
  rw [E]
  clear E
  obtain ⟨q, rfl⟩ : ∃ q : Nat, p = (q : Nat) := ⟨p.toNat, by omega⟩
  have hqk : q < L.out.length := by omega
  have hqi : (q : Int) < (L.out.length : Nat) := by omega
  obtain ⟨d, hd'⟩ : ∃ d, L.out[q]? = some d := ⟨_, List.getElem?_eq_getElem hqk⟩
  have HD : Hid (R = if d = true ∨ t < L.now then 7 else if L.now + L.delay < t then 1 else if (L.sent t q).isSome then 8 else 0) := by unfold Hid; rw [← HR.out]; unfold mayF; rw [if_pos hp, List.getD_eq_getElem?_getD, Int.toNat_natCast, hd']; rfl
  have qc := H1.out.b.cell hd'
  obtain ⟨c0, c1, c2, c3⟩ := H1.out.cells
  clear hd' hp c3
  cases d
  case true =>
    have F : Hid (R = 7) := by unfold Hid; rw [HD.out, if_pos (.inl rfl)]
    go_wp2
    go_ret
    exact ⟨_, rfl, by rw [F.out]; exact Er.no (by decide), B1.out⟩
  by_cases h1 : t < L.now
  · have F : Hid (R = 7) := by unfold Hid; rw [HD.out, if_pos (.inr h1)]
    go_wp2
    go_ret
    exact ⟨_, rfl, by rw [F.out]; exact Er.no (by decide), B1.out⟩
  have HD2 : Hid (R = if L.now + L.delay < t then 1 else if (L.sent t q).isSome then 8 else 0) := by unfold Hid; rw [HD.out, if_neg (by rintro (h | h); cases h; exact h1 h)]
  clear HD
  have NW : IntKind.i64.wrap (L.now + L.delay) = L.now + L.delay := by rw [IntKind.wrap_i64]; omega
  by_cases h2 : L.now + L.delay < t
  · have F : Hid (R = 1) := by unfold Hid; rw [HD2.out, if_pos h2]
    have h2d : decide (L.now + L.delay < t) = true := decide_eq_true h2
    go_upto_region 5 with fail
    go_quiet (fail)
    go_wp2
    go_ret
    exact ⟨_, rfl, by rw [F.out]; exact Er.no (by decide), below_dn9 B1.out _⟩
  have h2d : decide (L.now + L.delay < t) = false := decide_eq_false h2
  have F : Hid (R = if (L.sent t q).isSome then 8 else 0) := by unfold Hid; rw [HD2.out, if_neg h2]
  have WQ : Hid ((Lit.int .i64 ((q : Nat) : Int)).wf = true) := pmwf (by omega) (by omega)
  clear HD2
  go_upto_region 5 with fail
  go_quiet (fail)
  have DQ : Hid (Below w1.heap.size w1 (w1.drewN nq)) := below_dn9 (Below.refl _ _) _
  generalize w1.drewN nq = w2 at *
  have B2 : Hid (Below w.heap.size w w2) := B1.out.trans (DQ.out.mono B1.out.size)
  have H2 : Hid (Lk w2 z bo bm L) := H1.out.below DQ.out
  clear c0 c1 c2 qc
  go_wp2_with fail
  refine (lhas_any z bo bm L _ _ w2 H2.out WQ.out ht).mono ?_
  rintro e w3 ⟨rfl, b3⟩
  have B3 : Hid (Below w.heap.size w w3) := B2.out.trans (b3.mono B2.out.size)
  clear b3
  obtain ⟨s, hs⟩ : ∃ s, (L.sent t q).isSome = s := ⟨_, rfl⟩
  have FS : Hid (R = if s then 8 else 0) := by unfold Hid; rw [F.out, hs]
  rw [hs]
  clear hs F
  cases s
  · go_wp2
    go_ret
    exact ⟨_, rfl, by rw [FS.out]; exact Er.nil, B3.out⟩
  · go_wp2
    go_ret
    exact ⟨_, rfl, by rw [FS.out]; exact Er.no (by decide), B3.out⟩
set_option maxHeartbeats 4000000 in
theorem lsend1_any (o : OrV) (b : Nat) (p : Int) (w : World) (hc : w.cell? ⟨b, 0, none⟩ = some (.int .i64 p)) :
    Calls Try.prog 17 (#[o.val] ++ #[.pointer (some ⟨b, 0, none⟩)]) w fun e w' => e = .returned (.bool (o.player != p)) ∧ Below w.heap.size w w' := by
  unfold OrV.val
  have hc' : (w.alloc (Obj.cells #[.int .i64 o.player, .int .i64 o.unit, .int .i64 o.what, .int .i64 o.arg] 30)).cell? ⟨b, 0, none⟩ = some (.int .i64 p) := by
    rw [((Below.refl w.heap.size w).alloc (Nat.le_refl _) _).cell (p := ⟨b, 0, none⟩) (cell_lt hc)]; exact hc
  have BB : Hid (Below w.heap.size w (w.alloc (Obj.cells #[.int .i64 o.player, .int .i64 o.unit, .int .i64 o.what, .int .i64 o.arg] 30))) := (Below.refl _ _).alloc (Nat.le_refl _) _
  by_cases e : o.player = p
  · have E : Hid ((o.player != p) = false) := by unfold Hid; rw [e]; simp
    have eb : (o.player == p) = true := beq_iff_eq.2 e
    clear e
    go_enter Try.func17, Try.ntmps17
    go_wp2
    go_ret
    exact ⟨by rw [E.out]; rfl, BB.out⟩
  · have eb : (o.player == p) = false := beq_eq_false_iff_ne.2 e
    have E : Hid ((o.player != p) = true) := by unfold Hid; simp [bne, eb]
    clear e
    go_enter Try.func17, Try.ntmps17
    go_wp2
    go_ret
    exact ⟨by rw [E.out]; rfl, BB.out⟩
set_option maxRecDepth 100000 in
set_option maxHeartbeats 4000000 in
theorem cloneo_any (v : Value) (l : List OrV) (w : World) (h : Orl w v l) (hl : l.length ≤ 1048576) :
    Calls Try.prog 18 #[v] w fun e w' => ∃ u, e = .returned u ∧ Orl w' u l ∧ Below w.heap.size w w' := by
  have H : Hid (Orl w v l) := h
  obtain ⟨a, c, rfl, c1, c2, c3⟩ := h
  cases a with
  | none =>
    have E : Hid (l = []) := by
      by_cases e : l = []
      · exact e
      · obtain ⟨x, h, -⟩ := c3 e; cases h
    clear c3
    have hq : ∀ W : World, (binOp .eql 31 (.slice none l.length c) (.slice none 0 0)).run Try.prog W = .ok (.bool true) W := fun W => Lib.run_eql_slice_nil W _ _ none _ _ _ _ Try.underlying31
    go_enter Try.func18, Try.ntmps18
    go_wp2
    go_ret
    exact ⟨_, rfl, by rw [E.out]; exact ⟨none, 0, rfl, Nat.le_refl _, by omega, fun h => absurd rfl h⟩, Below.refl _ _⟩
  | some x =>
    clear c3
    have OA : Hid (Oro (w.alloc (Obj.cells #[] 30)) w.heap.size (.slice (some ⟨w.heap.size, 0, none⟩) 0 0) []) := ⟨rfl, .inr ⟨_, _, _, rfl, Nat.le_refl _, heap_alloc_new w _, Nat.le_refl _, by unfold maxLen; decide, rfl, rfl⟩⟩
    have BA : Hid (Below w.heap.size w (w.alloc (Obj.cells #[] 30))) := (Below.refl _ _).alloc (Nat.le_refl _) _
    have LA : Hid (Orl (w.alloc (Obj.cells #[] 30)) (.slice (some x) l.length c) l) := H.out.below BA.out
    have hq : ∀ W : World, (binOp .eql 31 (.slice (some x) l.length c) (.slice none 0 0)).run Try.prog W = .ok (.bool false) W := fun W => Lib.run_eql_slice_nil W _ _ (some x) _ _ _ _ Try.underlying31
    go_enter Try.func18, Try.ntmps18
    go_wp2_with (at_builtin; refine app_ors _ rfl _ _ rfl w.heap.size _ [] rfl OA.out _ l rfl LA.out (by simp; omega) BA.out.size ?_)
    intro v5 w2 o2 g2 e2
    have O2 : Hid (Orl w2 v5 l) := by unfold Hid; have h := o2.l; simpa using h
    have B2 : Hid (Below w.heap.size w w2) := BA.out.grown g2 BA.out.size (fun k hk => (OA.out.block k hk).1)
    clear o2 g2 e2
    go_wp2
    go_ret
    exact ⟨_, rfl, O2.out, B2.out⟩
/-- what Send says. -/
def sendF (L : LoV) (p t : Int) (l : List OrV) : Int := if mayF L p t = 0 then (if Od.faults l = 0 then (if l.any (fun o => o.player != p) then 3 else 0) else Od.faults l) else mayF L p t
/-- something was sent. -/
def LoV.put (L : LoV) (p t : Int) (l : List OrV) : LoV := { L with sent := fun t' p' => if t' = t ∧ p' = p then some l else L.sent t' p', many := L.many + 1 }
/-- what comes of it. -/
def SendSays (z bo bm : Nat) (L : LoV) (p t : Int) (l : List OrV) (w : World) (e : Ending) (w' : World) : Prop := ∃ r, e = .returned r ∧ Er r (sendF L p t l) ∧ Lf z bo bm w w' ∧ ((sendF L p t l = 0 ∧ Lk w' z bo bm (L.put p t l)) ∨ (sendF L p t l ≠ 0 ∧ Lk w' z bo bm L))
theorem Lk.puts {w w' : World} {z bo bm : Nat} {L : LoV} (h : Lk w z bo bm L) {p t : Int} {v : Value} {l : List OrV} {f : Int → Int → Option Value} (hs : ∀ t' p', (f t' p' = none ∧ L.sent t' p' = none) ∨ ∃ v l, f t' p' = some v ∧ L.sent t' p' = some l ∧ Orl w v l) (hv : Orl w v l) (hm : Pm w' bm (L.many + 1) (pmSet f t p (some v))) (g : w.grownBy w' (some bm)) : Lk w' z bo bm (L.put p t l) ∧ Lf z bo bm w w' := by
  have G : Lf z bo bm w w' := Lf.gb g (fun k hk => by injection hk with hk; exact .inr (.inr hk.symm))
  refine ⟨⟨(g.block z h.lz (fun e => by injection e with e; exact h.zm e)).trans h.x, ?_, _, hm, fun t' p' => ?_⟩, G⟩
  · have := h.b
    unfold Bb at *
    exact (g.block bo h.lb (fun e => by injection e with e; exact h.bm e)).trans this
  · unfold pmSet LoV.put
    simp only
    by_cases c : t' = t ∧ p' = p
    · rw [if_pos c, if_pos c]
      exact .inr ⟨v, l, rfl, rfl, h.orl G hv⟩
    · rw [if_neg c, if_neg c]
      rcases hs t' p' with h1 | ⟨v, l, a1, a2, a3⟩
      · exact .inl h1
      · exact .inr ⟨v, l, a1, a2, h.orl G a3⟩
set_option maxRecDepth 100000 in
set_option maxHeartbeats 8000000 in
theorem lsend_any (z bo bm : Nat) (L : LoV) (p t : Int) (v : Value) (l : List OrV) (w : World) (h : Lk w z bo bm L) (hl : L.out.length ≤ 4) (hn : 0 ≤ L.now ∧ L.now ≤ 1000000) (hd : 0 ≤ L.delay ∧ L.delay ≤ 20) (hm : L.many ≤ 1000000) (hp : (Lit.int .i64 p).wf = true) (ht : (Lit.int .i64 t).wf = true) (ho : Orl w v l) :
    Calls Try.prog 6 #[.pointer (some ⟨z, 0, none⟩), .int .i64 p, .int .i64 t, v] w (SendSays z bo bm L p t l w) := by
  have BB : Hid (Below w.heap.size w (w.alloc (Obj.cells #[.int .i64 p] 3))) := (Below.refl _ _).alloc (Nat.le_refl _) _
  have CB : Hid ((w.alloc (Obj.cells #[.int .i64 p] 3)).cell? ⟨w.heap.size, 0, none⟩ = some (.int .i64 p)) := by
    unfold Hid
    simp only [World.cell?, heap_alloc_new]
    rfl
  have H0 : Hid (Lk (w.alloc (Obj.cells #[.int .i64 p] 3)) z bo bm L) := h.below BB.out
  have OL : Hid (Orl (w.alloc (Obj.cells #[.int .i64 p] 3)) v l) := ho.below BB.out
  have WF : Hid ((Lit.int .i64 p).wf = true ∧ (Lit.int .i64 t).wf = true) := ⟨hp, ht⟩
  have LZ : Hid (z < w.heap.size ∧ bo < w.heap.size ∧ bm < w.heap.size) := ⟨h.lz, h.lb, h.lm⟩
  obtain ⟨av, cv, rfl, -⟩ := ho
  clear h hp ht
  go_enter Try.func6, Try.ntmps6
  go_upto_region 1 with fail
  obtain ⟨y, hy⟩ : ∃ y, w.heap.size = y := ⟨_, rfl⟩
  have SY : Hid (w.heap.size = y) := hy
  rw [hy] at CB
  (try rw [hy])
  clear hy
  generalize (w.alloc (Obj.cells #[.int .i64 p] 3)) = w0 at *
  have c0 := CB.out
  obtain ⟨R, hR⟩ : ∃ R, sendF L p t l = R := ⟨_, rfl⟩
  have HR : Hid (sendF L p t l = R) := hR
  clear hR
  go_wp2_with fail
  refine (lmay_any z bo bm L p t w0 H0.out hl hn hd WF.out.2).mono ?_
  rintro e w1 ⟨r1, rfl, hr, b1⟩
  have B1 : Hid (Below w.heap.size w w1) := BB.out.trans (b1.mono BB.out.size)
  have H1 : Hid (Lk w1 z bo bm L) := H0.out.below b1
  have O1 : Hid (Orl w1 (.slice av l.length cv) l) := OL.out.below b1
  have C1 : Hid (w1.cell? ⟨y, 0, none⟩ = some (.int .i64 p)) := by unfold Hid; rw [b1.cell (p := ⟨y, 0, none⟩) (cell_lt CB.out)]; exact CB.out
  clear b1 c0 CB H0 OL BB
  rcases hr with ⟨hf, rfl⟩ | ⟨hf, rfl⟩
  case inr =>
    have F : Hid (R = mayF L p t ∧ R ≠ 0) := by unfold Hid; rw [← HR.out]; unfold sendF; rw [if_neg hf]; exact ⟨rfl, hf⟩
    clear hf
    go_wp2
    go_ret
    exact ⟨_, rfl, by rw [HR.out, ← F.out.1]; exact Er.no F.out.2, Lf.of B1.out, .inr ⟨by rw [HR.out]; exact F.out.2, H1.out⟩⟩
  have F1 : Hid (R = if Od.faults l = 0 then (if l.any (fun o => o.player != p) then 3 else 0) else Od.faults l) := by unfold Hid; rw [← HR.out]; unfold sendF; rw [if_pos hf]
  clear hf
  go_wp2_with fail
  refine (ocheck_any _ l w1 O1.out).mono ?_
  rintro e w2 ⟨r2, rfl, hr, b2⟩
  have B2 : Hid (Below w.heap.size w w2) := B1.out.trans (b2.mono B1.out.size)
  have H2 : Hid (Lk w2 z bo bm L) := H1.out.below b2
  have O2 : Hid (Orl w2 (.slice av l.length cv) l) := O1.out.below b2
  have C2 : Hid (w2.cell? ⟨y, 0, none⟩ = some (.int .i64 p)) := by unfold Hid; rw [b2.cell (p := ⟨y, 0, none⟩) (cell_lt C1.out)]; exact C1.out
  clear b2 C1 H1 O1 B1
  rcases hr with ⟨hf, rfl⟩ | ⟨hf, rfl⟩
  case inr =>
    have F : Hid (R = Od.faults l ∧ R ≠ 0) := by unfold Hid; rw [F1.out, if_neg hf]; exact ⟨rfl, hf⟩
    clear hf
    go_wp2
    go_ret
    exact ⟨_, rfl, by rw [HR.out, ← F.out.1]; exact Er.no F.out.2, Lf.of B2.out, .inr ⟨by rw [HR.out]; exact F.out.2, H2.out⟩⟩
  have F2 : Hid (R = if l.any (fun o => o.player != p) then 3 else 0) := by unfold Hid; rw [F1.out, if_pos hf]
  have L60 : Hid (l.length ≤ 60) := (Od.faults_ok hf).1
  clear hf F1
  have HC : Hid (Calls Try.prog 16 #[.slice av l.length cv, .func (Fn.func 17) #[] #[.pointer (some ⟨y, 0, none⟩)]] w2 fun e w' => e = .returned (.bool (l.any (fun o => o.player != p))) ∧ Below w2.heap.size w2 w') :=
    haso_any 17 (fun args w => by rfl) _ _ l (fun o => o.player != p) w2 O2.out (fun W hW k _ => lsend1_any k y p W (by rw [hW.cell (p := ⟨y, 0, none⟩) (cell_lt C2.out)]; exact C2.out))
  go_wp2_with fail
  refine HC.out.mono ?_
  rintro e w3 ⟨rfl, b3⟩
  have B3 : Hid (Below w.heap.size w w3) := B2.out.trans (b3.mono B2.out.size)
  have H3 : Hid (Lk w3 z bo bm L) := H2.out.below b3
  have O3 : Hid (Orl w3 (.slice av l.length cv) l) := O2.out.below b3
  have C3 : Hid (w3.cell? ⟨y, 0, none⟩ = some (.int .i64 p)) := by unfold Hid; rw [b3.cell (p := ⟨y, 0, none⟩) (cell_lt C2.out)]; exact C2.out
  clear b3 C2 H2 O2 B2 HC
  obtain ⟨s, hs⟩ : ∃ s, l.any (fun o => o.player != p) = s := ⟨_, rfl⟩
  have F3 : Hid (R = if s then 3 else 0) := by unfold Hid; rw [F2.out, hs]
  rw [hs]
  clear hs F2
  cases s
  case true =>
    go_wp2
    go_ret
    exact ⟨_, rfl, by rw [HR.out, F3.out]; exact Er.no (by decide), Lf.of B3.out, .inr ⟨by rw [HR.out, F3.out]; decide, H3.out⟩⟩
  case false =>
    have F4 : Hid (R = 0) := F3.out
    have K3 : Hid (∀ V, Below w3.heap.size w3 V → V.cell? ⟨y, 0, none⟩ = some (.int .i64 p) ∧ V.cell? ⟨z, 3, none⟩ = some (.map (some bm))) := fun V hV => ⟨by rw [hV.cell (p := ⟨y, 0, none⟩) (cell_lt C3.out)]; exact C3.out, (H3.out.below hV).cells.2.2.2⟩
    go_upto_region 9 with fail
    refine wp_region_tree (.read 0 (.read 1 (.read 2 (.read 3 (.read 4 (.read 5 (.read 6 (.read 7 (.one 8 .leaf))))))))) [(false, 0), (false, 1), (false, 2), (false, 3), (false, 4), (false, 5), (false, 6), (false, 7), (false, 8)] [(false, 9)] (fun V => V.cell? ⟨y, 0, none⟩ = some (.int .i64 p) ∧ V.cell? ⟨z, 3, none⟩ = some (.map (some bm))) (by kernel_rfl) (by kernel_rfl) (by kernel_rfl) (by decide +kernel) (by decide +kernel) (K3.out _ (Below.refl _ _).drew) ?_
    have D3 : Hid (Below w3.heap.size w3 { w3 with drawn := w3.drawn + 1 }) := (Below.refl _ _).drew
    generalize ({ w3 with drawn := w3.drawn + 1 } : World) = w4 at *
    have B4 : Hid (Below w.heap.size w w4) := B3.out.trans (D3.out.mono B3.out.size)
    have H4 : Hid (Lk w4 z bo bm L) := H3.out.below D3.out
    have O4 : Hid (Orl w4 (.slice av l.length cv) l) := O3.out.below D3.out
    refine tr_read rfl (.pointer (some ⟨z, 0, none⟩)) (by go_simp) (fun V hV => by obtain ⟨v0, v1⟩ := hV; go_simp) ?_
    go_simp
    refine tr_read rfl (.pointer (some ⟨z, 0, none⟩)) (by go_simp) (fun V hV => by obtain ⟨v0, v1⟩ := hV; go_simp) ?_
    go_simp
    refine tr_read rfl (.pointer (some ⟨z, 3, none⟩)) (by go_simp) (fun V hV => by obtain ⟨v0, v1⟩ := hV; go_simp) ?_
    go_simp
    refine tr_read rfl (.map (some bm)) (by go_simp) (fun V hV => by obtain ⟨v0, v1⟩ := hV; go_simp) ?_
    go_simp
    refine tr_read rfl (.int .i64 t) (by go_simp) (fun V hV => by obtain ⟨v0, v1⟩ := hV; go_simp) ?_
    go_simp
    refine tr_read rfl (.int .i64 p) (by go_simp) (fun V hV => by obtain ⟨v0, v1⟩ := hV; go_simp) ?_
    go_simp
    refine tr_read rfl (.agg #[.int .i64 t, .int .i64 p]) (by go_simp) (fun V hV => by obtain ⟨v0, v1⟩ := hV; go_simp) ?_
    go_simp
    refine tr_read rfl (.slice av l.length cv) (by go_simp) (fun V hV => by obtain ⟨v0, v1⟩ := hV; go_simp) ?_
    go_simp
    refine tr_one ?_
    refine st_call rfl 18 #[.slice av l.length cv] (by go_simp) (by go_simp) ?_
    refine (cloneo_any _ l w4 O4.out (by have := L60.out; omega)).mono ?_
    rintro e w5 ⟨u, rfl, ho, b5⟩
    have B5 : Hid (Below w.heap.size w w5) := B4.out.trans (b5.mono B4.out.size)
    have H5 : Hid (Lk w5 z bo bm L) := H4.out.below b5
    have D5 : Hid (Below w3.heap.size w3 w5) := D3.out.trans (b5.mono D3.out.size)
    obtain ⟨f, M, S⟩ := H5.out.m
    obtain ⟨w6, up, m6, g6⟩ := M.put (by unfold maxLen; omega) WF.out.2 WF.out.1 u
    have P6 := H5.out.puts S ho m6 g6
    have F6 : Hid (Lk w6 z bo bm (L.put p t l) ∧ Lf z bo bm w w6) := ⟨P6.1, (Lf.of B5.out).trans P6.2⟩
    refine ⟨_, rfl, K3.out _ D5.out, ?_⟩
    clear ho b5 m6 g6 P6 M S
    go_simp
    unfold wpTr
    refine sched_skip rfl w6 (by go_simp) (by go_simp) trivial ?_
    go_simp
    unfold wpSched
    go_wp2
    go_ret
    exact ⟨_, rfl, by rw [HR.out, F4.out]; exact Er.nil, F6.out.2, .inl ⟨by rw [HR.out, F4.out], F6.out.1⟩⟩
end Go.Proofs.Ytbomnicnoanjlaa

namespace Go.Proofs.Ytbomnicnoanjlaa
open Go.ChangeShapes Go.WideShapes Go.ChangeAt Go.RowKit
set_option linter.unusedVariables false

theorem or_fields : ∃ f0 f1 f2 f3 : Field, Try.prog.underlying 30 = some (.struct #[f0, f1, f2, f3]) ∧
    f0.offset = 0 ∧ f0.type = 3 ∧ f1.offset = 1 ∧ f1.type = 3 ∧ f2.offset = 2 ∧ f2.type = 3 ∧ f3.offset = 3 ∧ f3.type = 3 := ⟨_, _, _, _, Try.underlying30, rfl, rfl, rfl, rfl, rfl, rfl, rfl, rfl⟩

set_option maxRecDepth 100000 in
theorem open_or {H : Type} {enc : TypeId × Value → H} {W : World} {base : Nat} {held : Bool} {fuel : Nat} {cs : List Value} {y : DataW H × List MemPlace} (h : DataW.trod enc Try.prog W base (fun _ => true) held fuel 30 cs = some y) :
    ∃ k : OrV, cs = [.int .i64 k.player, .int .i64 k.unit, .int .i64 k.what, .int .i64 k.arg] ∧ True := by
  obtain ⟨f0, f1, f2, f3, he, o0, t0, o1, t1, o2, t2, o3, t3⟩ := or_fields
  obtain ⟨xs, m, -, -, hlen, hxl, hf⟩ := DataW.trod_struct he h
  have csi : Try.prog.cellsOf 3 = 1 := by kernel_rfl
  have csk : Try.prog.cellsOf 30 = 4 := by kernel_rfl
  rw [csk] at hlen
  match cs, hlen with
  | [v0, v1, v2, v3], _ =>
    have hx : xs.length = 4 := hxl
    match xs, hx with
    | [x0, x1, x2, x3], _ =>
      have g0 := hf 0 f0 rfl
      rw [o0, t0, csi] at g0
      have g1 := hf 1 f1 rfl
      rw [o1, t1, csi] at g1
      have g2 := hf 2 f2 rfl
      rw [o2, t2, csi] at g2
      have g3 := hf 3 f3 rfl
      rw [o3, t3, csi] at g3
      obtain ⟨m0, e0, -, -⟩ := DataW.trod_int Try.underlying3 g0
      obtain ⟨m1, e1, -, -⟩ := DataW.trod_int Try.underlying3 g1
      obtain ⟨m2, e2, -, -⟩ := DataW.trod_int Try.underlying3 g2
      obtain ⟨m3, e3, -, -⟩ := DataW.trod_int Try.underlying3 g3
      simp at e0 e1 e2 e3
      subst e0 e1 e2 e3
      exact ⟨⟨m0, m1, m2, m3⟩, rfl, trivial⟩

theorem open_ors {H : Type} {enc : TypeId × Value → H} {W : World} {base : Nat} {held : Bool} {fuel : Nat} {v : Value} {y : DataW H × List MemPlace} (h : DataW.trod enc Try.prog W base (fun _ => true) held fuel 31 [v] = some y) :
    ∃ ks : List OrV, Orl W v ks ∧ ∀ k ∈ ks, True := by
  have csk : Try.prog.cellsOf 30 = 4 := by kernel_rfl
  rcases Go.Deep.open_slice Try.underlying31 h with ⟨hcs, -⟩ | ⟨a, len, cap, m, q, D, Pl, hcs, hb, hl, hm, hmm, -, hx⟩
  · simp at hcs
    subst hcs
    exact ⟨[], ⟨none, 0, rfl, Nat.le_refl _, by omega, fun h => absurd rfl h⟩, by simp⟩
  · simp at hcs
    subst hcs
    have hlm : len ≤ m := by rw [hmm]; simp; exact hl
    have each : ∀ i, i < len → ∃ k : OrV, Orc W (a.add (i * 4)) k ∧ (True) := by
      intro i hi
      obtain ⟨cs', h1, h2⟩ := hx i (by omega)
      obtain ⟨k, rfl, hk⟩ := open_or h2
      rw [csk] at h1
      obtain ⟨-, -, hcell⟩ := World.cells?_some h1
      refine ⟨k, ?_, hk⟩
      generalize a.add (i * 4) = y at *
      exact ⟨hcell 0 (by decide), hcell 1 (by decide), hcell 2 (by decide), hcell 3 (by decide)⟩
    have inh : Inhabited OrV := ⟨⟨0, 0, 0, 0⟩⟩
    obtain ⟨q, hq⟩ := Go.Deep.choose_lt each
    refine ⟨(List.range len).map q, ⟨some a, cap, by simp, by simpa using hl, by unfold maxLen at hm; omega, fun hn => ⟨a, rfl, ?_, fun i k hk => ?_⟩⟩, ?_⟩
    · have h0 : 0 < len := by
        rcases Nat.eq_zero_or_pos len with h | h
        · subst h; simp at hn
        · exact h
      have := (hq 0 h0).1.lt
      rwa [add_block] at this
    · have hi : i < len := by
        have := (List.getElem?_eq_some_iff.1 hk).1
        simpa using this
      rw [List.getElem?_map, List.getElem?_range hi] at hk
      injection hk with hk
      subst hk
      exact (hq i hi).1
    · intro k hk
      obtain ⟨i, hi, rfl⟩ := List.mem_map.1 hk
      exact (hq i (List.mem_range.1 hi)).2
set_option maxRecDepth 100000 in
theorem ors_in {H : Type} {enc : TypeId × Value → H} {W : World} {base b0 : Nat} {held : Bool} {v : Value} {d : DataW H} {p : List MemPlace} (hv : Value.okWide Try.prog W .any b0 31 v) (h : DataW.Trod enc Try.prog W base (fun _ => true) held 31 v d p) :
    ∃ ks : List OrV, Orl W v ks ∧ ∀ k ∈ ks, True := by
  obtain ⟨a, len, cap, rfl⟩ := okWide_slice Try.underlying31 hv
  obtain ⟨fuel, hf⟩ := h
  exact open_ors hf
end Go.Proofs.Ytbomnicnoanjlaa

namespace Go.Proofs.Ytbomnicnoanjlaa
open Go.ChangeShapes Go.WideShapes Go.ChangeAt Go.RowKit
set_option linter.unusedVariables false

set_option maxRecDepth 100000 in
theorem open_olls {H : Type} {enc : TypeId × Value → H} {W : World} {base : Nat} {held : Bool} {fuel : Nat} {v : Value} {y : DataW H × List MemPlace} (h : DataW.trod enc Try.prog W base (fun _ => true) held fuel 22 [v] = some y) :
    ∃ ls : List (List OrV), Oll W v ls := by
  have csk : Try.prog.cellsOf 31 = 1 := by kernel_rfl
  rcases Go.Deep.open_slice Try.underlying22 h with ⟨hcs, -⟩ | ⟨a, len, cap, m, q, D, Pl, hcs, hb, hl, hm, hmm, -, hx⟩
  · simp at hcs
    subst hcs
    exact ⟨[], ⟨none, 0, rfl, Nat.le_refl _, by omega, fun h => absurd rfl h⟩⟩
  · simp at hcs
    subst hcs
    have hlm : len ≤ m := by rw [hmm]; simp; exact hl
    have each : ∀ i, i < len → ∃ l : List OrV, ∃ u, W.cell? (a.add i) = some u ∧ Orl W u l := by
      intro i hi
      obtain ⟨cs', h1, h2⟩ := hx i (by omega)
      rw [csk] at h1
      rw [Nat.mul_one] at h1
      obtain ⟨-, hlen, hcell⟩ := World.cells?_some h1
      match cs', hlen with
      | [u], _ =>
        obtain ⟨l, hl', -⟩ := open_ors h2
        exact ⟨l, u, hcell 0 (by decide), hl'⟩
    have inh : Inhabited (List OrV) := ⟨[]⟩
    obtain ⟨q, hq⟩ := Go.Deep.choose_lt each
    refine ⟨(List.range len).map q, ⟨some a, cap, by simp, by simpa using hl, by unfold maxLen at hm; omega, fun hn => ⟨a, rfl, ?_, fun i k hk => ?_⟩⟩⟩
    · have h0 : 0 < len := by
        rcases Nat.eq_zero_or_pos len with h | h
        · subst h; simp at hn
        · exact h
      obtain ⟨u, h1, -⟩ := hq 0 h0
      have := cell_lt h1
      rwa [add_block] at this
    · have hi : i < len := by
        have := (List.getElem?_eq_some_iff.1 hk).1
        simpa using this
      rw [List.getElem?_map, List.getElem?_range hi] at hk
      injection hk with hk
      subst hk
      exact hq i hi
set_option maxRecDepth 100000 in
theorem olls_in {H : Type} {enc : TypeId × Value → H} {W : World} {base b0 : Nat} {held : Bool} {v : Value} {d : DataW H} {p : List MemPlace} (hv : Value.okWide Try.prog W .any b0 22 v) (h : DataW.Trod enc Try.prog W base (fun _ => true) held 22 v d p) : ∃ ls : List (List OrV), Oll W v ls := by
  obtain ⟨a, len, cap, rfl⟩ := okWide_slice Try.underlying22 hv
  obtain ⟨fuel, hf⟩ := h
  exact open_olls hf
/-- the first of them; those behind. -/
theorem Oll.take {w : World} {a : Option Addr} {n c : Nat} {ls : List (List OrV)} (h : Oll w (.slice a n c) ls) {k : Nat} (hk : k ≤ ls.length) : Oll w (.slice a k c) (ls.take k) := by
  obtain ⟨a', c', e, h2, h3, h4⟩ := h
  injection e with e1 e2 e3
  subst e1 e3
  have hl : (ls.take k).length = k := by rw [List.length_take]; omega
  refine ⟨a, c, by rw [hl], by omega, h3, fun hn => ?_⟩
  obtain ⟨x, ex, hx, hy⟩ := h4 (by rintro rfl; simp at hn)
  refine ⟨x, ex, hx, fun i l hi => hy i l ?_⟩
  rw [List.getElem?_take] at hi
  split at hi
  · exact hi
  · cases hi
theorem Oll.sl {w : World} {a : Option Addr} {c n L : Nat} {ls : List (List OrV)} (h : Oll w (.slice a L c) ls) (hn : n ≤ ls.length) : Oll w (sliced a n L c 1) (ls.drop n) := by
  obtain ⟨a', c', e, h1, h2, h3⟩ := h
  injection e with e1 e2 e3
  subst e1 e3 e2
  unfold sliced
  refine ⟨_, _, by rw [List.length_drop], by rw [List.length_drop]; omega, by omega, fun hne => ?_⟩
  have hnl : n < ls.length := by
    rcases Nat.lt_or_ge n ls.length with h | h
    · exact h
    · exact absurd (List.drop_eq_nil_of_le h) hne
  obtain ⟨x, rfl, hx1, hx2⟩ := h3 (by rintro rfl; simp at hnl)
  refine ⟨x.add n, ?_, by rw [add_block]; exact hx1, fun i l hk => ?_⟩
  · simp
    intro hc
    omega
  · rw [List.getElem?_drop] at hk
    obtain ⟨u, c1, c2⟩ := hx2 (n + i) l hk
    have e : (x.add n).add i = x.add (n + i) := by
      unfold Addr.add
      split <;> split <;> split <;> simp_all <;> omega
    rw [e]
    exact ⟨u, c1, c2⟩
end Go.Proofs.Ytbomnicnoanjlaa

namespace Go.Proofs.Ytbomnicnoanjlaa
open Go.ChangeShapes Go.WideShapes Go.ChangeAt Go.RowKit
set_option linter.unusedVariables false

theorem by_or : Try.prog.bytesOf 30 = 32 := by kernel_rfl
set_option maxRecDepth 100000 in
theorem ors_size {H : Type} {enc : TypeId × Value → H} {W : World} {base : Nat} {held : Bool} {fuel : Nat} {v : Value} {y : DataW H × List MemPlace} (h : DataW.trod enc Try.prog W base (fun _ => true) held fuel 31 [v] = some y)
    (hz : ∀ n ∈ y.1.weights Try.prog 31, n ≤ reachBytes) (ks : List OrV) (hk : Orl W v ks) : ks.length * 32 ≤ reachBytes := by
  obtain ⟨a', c', hv, -, -, -⟩ := hk
  rcases Go.Deep.open_slice Try.underlying31 h with ⟨hcs, -⟩ | ⟨a, len, cap, m, q, D, Pl, hcs, hb, hl, hm, hmm, rfl, hx⟩
  · simp at hcs
    rw [hv] at hcs
    injection hcs with _ e
    rw [e]
    exact Nat.zero_le _
  · simp at hcs
    rw [hv] at hcs
    injection hcs with _ e
    have hlm : len ≤ m := by rw [hmm]; simp; exact hl
    have h1 := hz ((len + (m - len)) * 32) (by simp [DataW.weights, Try.underlying31, by_or])
    rw [e]
    omega
theorem mem_all {H : Type} {P : Program} {e : TypeId} : ∀ {ds : List (DataW H)} {d : DataW H}, d ∈ ds → ∀ n ∈ d.weights P e, n ∈ DataW.weightsAll P e ds
  | x :: r, d, h, n, hn => by
    simp only [DataW.weightsAll, List.mem_append]
    rcases List.mem_cons.1 h with rfl | h
    · exact .inl hn
    · exact .inr (mem_all h n hn)
set_option maxRecDepth 100000 in
theorem olls_size {H : Type} {enc : TypeId × Value → H} {W : World} {base : Nat} {held : Bool} {v : Value} {d : DataW H} {p : List MemPlace} (h : DataW.Trod enc Try.prog W base (fun _ => true) held 22 v d p)
    (hz : ∀ n ∈ d.weights Try.prog 22, n ≤ reachBytes) {ls : List (List OrV)} (hk : Oll W v ls) : ∀ l ∈ ls, l.length * 32 ≤ reachBytes := by
  intro l hl
  obtain ⟨i, hi⟩ := List.mem_iff_getElem?.1 hl
  have csk : Try.prog.cellsOf 31 = 1 := by kernel_rfl
  obtain ⟨a', c', hv, -, -, h3⟩ := hk
  obtain ⟨x, ha, -, hc⟩ := h3 (by rintro rfl; simp at hi)
  obtain ⟨u, hu, ho⟩ := hc i l hi
  have hil : i < ls.length := (List.getElem?_eq_some_iff.1 hi).1
  subst hv
  obtain ⟨fuel, h⟩ := h
  rcases Go.Deep.open_slice Try.underlying22 h with ⟨hcs, -⟩ | ⟨a, len, cap, m, q, D, Pl, hcs, hb, hl', hm, hmm, he, hx⟩
  · have hcs : [Value.slice a' ls.length c'] = [Value.slice none 0 0] := hcs
    injection hcs with hcs
    injection hcs with _ e
    omega
  · have hcs : [Value.slice a' ls.length c'] = [Value.slice (some a) len cap] := hcs
    injection hcs with hcs
    injection hcs with e1 e2
    rw [ha] at e1
    injection e1 with e1
    subst e1
    have hlm : len ≤ m := by rw [hmm]; simp; exact hl'
    obtain ⟨cs', g1, g2⟩ := hx i (by omega)
    rw [csk, Nat.mul_one] at g1
    obtain ⟨-, hlen, hcell⟩ := World.cells?_some g1
    match cs', hlen with
    | [u'], _ =>
      have hu' : W.cell? (x.add i) = some u' := hcell 0 (by decide)
      rw [hu] at hu'
      injection hu' with hu'
      subst hu'
      refine ors_size g2 (fun n hn => hz n ?_) l ho
      have e3 : d = .slice ((List.range len).map D) ((List.range (m - len)).map fun j => D (len + j)) := congrArg Prod.fst he
      rw [e3]
      simp only [DataW.weights, Try.underlying22, List.mem_cons, List.mem_append]
      exact .inr (.inl (mem_all (List.mem_map.2 ⟨i, List.mem_range.2 (by omega), rfl⟩) n hn))
/-- one more, behind a long one. -/
theorem app_orx {ops : Array Oper} {rest : List Oper} {o : Oper} {a : Act} {Q : Exit → Act → World → Prop} (w : World) (hgd : o.guard = none) (s x : Operand)
    (ho : o.op = .call { callee := .builtin .append, args := #[s, x], argTypes := #[31, 31] }) (base : Nat) (v : Value) (ks : List OrV) (hs : a.eval s = v) (hown : Oro w base v ks)
    (b : Nat) (d : OrV) (hx : a.eval x = .slice (some ⟨b, 0, none⟩) 1 1) (hd : Orc w ⟨b, 0, none⟩ d) (hl : (ks.length + 1) * 32 ≤ 140737488355328) (hbase : base ≤ w.heap.size)
    (h : ∀ g cap w', Oro w' base (.slice (some ⟨g, 0, none⟩) (ks.length + 1) cap) (ks ++ [d]) → w.grownBy w' v.ownBlock → (v.ownBlock = some g ∨ g = w.heap.size) → g < w'.heap.size → wpList Try.prog ops Q rest (a.put o.dst (.slice (some ⟨g, 0, none⟩) (ks.length + 1) cap)) w') :
    wpList Try.prog ops Q (o :: rest) a w := by
  obtain ⟨i0, hi, hz0, hz1, hz2⟩ := info_parts info_or
  refine wpList_append_lies w hgd s x 31 ho base 30 i0 (.agg #[.int .i64 0, .int .i64 0, .int .i64 0, .int .i64 0]) 4 32 Try.underlying31 hi hz0 hz1 hz2 rfl (by decide) v ks.length _ hs hown ⟨b, 0, none⟩ 1 1 d.cs hx rfl ?_ ?_ (by decide) (by unfold maxLen; omega) hl hbase _ rfl ?_
  · intro j u hj
    have hjn : j < 4 := (List.getElem?_eq_some_iff.1 hj).1
    rw [Addr.add_lit, Nat.zero_add]
    match j, hjn, hj with
    | 0, _, hj => simp [OrV.cs] at hj; subst hj; exact hd.c0
    | 1, _, hj => simp [OrV.cs] at hj; subst hj; exact hd.c1
    | 2, _, hj => simp [OrV.cs] at hj; subst hj; exact hd.c2
    | 3, _, hj => simp [OrV.cs] at hj; subst hj; exact hd.c3
  · intro u hu
    simp [OrV.cs] at hu
    rcases hu with rfl | rfl | rfl | rfl <;> rfl
  · intro g cap w' h1 h2 h3 h4
    refine h g cap w' ?_ h2 h3 h4
    unfold Oro
    rw [List.length_append, List.flatMap_append]
    simpa using h1
end Go.Proofs.Ytbomnicnoanjlaa

namespace Go.Proofs.Ytbomnicnoanjlaa
open Go.RowKit
set_option linter.unusedVariables false

/-- a player's orders. -/
def mineL (p : Int) (l : List OrV) : List OrV := l.filter (fun o => o.player == p)
theorem mineL_next {p : Int} {l : List OrV} {n : Nat} {o : OrV} (h : l[n]? = some o) : mineL p (l.take (n + 1)) = mineL p (l.take n) ++ if o.player == p then [o] else [] := by
  unfold mineL
  rw [List.take_add_one, h, List.filter_append]
  simp [List.filter_cons]
def MnI (p : Int) (l : List OrV) (w : World) (i v : Value) (W : World) : Prop := ∃ q : Nat, q ≤ l.length ∧ i = .int .i64 (q : Nat) ∧ Oro W w.heap.size v (mineL p (l.take q)) ∧ Below w.heap.size w W
set_option maxRecDepth 100000 in
set_option maxHeartbeats 8000000 in
theorem mine_any (tb : Nat) (vls : Value) (ls : List (List OrV)) (t : Nat) (l : List OrV) (p : Int) (w : World) (hc : w.cell? ⟨tb, 0, none⟩ = some vls) (h : Oll w vls ls) (ht : ls[t]? = some l) (hl : l.length * 32 ≤ reachBytes) :
    Calls Try.prog 8 #[.int .i64 (t : Nat), .int .i64 p, .pointer (some ⟨tb, 0, none⟩)] w fun e w' => ∃ u, e = .returned u ∧ Oro w' w.heap.size u (mineL p l) ∧ Below w.heap.size w w' := by
  have TL : Hid (tb < w.heap.size) := cell_lt hc
  have C : Hid (w.cell? ⟨tb, 0, none⟩ = some vls) := hc
  have LB : Hid (l.length * 32 ≤ 140737488351232) := hl
  obtain ⟨av, cv, rfl, -, -, h3⟩ := h
  have htl : t < ls.length := (List.getElem?_eq_some_iff.1 ht).1
  have hti : (t : Int) < (ls.length : Nat) := by omega
  obtain ⟨x, rfl, hx, hy⟩ := h3 (by rintro rfl; simp at htl)
  obtain ⟨u, hu, ho⟩ := hy t l ht
  have U : Hid (w.cell? (x.add t) = some u ∧ (x.add t).block < w.heap.size) := ⟨hu, by rw [add_block]; exact hx⟩
  have O : Hid (Orl w u l) := ho
  obtain ⟨au, cu, rfl, -⟩ := ho
  clear h3 hy hu hx ht hl hc
  go_enter Try.func8, Try.ntmps8
  go_wp2_with fail
  go_loopw [7, 6] (fun i v W => MnI p l w i v W) (fun i _ _ => l.length - (intOf i).toNat)
  case atStart => exact ⟨0, Nat.zero_le _, rfl, by simpa [mineL] using Oro.nil _ _, Below.refl _ _⟩
  case round =>
    obtain ⟨q, hq, rfl, hg, hb⟩ := hrel
    have G : Hid (Oro wr w.heap.size u6 (mineL p (l.take q))) := hg
    have B : Hid (Below w.heap.size w wr) := hb
    have c0 : wr.cell? ⟨tb, 0, none⟩ = some (.slice (some x) ls.length cv) := by rw [hb.cell (p := ⟨tb, 0, none⟩) TL.out]; exact C.out
    have c1 : wr.cell? (x.add t) = some (.slice au l.length cu) := by rw [hb.cell (p := x.add t) U.out.2]; exact U.out.1
    clear hg hb
    by_cases hql : q = l.length
    · subst hql
      have G1 : Hid (Oro wr w.heap.size u6 (mineL p l)) := by have h := G.out; rw [List.take_length] at h; exact h
      go_wp2
      go_ret
      exact ⟨_, rfl, G1.out, B.out⟩
    · have hqk : q < l.length := by omega
      have hqi : (q : Int) < (l.length : Nat) := by omega
      have QW : IntKind.i64.wrap ((q : Int) + 1) = (q : Int) + 1 := by have := LB.out; rw [IntKind.wrap_i64]; omega
      obtain ⟨o, hk⟩ : ∃ o, l[q]? = some o := ⟨_, List.getElem?_eq_getElem hqk⟩
      have NX : Hid (mineL p (l.take (q + 1)) = mineL p (l.take q) ++ if o.player == p then [o] else []) := mineL_next hk
      obtain ⟨a', c', e, -, -, h3⟩ := O.out.below B.out
      injection e with e1 e2 e3
      subst e1 e3
      obtain ⟨y, rfl, -, hx⟩ := h3 (by rintro rfl; simp at hqk)
      have RQ : Hid (Orc wr (y.add (q * 4)) o) := hx q o hk
      obtain ⟨r0, r1, r2, r3⟩ := hx q o hk
      clear hx h3 e2 hk
      by_cases ce : o.player = p
      case neg =>
        have cb : (o.player == p) = false := beq_eq_false_iff_ne.2 ce
        have NK : Hid (mineL p (l.take (q + 1)) = mineL p (l.take q)) := by unfold Hid; rw [NX.out, cb]; simp
        clear ce r1 r2 r3
        go_wp2
        go_round
        case rel => exact ⟨q + 1, by omega, by go_num, by rw [NK.out]; exact G.out, B.out⟩
        case measure => simp [intOf]; omega
      case pos =>
        have cb : (o.player == p) = true := beq_iff_eq.2 ce
        have NK : Hid (mineL p (l.take (q + 1)) = mineL p (l.take q) ++ [o]) := by unfold Hid; rw [NX.out, cb]; simp
        have KL : Hid ((mineL p (l.take q)).length ≤ q) := by unfold Hid mineL; exact Nat.le_trans (List.length_filter_le _ _) (by simp; omega)
        clear ce
        have OA : Hid (Oro (wr.alloc (Obj.cells #[.int .i64 o.player, .int .i64 o.unit, .int .i64 o.what, .int .i64 o.arg] 30)) w.heap.size u6 (mineL p (l.take q))) := G.out.alloc _
        have RC : Hid (Orc (wr.alloc (Obj.cells #[.int .i64 o.player, .int .i64 o.unit, .int .i64 o.what, .int .i64 o.arg] 30)) ⟨wr.heap.size, 0, none⟩ o) := Orc.mk' (w := wr) o rfl
        have BB : Hid (Below w.heap.size w (wr.alloc (Obj.cells #[.int .i64 o.player, .int .i64 o.unit, .int .i64 o.what, .int .i64 o.arg] 30))) := B.out.alloc B.out.size _
        go_wp2_with (at_builtin; refine app_orx _ rfl _ _ rfl w.heap.size _ (mineL p (l.take q)) rfl OA.out wr.heap.size o rfl RC.out (by have h1 := KL.out; have h2 := LB.out; omega) BB.out.size ?_)
        intro g cap w5 o5 g5 a5 l5
        have B5 : Hid (Below w.heap.size w w5) := BB.out.grown g5 BB.out.size (fun k hk => (G.out.block k hk).1)
        have O5 : Hid (Oro w5 w.heap.size (.slice (some ⟨g, 0, none⟩) ((mineL p (l.take q)).length + 1) cap) (mineL p (l.take (q + 1)))) := by unfold Hid; rw [NK.out]; exact o5
        clear o5 g5 a5 l5
        go_wp2
        go_round
        case rel => exact ⟨q + 1, by omega, by go_num, O5.out, B5.out⟩
        case measure => simp [intOf]; omega
end Go.Proofs.Ytbomnicnoanjlaa

namespace Go.Proofs.Ytbomnicnoanjlaa
namespace So
set_option linter.unusedVariables false
def isTr (o : OrV) : Bool := decide (o.what = 3)
theorem kp_trains {l : List OrV} : ∀ (q : Nat), q ≤ l.length → ((kp l q).map Prod.fst).countP isTr = (l.take q).countP isTr
  | 0, _ => by simp [kp]
  | q + 1, h => by
    have hq : q < l.length := by omega
    have ih := kp_trains (l := l) q (by omega)
    obtain ⟨o, ho⟩ : ∃ o, l[q]? = some o := ⟨_, List.getElem?_eq_getElem hq⟩
    rw [List.take_succ_eq_append_getElem hq, List.countP_append, ← ih]
    have e : l[q] = o := by have := List.getElem?_eq_getElem hq; rw [ho] at this; exact (Option.some.inj this).symm
    rw [e]
    by_cases hc : o.what = 3 ∨ lf l l.length o.player o.unit = (q : Nat)
    · rw [kp_yes ho hc, List.map_append, List.countP_append]
      rfl
    · rw [kp_no ho hc]
      have h3 : isTr o = false := by unfold isTr; exact decide_eq_false (fun h => hc (.inl h))
      simp [h3]
theorem LastSays.trains {l out : List OrV} (h : LastSays l out) : out.countP isTr = l.countP isTr := by
  obtain ⟨S, p, r, rfl⟩ := h
  have h1 := kp_trains (l := l) l.length (Nat.le_refl _)
  rw [List.take_length] at h1
  rw [← h1]
  exact (p.map Prod.fst).countP_eq isTr
theorem LastSays.has {l out : List OrV} (h : LastSays l out) {i : Nat} {o : OrV} (ho : l[i]? = some o) (h3 : ¬ o.what = 3) (hn : ∀ (k : Nat) x, i < k → k < l.length → l[k]? = some x → x.what = 3 ∨ x.player ≠ o.player ∨ x.unit ≠ o.unit) : o ∈ out := by
  obtain ⟨S, p, r, rfl⟩ := h
  have hi : i < l.length := (List.getElem?_eq_some_iff.1 ho).1
  exact List.mem_map.2 ⟨(o, i), p.mem_iff.2 (kp_in ho (.inr (lf_last ho h3 hi hn)) hi), rfl⟩
theorem LastSays.once {l out : List OrV} (h : LastSays l out) {i k : Nat} {x y : OrV} (hki : k < i) (hx : out[k]? = some x) (hy : out[i]? = some y) (h3 : ¬ x.what = 3) (h4 : ¬ y.what = 3) (hp : x.player = y.player) : ¬ x.unit = y.unit := by
  intro hu
  obtain ⟨S, p, r, rfl⟩ := h
  rw [List.getElem?_map] at hx hy
  obtain ⟨a, ha, rfl⟩ := Option.map_eq_some_iff.1 hx
  obtain ⟨b, hb, rfl⟩ := Option.map_eq_some_iff.1 hy
  obtain ⟨-, -, ka⟩ := kp_mem (p.mem_iff.1 (List.mem_of_getElem? ha))
  obtain ⟨-, -, kb⟩ := kp_mem (p.mem_iff.1 (List.mem_of_getElem? hb))
  have e1 := ka.resolve_left h3
  have e2 := kb.resolve_left h4
  rw [hp, hu, e2] at e1
  have tg : S.Pairwise (fun x y => x.2 ≠ y.2) := (p.symm.pairwise_iff (fun {a b} (h : a.2 ≠ b.2) => h.symm)).1 ((kp_tags (l := l) l.length).imp (fun h => by omega))
  obtain ⟨la, ea⟩ := List.getElem?_eq_some_iff.1 ha
  obtain ⟨lb, eb⟩ := List.getElem?_eq_some_iff.1 hb
  have := List.pairwise_iff_getElem.1 tg k i la lb hki
  rw [ea, eb] at this
  omega
theorem tr_next {l : List OrV} {q : Nat} {o : OrV} (h : l[q]? = some o) : (l.take (q + 1)).countP isTr = (l.take q).countP isTr + (if o.what = 3 then 1 else 0) := by
  have hq : q < l.length := (List.getElem?_eq_some_iff.1 h).1
  have e : l[q] = o := (List.getElem?_eq_some_iff.1 h).2
  rw [List.take_succ_eq_append_getElem hq, List.countP_append, e]
  by_cases h3 : o.what = 3 <;> simp [isTr, h3]
theorem tr_le (l : List OrV) (q : Nat) : (l.take q).countP isTr ≤ q := Nat.le_trans List.countP_le_length (by rw [List.length_take]; omega)
theorem tr_most (l : List OrV) (q : Nat) : (l.take q).countP isTr ≤ l.countP isTr := (List.take_sublist q l).countP_le
def l0 : List OrV := [⟨0, 2, 1, 5⟩, ⟨0, 1, 0, 0⟩, ⟨0, 2, 1, 6⟩]
theorem l0_last : LastSays l0 [⟨0, 1, 0, 0⟩, ⟨0, 2, 1, 6⟩] := by
  refine ⟨[(⟨0, 1, 0, 0⟩, 1), (⟨0, 2, 1, 6⟩, 2)], ?_, ?_, rfl⟩
  · have e : kp l0 l0.length = [(⟨0, 1, 0, 0⟩, 1), (⟨0, 2, 1, 6⟩, 2)] := by
      show kp l0 3 = _
      simp [kp, lf, updAt, l0]
    rw [e]
  · simp [lt, klt]
end So
end Go.Proofs.Ytbomnicnoanjlaa

namespace Go.Proofs.Ytbomnicnoanjlaa
namespace So
set_option linter.unusedVariables false
/-- x may stand ahead of y. -/
def Ro2 (x y : OrV) : Prop := ¬ klt y x ∧ (¬ x.what = 3 → ¬ y.what = 3 → x.player = y.player → ¬ x.unit = y.unit)
theorem LastSays.lo {l out : List OrV} (h : LastSays l out) : out.Pairwise Ro2 := by
  rw [List.pairwise_iff_getElem]
  intro k i hk hi hki
  refine ⟨?_, fun h3 h4 hp => h.once hki (List.getElem?_eq_getElem hk) (List.getElem?_eq_getElem hi) h3 h4 hp⟩
  obtain ⟨S, p, r, rfl⟩ := h
  simp only [List.length_map] at hk hi
  have := List.pairwise_iff_getElem.1 r k i hk hi hki
  simp only [List.getElem_map]
  rcases this with h | h
  · exact klt_asym h
  · exact h.1
theorem kp_all {out : List OrV} (h : out.Pairwise Ro2) : ∀ q, q ≤ out.length → (kp out q).map Prod.fst = out.take q
  | 0, _ => by simp [kp]
  | q + 1, hq => by
    have hl : q < out.length := by omega
    obtain ⟨o, ho⟩ : ∃ o, out[q]? = some o := ⟨_, List.getElem?_eq_getElem hl⟩
    have ih := kp_all h q (by omega)
    have hc : o.what = 3 ∨ lf out out.length o.player o.unit = (q : Nat) := by
      by_cases h3 : o.what = 3
      · exact .inl h3
      · refine .inr (lf_last ho h3 hl fun k x h1 h2 hx => ?_)
        by_cases hx3 : x.what = 3
        · exact .inl hx3
        · refine .inr ?_
          have := (List.pairwise_iff_getElem.1 h q k hl h2 h1).2
          have e1 : out[q] = o := by have := List.getElem?_eq_getElem hl; rw [ho] at this; exact (Option.some.inj this).symm
          have e2 : out[k] = x := by have := List.getElem?_eq_getElem h2; rw [hx] at this; exact (Option.some.inj this).symm
          rw [e1, e2] at this
          by_cases hp : x.player = o.player
          · exact .inr (fun hu => this h3 hx3 hp.symm hu.symm)
          · exact .inl hp
    have e1 : out[q] = o := by have := List.getElem?_eq_getElem hl; rw [ho] at this; exact (Option.some.inj this).symm
    rw [kp_yes ho hc, List.map_append, ih, List.take_succ_eq_append_getElem hl, e1]
    rfl
theorem lo_last {out : List OrV} (h : out.Pairwise Ro2) : LastSays out out := by
  have e := kp_all h out.length (Nat.le_refl _)
  rw [List.take_length] at e
  refine ⟨kp out out.length, List.Perm.refl _, ?_, e.symm⟩
  have h1 := kp_tags (l := out) out.length
  have h2 : ((kp out out.length).map Prod.fst).Pairwise Ro2 := by rw [e]; exact h
  rw [List.pairwise_map] at h2
  exact (h1.and h2).imp fun ⟨a, b⟩ => .inr ⟨b.1, a⟩
theorem LastSays.again {l out : List OrV} (h : LastSays l out) : LastSays out out := lo_last h.lo
theorem LastSays.fault {l out : List OrV} (h : LastSays l out) (hf : Od.faults l = 0) : Od.faults out = 0 := by
  obtain ⟨h1, h2⟩ := Od.faults_ok hf
  exact Od.faults_of (Nat.le_trans h.len h1) fun o ho => h2 o (h.mem ho)
def l1 : List OrV := [⟨1, 7, 1, 5⟩, ⟨1, 7, 0, 0⟩]
theorem l1_last : LastSays l1 [⟨1, 7, 0, 0⟩] := by
  refine ⟨[(⟨1, 7, 0, 0⟩, 1)], ?_, by simp, rfl⟩
  have e : kp l1 l1.length = [(⟨1, 7, 0, 0⟩, 1)] := by
    show kp l1 2 = _
    simp [kp, lf, updAt, l1]
  rw [e]
theorem l1_fault : Od.faults l1 = 0 := Od.faults_of (by decide) (by intro o ho; simp [l1] at ho; rcases ho with rfl | rfl <;> (unfold Od.bad; simp only; omega))
end So
end Go.Proofs.Ytbomnicnoanjlaa

namespace Go.Proofs.Ytbomnicnoanjlaa
namespace La
open Go.Proofs.Ytbomnicnoanjlaa.So
set_option linter.unusedVariables false

/-- what a player sends for a turn. -/
def M (ls : List (List OrV)) (t : Nat) (p : Int) : List OrV := mineL p (ls.getD t [])
/-- a lock from which all was taken. -/
def la (t k : Nat) : LoV := ⟨0, t, [false, false], fun _ _ => none, k⟩
/-- a lock to which two players sent for the turns from t to s. -/
def lb (ls : List (List OrV)) (d : Int) (t s k : Nat) : LoV := ⟨d, t, [false, false], fun t' p' => if (t : Int) ≤ t' ∧ t' < (s : Int) ∧ (p' = 0 ∨ p' = 1) then some (M ls t'.toNat p') else none, k⟩
theorem la_new : lkNew 2 0 = la 0 0 := rfl
theorem lb_new (ls : List (List OrV)) (d : Int) : lkNew 2 d = lb ls d 0 0 0 := by
  unfold lkNew lb
  have : (fun (t' p' : Int) => if ((0 : Nat) : Int) ≤ t' ∧ t' < ((0 : Nat) : Int) ∧ (p' = 0 ∨ p' = 1) then some (M ls t'.toNat p') else none) = fun _ _ => none := by
    funext t' p'
    rw [if_neg (by omega)]
  rw [this]
  rfl
theorem send_ok {L : LoV} {p t : Int} {l : List OrV} (h : sendF L p t l = 0) : l.length ≤ 60 := by
  unfold sendF at h
  split at h
  · split at h
    · rename_i h1; exact (Od.faults_ok h1).1
    · rename_i h1; exact absurd h h1
  · rename_i h1; exact absurd h h1
theorem waits_two {L : LoV} (ho : L.out = [false, false]) (h0 : (L.sent L.now 0).isSome = true) (h1 : (L.sent L.now 1).isSome = true) : L.waits = [] := by
  unfold LoV.waits
  rw [ho]
  show L.waitN 2 = []
  have w0 : L.waitB 0 = false := by unfold LoV.waitB; rw [show ((0 : Nat) : Int) = 0 from rfl, h0]; simp
  have w1 : L.waitB 1 = false := by unfold LoV.waitB; rw [show ((1 : Nat) : Int) = 1 from rfl, h1]; simp
  rw [LoV.waitN, LoV.waitN, w1, w0]
  rfl
theorem ls_two {L : LoV} (ho : L.out = [false, false]) : L.ls = [(L.sent L.now 0).getD [], (L.sent L.now 1).getD []] := by
  unfold LoV.ls LoV.lsN
  rw [ho]
  rfl
/-- both sent for the turn. -/
def lf (t k : Nat) (a b : List OrV) : LoV := ((la t k).put 0 t a).put 1 t b
theorem lf0 (t k : Nat) (a b : List OrV) : (lf t k a b).sent t 0 = some a := by unfold lf LoV.put la; simp
theorem lf1 (t k : Nat) (a b : List OrV) : (lf t k a b).sent t 1 = some b := by unfold lf LoV.put la; simp
theorem lf_waits (t k : Nat) (a b : List OrV) : (lf t k a b).waits = [] := waits_two rfl (by rw [show (lf t k a b).now = (t : Int) from rfl, lf0]; rfl) (by rw [show (lf t k a b).now = (t : Int) from rfl, lf1]; rfl)
theorem lf_ls (t k : Nat) (a b : List OrV) : (lf t k a b).ls.flatten = a ++ b := by
  rw [ls_two rfl, show (lf t k a b).now = (t : Int) from rfl, lf0, lf1]
  simp
theorem lf_sent {t k : Nat} {a b : List OrV} {t' p' : Int} {l : List OrV} (h : (lf t k a b).sent t' p' = some l) : l = a ∨ l = b := by
  unfold lf LoV.put la at h
  simp only at h
  split at h
  · injection h with h; exact .inr h.symm
  · split at h
    · injection h with h; exact .inl h.symm
    · cases h
theorem lf_took (t k : Nat) (a b : List OrV) : (lf t k a b).took = la (t + 1) (k + 2) := by
  have e : (lf t k a b).took = ⟨0, ((t : Nat) : Int) + 1, [false, false], fun t' p' => if t' = (t : Int) ∧ 0 ≤ p' ∧ p' < ((2 : Nat) : Int) then none else (lf t k a b).sent t' p', k + 1 + 1⟩ := rfl
  rw [e]
  unfold la
  have : (fun (t' p' : Int) => if t' = (t : Int) ∧ 0 ≤ p' ∧ p' < ((2 : Nat) : Int) then none else (lf t k a b).sent t' p') = fun _ _ => none := by
    funext t' p'
    split
    · rfl
    · rename_i c
      unfold lf LoV.put la
      simp only
      rw [if_neg (by rintro ⟨rfl, rfl⟩; exact c ⟨rfl, by omega, by omega⟩), if_neg (by rintro ⟨rfl, rfl⟩; exact c ⟨rfl, by omega, by omega⟩)]
  rw [this]
  simp
theorem lb_put {ls : List (List OrV)} {d : Int} {t s k : Nat} (h : t ≤ s) : ((lb ls d t s k).put 1 s (M ls s 1)).put 0 s (M ls s 0) = lb ls d t (s + 1) (k + 2) := by
  unfold LoV.put lb
  simp only
  congr 1
  funext t' p'
  by_cases c0 : t' = (s : Int) ∧ p' = 0
  · obtain ⟨rfl, rfl⟩ := c0
    rw [if_pos ⟨rfl, rfl⟩, if_pos ⟨by omega, by omega, .inl rfl⟩, Int.toNat_natCast]
  · rw [if_neg c0]
    by_cases c1 : t' = (s : Int) ∧ p' = 1
    · obtain ⟨rfl, rfl⟩ := c1
      rw [if_pos ⟨rfl, rfl⟩, if_pos ⟨by omega, by omega, .inr rfl⟩, Int.toNat_natCast]
    · rw [if_neg c1]
      by_cases c2 : (t : Int) ≤ t' ∧ t' < (s : Int) ∧ (p' = 0 ∨ p' = 1)
      · rw [if_pos c2, if_pos ⟨c2.1, by omega, c2.2.2⟩]
      · rw [if_neg c2, if_neg]
        rintro ⟨x1, x2, x3⟩
        by_cases e : t' = (s : Int)
        · rcases x3 with x3 | x3
          · exact c0 ⟨e, x3⟩
          · exact c1 ⟨e, x3⟩
        · exact c2 ⟨x1, by omega, x3⟩
theorem lb_at {ls : List (List OrV)} {d : Int} {t s k : Nat} (h : t < s) {p : Int} (hp : p = 0 ∨ p = 1) : (lb ls d t s k).sent (lb ls d t s k).now p = some (M ls t p) := by
  show (if (t : Int) ≤ (t : Int) ∧ (t : Int) < (s : Int) ∧ (p = 0 ∨ p = 1) then some (M ls ((t : Nat) : Int).toNat p) else none) = _
  rw [if_pos ⟨by omega, by omega, hp⟩, Int.toNat_natCast]
theorem lb_waits {ls : List (List OrV)} {d : Int} {t s k : Nat} (h : t < s) : (lb ls d t s k).waits = [] := waits_two rfl (by rw [lb_at h (.inl rfl)]; rfl) (by rw [lb_at h (.inr rfl)]; rfl)
theorem lb_ls {ls : List (List OrV)} {d : Int} {t s k : Nat} (h : t < s) : (lb ls d t s k).ls.flatten = M ls t 0 ++ M ls t 1 := by
  rw [ls_two rfl, lb_at h (.inl rfl), lb_at h (.inr rfl)]
  simp
theorem lb_sent {ls : List (List OrV)} {d : Int} {t s k : Nat} {t' p' : Int} {l : List OrV} (h : (lb ls d t s k).sent t' p' = some l) : ∃ i : Nat, t ≤ i ∧ i < s ∧ (l = M ls i 0 ∨ l = M ls i 1) := by
  unfold lb at h
  simp only at h
  split at h
  · rename_i c
    injection h with h
    refine ⟨t'.toNat, by omega, by omega, ?_⟩
    rcases c.2.2 with rfl | rfl
    · exact .inl h.symm
    · exact .inr h.symm
  · cases h
theorem lb_took {ls : List (List OrV)} {d : Int} {t s k : Nat} : (lb ls d t s k).took = lb ls d (t + 1) s k := by
  have e : (lb ls d t s k).took = ⟨d, ((t : Nat) : Int) + 1, [false, false], fun t' p' => if t' = (t : Int) ∧ 0 ≤ p' ∧ p' < ((2 : Nat) : Int) then none else (lb ls d t s k).sent t' p', k⟩ := rfl
  rw [e]
  unfold lb
  simp only
  have : (fun (t' p' : Int) => if t' = (t : Int) ∧ 0 ≤ p' ∧ p' < ((2 : Nat) : Int) then none else (if (t : Int) ≤ t' ∧ t' < (s : Int) ∧ (p' = 0 ∨ p' = 1) then some (M ls t'.toNat p') else none)) = fun t' p' => if ((t + 1 : Nat) : Int) ≤ t' ∧ t' < (s : Int) ∧ (p' = 0 ∨ p' = 1) then some (M ls t'.toNat p') else none := by
    funext t' p'
    by_cases c : t' = (t : Int) ∧ 0 ≤ p' ∧ p' < ((2 : Nat) : Int)
    · rw [if_pos c, if_neg (by omega)]
    · rw [if_neg c]
      by_cases c2 : (t : Int) ≤ t' ∧ t' < (s : Int) ∧ (p' = 0 ∨ p' = 1)
      · rw [if_pos c2, if_pos]
        refine ⟨?_, c2.2⟩
        by_cases e : t' = (t : Int)
        · exact absurd ⟨e, by omega, by omega⟩ c
        · omega
      · rw [if_neg c2, if_neg (fun x => c2 ⟨by omega, x.2⟩)]
  rw [this]
  simp
/-- the fact. -/
def o3 : OrV := ⟨0, 3, 0, 0⟩
theorem f_send : sendF (lkNew 1 0) 0 0 [o3] = 0 := by decide
theorem f_waits : ((lkNew 1 0).put 0 0 [o3]).waits = [] := by decide
theorem f_ls : ((lkNew 1 0).put 0 0 [o3]).ls.flatten = [o3] := by rfl
theorem f_ok : Od.faults [o3] = 0 := by decide
theorem f_last : LastSays [o3] [o3] := lo_last (by simp [Ro2])
end La
end Go.Proofs.Ytbomnicnoanjlaa

namespace Go.Proofs.Ytbomnicnoanjlaa
open Go.RowKit
set_option linter.unusedVariables false

set_option maxRecDepth 100000 in
set_option maxHeartbeats 4000000 in
theorem orders_like (u v : Value) (ks : List OrV) (w : World) (hu : Orl w u ks) (hv : Orl w v ks) :
    Calls Try.prog 9 #[u, v] w fun e w' => e = .returned (.bool true) ∧ Below w.heap.size w w' := by
  obtain ⟨a, c, rfl, hc1, hc2, ha⟩ := hu
  obtain ⟨b, d, rfl, hd1, hd2, hb⟩ := hv
  have Ha : Hid (ks ≠ [] → ∃ x, a = some x ∧ x.block < w.heap.size ∧ ∀ (i : Nat) k, ks[i]? = some k → Orc w (x.add (i * 4)) k) := ha
  have Hb : Hid (ks ≠ [] → ∃ x, b = some x ∧ x.block < w.heap.size ∧ ∀ (i : Nat) k, ks[i]? = some k → Orc w (x.add (i * 4)) k) := hb
  clear ha hb
  go_enter Try.func9, Try.ntmps9
  go_wp2
  go_loopw [5] (fun i W' => ∃ k : Nat, k ≤ ks.length ∧ i = .int .i64 (k : Nat) ∧ ∃ n, W' = w.drewN n) (fun i _ => ks.length - (intOf i).toNat)
  case atStart => exact ⟨0, Nat.zero_le _, rfl, 0, rfl⟩
  case round =>
    obtain ⟨k, hk, rfl, n, rfl⟩ := hrel
    by_cases h0 : k = ks.length
    · subst h0
      have B : Hid (Below w.heap.size w (w.drewN n)) := ⟨rfl, rfl, rfl, Nat.le_refl _, fun _ _ => rfl⟩
      go_wp2
      go_ret
      exact ⟨rfl, B⟩
    · have hlt : k < ks.length := by omega
      have hlti : ((k : Nat) : Int) < (ks.length : Nat) := by omega
      obtain ⟨o, ho⟩ : ∃ o, ks[k]? = some o := ⟨_, List.getElem?_eq_getElem hlt⟩
      have hne : ks ≠ [] := by rintro rfl; simp at hlt
      obtain ⟨x, rfl, hx, hxc⟩ := Ha.out hne
      obtain ⟨y, rfl, hy, hyc⟩ := Hb.out hne
      have cx := hxc k o ho
      have cy := hyc k o ho
      obtain ⟨q0, q1, q2, q3⟩ := cx
      obtain ⟨r0, r1, r2, r3⟩ := cy
      clear hxc hyc hne ho
      go_wp2
      go_quiet (fail)
      go_wp2
      go_round
      case rel => exact ⟨k + 1, by omega, by go_num, n + nq, rfl⟩
      case measure => simp [intOf]; omega
end Go.Proofs.Ytbomnicnoanjlaa

