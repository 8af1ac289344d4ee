/- works.Spot: where a new unit would come. · works.Train as mathematics: who waits, who comes, who stays. · Spot and Train have one answer. Plain mathematics. · Ways: who flies gets there no later; a way's steps; two small fields. Plain mathematics. · What may be reached, and the ways there: plain mathematics. · Where a new one comes: how near it is. Plain mathematics. · The reference's Spot as mathematics: the nearest free cell, the first of equals. · The reference's Train as mathematics: what a job of a right world asks. · What stays while jobs are looked at. · The reference's Train: what stays while jobs are looked at. · path.From: how far it is from a cell to each. · slices.DeleteFunc of units. · slices.MinFunc of units. · move.home's two functions; move.isDone. · slices.Clone of units. · A region that draws its order, in which one operation (A: what makes memory for an answer) may come at any time beside calls in one order and what reads. -/
import Derived.Test.YteieikgkmfglaaaGreatDoorZTurnGives12
import Derived.Test.YteieikgkmfglaaaGreatDoorZTurnGives4
import Derived.Test.YteieikgkmfglaaaGreatDoorZTurnGives7
import Derived.Test.YteieikgkmfglaaaGreatDoorZTurnGives10
import Derived.Test.YteieikgkmfglaaaGreatDoorZTurnGives5
import Derived.Test.YteieikgkmfglaaaGreatDoorZTurnGives1
import Derived.Test.YteieikgkmfglaaaGreatDoorZTurnGives9
import Derived.Laws.CopyRow
import Derived.Lib.SliceRun
import Derived.Deep.DeepCutAuto
import Derived.BigQuiet
namespace Go.Proofs.YteieikgkmfglaaaGreatDoor
open Go.RowKit Wy
set_option linter.unusedVariables false

/-- nobody is on a cell. -/
def freeAt (us : List UnV) (x : Int) : Bool := !us.any (fun u => u.at_ == x)
/-- what Spot tells. -/
def SpotSays (ks : List KV) (X : WV) (unit kind c F : Int) : Prop :=
  (Wd.wfault ks X ≠ 0 ∧ F = Wd.wfault ks X ∧ c = 0) ∨ (Wd.wfault ks X = 0 ∧ X.us.any (fun u => u.id == unit) = false ∧ F = 6 ∧ c = 0)
  ∨ (Wd.wfault ks X = 0 ∧ X.us.any (fun u => u.id == unit) = true ∧ ¬ (0 ≤ kind ∧ kind < (ks.length : Int)) ∧ F = 1 ∧ c = 0)
  ∨ (Wd.wfault ks X = 0 ∧ ∃ (i kn Wn Hn an : Nat) (u : UnV) (k : KV) (l : List Int), FstU (fun u => u.id == unit) X.us (i : Nat) ∧ X.us[i]? = some u ∧ kind = (kn : Nat) ∧ ks[kn]? = some k ∧ X.wide = (Wn : Nat) ∧ X.high = (Hn : Nat) ∧ Fd.Good Wn Hn X.gs X.os ∧ u.at_ = (an : Nat) ∧ an < Wn * Hn
      ∧ IsFar (Fd.near Wn Hn) (fun i _ => (X.gs.map fun g => Fd.onto g k.f).getD i 0) an (Wn * Hn) l ∧ NearSays l (Wn * Hn) (freeAt X.us) c F)
set_option maxRecDepth 100000 in
set_option maxHeartbeats 16000000 in
theorem spot_any (vk vw : Value) (ks : List KV) (X : WV) (unit kind : Int) (w : World) (hk : Kl w vk ks) (hb : ∀ k ∈ ks, k.b.size ≤ 9223372036854775807) (hw : Wl w vw X) (hs : Sd w) :
    Calls Tryz.prog 16 #[vk, vw, .int .i64 unit, .int .i64 kind] w fun e w' => ∃ c r F, e = .returned (.tuple #[.int .i64 c, r]) ∧ Er r F ∧ SpotSays ks X unit kind c F ∧ Below w.heap.size w w' := by
  have K : Hid (Kl w vk ks ∧ ∀ k ∈ ks, k.b.size ≤ 9223372036854775807) := ⟨hk, hb⟩
  have H : Hid (Wl w vw X) := hw
  have S : Hid (Sd w) := hs
  obtain ⟨p1, q1, p2, q2, p3, q3, p4, q4, p5, q5, rfl⟩ := wl_shape9 hw
  obtain ⟨pk, qk, rfl, ck1, ck2, kc⟩ := hk
  have KC : Hid (ks ≠ [] → ∃ x, pk = some x ∧ x.block < w.heap.size ∧ ∀ (i : Nat) k, ks[i]? = some k → Kc w (x.add (i * 11)) k) := kc
  clear hb hw hs kc
  go_enter Tryz.func16, Tryz.ntmps16
  go_upto_region 1 with fail
  have B0 : Hid (Below w.heap.size w (w.alloc (Obj.cells #[.int .i64 X.turn, .int .i64 X.next, .int .i64 X.wide, .int .i64 X.high, .slice p1 X.gs.length q1, .slice p2 X.os.length q2, .slice p3 X.gold.length q3, .slice p4 X.us.length q4, .slice p5 X.qs.length q5] 29))) := (Below.refl _ _).alloc (Nat.le_refl _) _
  have X0 : Hid (Bw (w.alloc (Obj.cells #[.int .i64 X.turn, .int .i64 X.next, .int .i64 X.wide, .int .i64 X.high, .slice p1 X.gs.length q1, .slice p2 X.os.length q2, .slice p3 X.gold.length q3, .slice p4 X.us.length q4, .slice p5 X.qs.length q5] 29)) w.heap.size X (.slice p1 X.gs.length q1) (.slice p2 X.os.length q2) (.slice p3 X.gold.length q3) (.slice p4 X.us.length q4) (.slice p5 X.qs.length q5)) := Bw.mk' X _ _ _ _ _ rfl
  generalize (w.alloc (Obj.cells #[.int .i64 X.turn, .int .i64 X.next, .int .i64 X.wide, .int .i64 X.high, .slice p1 X.gs.length q1, .slice p2 X.os.length q2, .slice p3 X.gold.length q3, .slice p4 X.us.length q4, .slice p5 X.qs.length q5] 29)) = w0 at *
  obtain ⟨x0, x1, x2, x3, x4, x5, x6, x7, x8⟩ := X0.out
  go_wp2_with fail
  refine (wcheck_any _ _ ks X w0 (K.out.1.below B0.out) K.out.2 (H.out.below B0.out)).mono ?_
  rintro e w1 ⟨r, rfl, hr, hb⟩
  obtain ⟨fw, hfw⟩ : ∃ f, Wd.wfault ks X = f := ⟨_, rfl⟩
  have FW : Hid (Wd.wfault ks X = fw) := hfw
  rw [hfw] at hr
  have B1 : Hid (Below w.heap.size w w1) := B0.out.trans (hb.mono B0.out.size)
  have X1 : Hid (Bw w1 w.heap.size X (.slice p1 X.gs.length q1) (.slice p2 X.os.length q2) (.slice p3 X.gold.length q3) (.slice p4 X.us.length q4) (.slice p5 X.qs.length q5)) := X0.out.below hb X0.out.lt
  clear hb hfw x0 x1 x2 x3 x4 x5 x6 x7 x8 X0 B0
  rcases hr with ⟨rfl, rfl⟩ | ⟨hf, rfl⟩
  case inr =>
    have HF : Hid (fw ≠ 0) := hf
    clear hf
    go_wp2
    go_ret2
    exact ⟨0, _, fw, rfl, Er.no HF.out, .inl (by rw [FW.out]; exact ⟨HF.out, rfl, rfl⟩), B1.out⟩
  obtain ⟨x0, x1, x2, x3, x4, x5, x6, x7, x8⟩ := X1.out
  go_wp2_with fail
  refine (wfind_any _ X unit w1 (H.out.below B1.out)).mono ?_
  rintro e w2 ⟨r, rfl, hf, hb⟩
  have B2 : Hid (Below w.heap.size w w2) := B1.out.trans (hb.mono B1.out.size)
  have X2 : Hid (Bw w2 w.heap.size X (.slice p1 X.gs.length q1) (.slice p2 X.os.length q2) (.slice p3 X.gold.length q3) (.slice p4 X.us.length q4) (.slice p5 X.qs.length q5)) := X1.out.below hb X1.out.lt
  have FI : Hid (FstU (fun u => u.id == unit) X.us r) := hf
  clear hb x0 x1 x2 x3 x4 x5 x6 x7 x8 X1 B1
  rcases hf with ⟨rfl, hno⟩ | ⟨i, u, rfl, hi, hid, -⟩
  · have NO : Hid (X.us.any (fun u => u.id == unit) = false) := hno
    clear hno
    go_wp2
    go_ret2
    exact ⟨0, _, 6, rfl, Er.no (by decide), .inr (.inl ⟨FW.out, NO.out, rfl, rfl⟩), B2.out⟩
  have AN : Hid (X.us.any (fun u => u.id == unit) = true) := List.any_eq_true.2 ⟨u, List.mem_of_getElem? hi, hid⟩
  have UI : Hid (X.us[i]? = some u) := hi
  have hil : i < X.us.length := (List.getElem?_eq_some_iff.1 hi).1
  clear hi hid
  by_cases hk0 : kind < 0
  · go_wp2
    go_ret2
    exact ⟨0, _, 1, rfl, Er.no (by decide), .inr (.inr (.inl ⟨FW.out, AN.out, by omega, rfl, rfl⟩)), B2.out⟩
  by_cases hk1 : (ks.length : Int) ≤ kind
  · go_wp2
    go_ret2
    exact ⟨0, _, 1, rfl, Er.no (by decide), .inr (.inr (.inl ⟨FW.out, AN.out, by omega, rfl, rfl⟩)), B2.out⟩
  obtain ⟨kn, rfl⟩ : ∃ n : Nat, kind = n := ⟨kind.toNat, by omega⟩
  have hkl : kn < ks.length := by omega
  obtain ⟨k, hkk⟩ : ∃ k, ks[kn]? = some k := ⟨_, List.getElem?_eq_getElem hkl⟩
  have WR : Hid (WRight ks X) := wright_of FW.out
  obtain ⟨Wn, Hn, e1, e2, G⟩ := WR.out.good
  obtain ⟨k0, fu⟩ := WR.out.fine UI.out
  have hat := fu.at_
  obtain ⟨an, han⟩ : ∃ n : Nat, u.at_ = n := ⟨u.at_.toNat, by omega⟩
  have GD : Hid (X.wide = (Wn : Nat) ∧ X.high = (Hn : Nat) ∧ Fd.Good Wn Hn X.gs X.os ∧ u.at_ = (an : Nat) ∧ an < Wn * Hn ∧ ks[kn]? = some k) := ⟨e1, e2, G, han, by have := G.gl; omega, hkk⟩
  obtain ⟨pa, pc, he, -, -, hu⟩ := H.out.slices.2.2.2.1
  obtain ⟨xu, hxu, hxul, hxuc⟩ := hu (by intro h; rw [h] at hil; simp at hil)
  injection he with he1 he2 he3
  subst he1
  subst hxu
  obtain ⟨xk, hxk, hxl, hxc⟩ := KC.out (by intro h; subst h; simp at hkl)
  subst hxk
  have UK : Hid (Unc w (xu.add (i * 8)) u ∧ (xu.add (i * 8)).block < w.heap.size ∧ Kc w (xk.add (kn * 11)) k ∧ (xk.add (kn * 11)).block < w.heap.size) := ⟨hxuc i u UI.out, by rw [add_block]; exact hxul, hxc kn k hkk, by rw [add_block]; exact hxl⟩
  clear hu he2 he3 hxul hxuc hxl hxc e1 e2 G fu hat hkk KC han
  go_upto_region 10 with fail
  refine wp_region_two [(true, 0), (true, 1), (true, 2), (true, 3), (true, 4), (true, 5), (true, 6), (true, 7), (true, 8), (true, 9), (true, 10), (true, 11), (true, 12), (true, 13), (false, 14)] [(true, 15), (true, 16), (true, 17), (false, 18)] (fun V => Bw V w.heap.size X (.slice p1 X.gs.length q1) (.slice p2 X.os.length q2) (.slice p3 X.gold.length q3) (.slice (some xu) X.us.length q4) (.slice p5 X.qs.length q5) ∧ V.cell? ⟨(xu.add (i * 8)).block, (xu.add (i * 8)).off + 3, none⟩ = some (.int .i64 u.at_) ∧ V.cell? ⟨(xk.add (kn * 11)).block, (xk.add (kn * 11)).off + 9, none⟩ = some (.bool k.f)) (by kernel_rfl) (by kernel_rfl) (by kernel_rfl) (by decide +kernel) (by decide +kernel) ?_ ?_
  · exact ⟨X2.out.below ((Below.refl _ _).drew) X2.out.lt, (UK.out.1.below B2.out UK.out.2.1).c3, (UK.out.2.2.1.below B2.out UK.out.2.2.2).c9⟩
  have X3 : Hid (Bw { w2 with drawn := w2.drawn + 1 } w.heap.size X (.slice p1 X.gs.length q1) (.slice p2 X.os.length q2) (.slice p3 X.gold.length q3) (.slice (some xu) X.us.length q4) (.slice p5 X.qs.length q5)) := X2.out.below ((Below.refl _ _).drew) X2.out.lt
  have B3 : Hid (Below w.heap.size w { w2 with drawn := w2.drawn + 1 }) := B2.out.drew
  generalize ({ w2 with drawn := w2.drawn + 1 } : World) = w3 at *
  clear X2 B2
  refine headT_read rfl (.pointer (some ⟨w.heap.size, 2, none⟩)) (by go_simp) (fun V hV => by go_simp) ?_
  go_simp
  refine headT_read rfl (.agg #[.int .i64 X.wide, .int .i64 X.high, .slice p1 X.gs.length q1, .slice p2 X.os.length q2]) (by go_simp) (fun V hV => by obtain ⟨⟨x0, x1, x2, x3, x4, x5, x6, x7, x8⟩, cu, ck⟩ := hV; go_simp) ?_
  go_simp
  refine headT_read rfl (.pointer (some ⟨w.heap.size, 7, none⟩)) (by go_simp) (fun V hV => by go_simp) ?_
  go_simp
  refine headT_read rfl (.slice (some xu) X.us.length q4) (by go_simp) (fun V hV => by obtain ⟨⟨x0, x1, x2, x3, x4, x5, x6, x7, x8⟩, cu, ck⟩ := hV; go_simp) ?_
  go_simp
  refine headT_read rfl (.int .i64 (i : Nat)) (by go_simp) (fun V hV => by go_simp) ?_
  go_simp
  refine headT_read rfl (.pointer (some (xu.add (i * 8)))) (by go_simp) (fun V hV => by go_simp) ?_
  go_simp
  refine headT_read rfl (.pointer (some ⟨(xu.add (i * 8)).block, (xu.add (i * 8)).off + 3, none⟩)) (by go_simp) (fun V hV => by go_simp) ?_
  go_simp
  refine headT_read rfl (.int .i64 u.at_) (by go_simp) (fun V hV => by obtain ⟨⟨x0, x1, x2, x3, x4, x5, x6, x7, x8⟩, cu, ck⟩ := hV; go_simp) ?_
  go_simp
  refine headT_read rfl (.slice (some xk) ks.length qk) (by go_simp) (fun V hV => by go_simp) ?_
  go_simp
  refine headT_read rfl (.int .i64 (kn : Nat)) (by go_simp) (fun V hV => by go_simp) ?_
  go_simp
  refine headT_read rfl (.pointer (some (xk.add (kn * 11)))) (by go_simp) (fun V hV => by go_simp) ?_
  go_simp
  refine headT_read rfl (.pointer (some ⟨(xk.add (kn * 11)).block, (xk.add (kn * 11)).off + 9, none⟩)) (by go_simp) (fun V hV => by go_simp) ?_
  go_simp
  refine headT_read rfl (.bool k.f) (by go_simp) (fun V hV => by obtain ⟨⟨x0, x1, x2, x3, x4, x5, x6, x7, x8⟩, cu, ck⟩ := hV; go_simp) ?_
  go_simp
  refine headT_read rfl (.func (Fn.func 41) #[] #[.pointer (some ⟨w.heap.size, 0, none⟩)]) (by go_simp) (fun V hV => by go_simp) ?_
  go_simp
  refine headT_call rfl 44 #[.agg #[.int .i64 X.wide, .int .i64 X.high, .slice p1 X.gs.length q1, .slice p2 X.os.length q2], .int .i64 u.at_, .bool k.f, .func (Fn.func 41) #[] #[.pointer (some ⟨w.heap.size, 0, none⟩)]] (by go_simp) (by go_simp) ?_
  have FL : Hid (Fl w3 (.agg #[.int .i64 X.wide, .int .i64 X.high, .slice p1 X.gs.length q1, .slice p2 X.os.length q2]) (Wn : Nat) (Hn : Nat) X.gs X.os) := by
    have := fl_of (H.out.below B3.out)
    rw [GD.out.1, GD.out.2.1] at this
    rw [GD.out.1, GD.out.2.1]
    exact this
  have UL : Hid (Unl w (.slice (some xu) X.us.length q4) X.us) := H.out.slices.2.2.2.1
  rw [GD.out.2.2.2.1]
  refine (nearest_ok 41 (by intro args w; go_simp) #[.pointer (some ⟨w.heap.size, 0, none⟩)] (freeAt X.us) _ Wn Hn X.gs X.os an k.f w3 FL.out (S.out.below B3.out) GD.out.2.2.1 GD.out.2.2.2.2.1
    (fun V hV x => free_any X.us x w.heap.size _ V (X3.out.below hV X3.out.lt).c7 ((UL.out.below B3.out).below hV))).mono ?_
  rintro e w4 ⟨l, c, r, F, rfl, hl, hr, hn, hb⟩
  have B4 : Hid (Below w.heap.size w w4) := B3.out.trans (hb.mono B3.out.size)
  have X4 : Hid (Bw w4 w.heap.size X (.slice p1 X.gs.length q1) (.slice p2 X.os.length q2) (.slice p3 X.gold.length q3) (.slice (some xu) X.us.length q4) (.slice p5 X.qs.length q5)) := X3.out.below hb X3.out.lt
  have NS : Hid (IsFar (Fd.near Wn Hn) (fun i _ => (X.gs.map fun g => Fd.onto g k.f).getD i 0) an (Wn * Hn) l ∧ Er r F ∧ NearSays l (Wn * Hn) (freeAt X.us) c F) := ⟨hl, hr, hn⟩
  refine ⟨_, rfl, ⟨X4.out, (by have := (UK.out.1.below B4.out UK.out.2.1).c3; rw [GD.out.2.2.2.1] at this; exact this), (UK.out.2.2.1.below B4.out UK.out.2.2.2).c9⟩, ?_⟩
  clear hb hl hr hn X3 B3 FL
  go_simp
  refine sched_read rfl (.int .i64 c) (by go_simp) (fun V hV => by go_simp) ?_
  go_simp
  refine sched_read rfl r (by go_simp) (fun V hV => by go_simp) ?_
  go_simp
  refine sched_read rfl (.int .i64 c) (by go_simp) (fun V hV => by go_simp) ?_
  go_simp
  refine sched_value rfl r w4 (by go_simp) (by go_simp) trivial ?_
  go_simp
  unfold wpSched
  go_wp2
  go_ret2
  exact ⟨c, r, F, rfl, NS.out.2.1, .inr (.inr (.inr ⟨FW.out, i, kn, Wn, Hn, an, u, k, l, FI.out, UI.out, rfl, GD.out.2.2.2.2.2, GD.out.1, GD.out.2.1, GD.out.2.2.1, GD.out.2.2.2.1, GD.out.2.2.2.2.1, NS.out.1, NS.out.2.2⟩)), B4.out⟩
end Go.Proofs.YteieikgkmfglaaaGreatDoor

namespace Go.Proofs.YteieikgkmfglaaaGreatDoor
set_option linter.unusedVariables false

def cntU (l : List JbV) (u : Int) : Nat := l.countP (fun j => decide (j.unit = u))
theorem cntU_next {l : List JbV} {q : Nat} {j : JbV} (h : l[q]? = some j) (u : Int) : cntU (l.take (q + 1)) u = cntU (l.take q) u + if j.unit = u then 1 else 0 := by
  unfold cntU
  rw [List.take_add_one, h, List.countP_append]
  simp [List.countP_cons]
/-- a job, one turn later, if none ahead is of its unit. -/
def dec1 (l : List JbV) (j : JbV) : JbV := if cntU l j.unit = 0 then { j with left := j.left - 1 } else j
def one1 (j : JbV) : JbV := { j with left := 1 }
def Comes (ks : List KV) (Y : WV) (j : JbV) (c : Int) : Prop := SpotSays ks Y j.unit j.kind c 0 ∧ Wd.placeFault ks Y j.player j.kind c = 0
def NoCome (ks : List KV) (Y : WV) (j : JbV) : Prop := ∃ c F, SpotSays ks Y j.unit j.kind c F ∧ (F ≠ 0 ∨ Wd.placeFault ks Y j.player j.kind c ≠ 0)
/-- the first q jobs are looked at: the world by then, what happened, which jobs are left. -/
inductive Tr (ks : List KV) (X : WV) : Nat → WV → List EvV → List JbV → Prop
  | zero : Tr ks X 0 X [] []
  | wait {q : Nat} {Y : WV} {es : List EvV} {qs : List JbV} {j : JbV} : Tr ks X q Y es qs → X.qs[q]? = some j → (dec1 (X.qs.take q) j).left ≠ 0 → Tr ks X (q + 1) Y es (qs ++ [dec1 (X.qs.take q) j])
  | come {q : Nat} {Y : WV} {es : List EvV} {qs : List JbV} {j : JbV} {c : Int} : Tr ks X q Y es qs → X.qs[q]? = some j → (dec1 (X.qs.take q) j).left = 0 → Comes ks Y j c → Tr ks X (q + 1) (Wd.put ks Y j.player j.kind c) (es ++ [⟨6, Y.next, c⟩]) qs
  | stay {q : Nat} {Y : WV} {es : List EvV} {qs : List JbV} {j : JbV} : Tr ks X q Y es qs → X.qs[q]? = some j → (dec1 (X.qs.take q) j).left = 0 → NoCome ks Y j → Tr ks X (q + 1) Y es (qs ++ [one1 j])
theorem Tr.keep {ks : List KV} {X : WV} (h : WRight ks X) {q : Nat} {Y : WV} {es : List EvV} {qs : List JbV} (t : Tr ks X q Y es qs) : WRight ks Y ∧ Y.qs = X.qs ∧ es.length ≤ q ∧ qs.length ≤ q ∧ Y.turn = X.turn ∧ Y.wide = X.wide ∧ Y.high = X.high ∧ Y.gs = X.gs ∧ Y.os = X.os ∧ Y.gold = X.gold := by
  induction t with
  | zero => exact ⟨h, rfl, by simp, by simp, rfl, rfl, rfl, rfl, rfl, rfl⟩
  | wait _ _ _ ih =>
    obtain ⟨i1, i2, i3, i4, i5⟩ := ih
    exact ⟨i1, i2, by omega, by simp; omega, i5⟩
  | come _ _ _ hc ih =>
    obtain ⟨i1, i2, i3, i4, i5⟩ := ih
    exact ⟨wright_of (put_right i1 hc.2), i2, by simp; omega, by omega, i5⟩
  | stay _ _ _ _ ih =>
    obtain ⟨i1, i2, i3, i4, i5⟩ := ih
    exact ⟨i1, i2, by omega, by simp; omega, i5⟩
end Go.Proofs.YteieikgkmfglaaaGreatDoor

namespace Go.Proofs.YteieikgkmfglaaaGreatDoor
open Wy
set_option linter.unusedVariables false

theorem near_uniq {l : List Int} {n : Nat} {p : Int → Bool} {c F c' F' : Int} (h : NearSays l n p c F) (h' : NearSays l n p c' F') : c = c' ∧ F = F' := by
  have no : ∀ {m k : Nat} {c : Int}, (rch l m n)[k]? = some c → p c = true → (rch l m n).any p = false → False := fun hk hp ha => by
    rw [List.any_eq_false] at ha
    exact ha _ (List.mem_of_getElem? hk) hp
  rcases h with ⟨e1, e2, h⟩ | ⟨e1, m, k, hm, hk, hp, ht, hj⟩
  · rcases h' with ⟨f1, f2, h'⟩ | ⟨f1, m', k', hm', hk', hp', ht', hj'⟩
    · exact ⟨by rw [e2, f2], by rw [e1, f1]⟩
    · exact (no hk' hp' (h m' hm')).elim
  · rcases h' with ⟨f1, f2, h'⟩ | ⟨f1, m', k', hm', hk', hp', ht', hj'⟩
    · exact (no hk hp (h' m hm)).elim
    · have em : m = m' := by
        rcases Nat.lt_trichotomy m m' with hl | hl | hl
        · exact (no hk hp (hj' m hl)).elim
        · exact hl
        · exact (no hk' hp' (hj m' hl)).elim
      subst em
      have ek : k = k' := by
        rcases Nat.lt_trichotomy k k' with hl | hl | hl
        · rw [List.any_eq_false] at ht'
          exact (ht' c (List.mem_of_getElem? (i := k) (by rw [List.getElem?_take, if_pos hl]; exact hk)) hp).elim
        · exact hl
        · rw [List.any_eq_false] at ht
          exact (ht c' (List.mem_of_getElem? (i := k') (by rw [List.getElem?_take, if_pos hl]; exact hk')) hp').elim
      subst ek
      rw [hk] at hk'
      injection hk' with e
      exact ⟨e, by rw [e1, f1]⟩
theorem fstu_nat {p : UnV → Bool} {us : List UnV} {i : Nat} (h : FstU p us (i : Nat)) : ∃ x, us[i]? = some x ∧ p x = true ∧ (us.take i).any p = false := by
  rcases h with ⟨e, -⟩ | ⟨k, x, e, h1, h2, h3⟩
  · omega
  · obtain rfl : i = k := by omega
    exact ⟨x, h1, h2, h3⟩
theorem fstu_uniq {p : UnV → Bool} {us : List UnV} {i j : Nat} (h : FstU p us (i : Nat)) (k : FstU p us (j : Nat)) : i = j := by
  obtain ⟨x, x1, x2, x3⟩ := fstu_nat h
  obtain ⟨y, y1, y2, y3⟩ := fstu_nat k
  rcases Nat.lt_trichotomy i j with hl | hl | hl
  · rw [List.any_eq_false] at y3
    exact (y3 x (List.mem_of_getElem? (i := i) (by rw [List.getElem?_take, if_pos hl]; exact x1)) x2).elim
  · exact hl
  · rw [List.any_eq_false] at x3
    exact (x3 y (List.mem_of_getElem? (i := j) (by rw [List.getElem?_take, if_pos hl]; exact y1)) y2).elim
theorem spot_uniq {ks : List KV} {X : WV} {unit kind c F c' F' : Int} (h : SpotSays ks X unit kind c F) (h' : SpotSays ks X unit kind c' F') : c = c' ∧ F = F' := by
  have last : ∀ {c F : Int}, (∃ (i kn Wn Hn an : Nat) (u : UnV) (k : KV) (l : List Int), FstU (fun u => u.id == unit) X.us (i : Nat) ∧ X.us[i]? = some u ∧ kind = (kn : Nat) ∧ ks[kn]? = some k ∧ X.wide = (Wn : Nat) ∧ X.high = (Hn : Nat) ∧ Fd.Good Wn Hn X.gs X.os ∧ u.at_ = (an : Nat) ∧ an < Wn * Hn
      ∧ Wy.IsFar (Fd.near Wn Hn) (fun i _ => (X.gs.map fun g => Fd.onto g k.f).getD i 0) an (Wn * Hn) l ∧ NearSays l (Wn * Hn) (freeAt X.us) c F) → X.us.any (fun u => u.id == unit) = true ∧ (0 ≤ kind ∧ kind < (ks.length : Int)) := by
    rintro c F ⟨i, kn, Wn, Hn, an, u, k, l, h1, h2, h3, h4, -⟩
    obtain ⟨x, x1, x2, -⟩ := fstu_nat h1
    refine ⟨List.any_eq_true.2 ⟨x, List.mem_of_getElem? x1, x2⟩, by omega, ?_⟩
    have := (List.getElem?_eq_some_iff.1 h4).1
    omega
  rcases h with ⟨a1, a2, a3⟩ | ⟨a1, a2, a3, a4⟩ | ⟨a1, a2, a3, a4, a5⟩ | ⟨a1, a⟩
  · rcases h' with ⟨b1, b2, b3⟩ | ⟨b1, -⟩ | ⟨b1, -⟩ | ⟨b1, -⟩
    · exact ⟨by rw [a3, b3], by rw [a2, b2]⟩
    all_goals exact absurd b1 a1
  · rcases h' with ⟨b1, b2, b3⟩ | ⟨b1, b2, b3, b4⟩ | ⟨b1, b2, b3, b4, b5⟩ | ⟨b1, b⟩
    · exact absurd a1 b1
    · exact ⟨by rw [a4, b4], by rw [a3, b3]⟩
    · rw [a2] at b2; cases b2
    · have := (last b).1; rw [a2] at this; cases this
  · rcases h' with ⟨b1, b2, b3⟩ | ⟨b1, b2, b3, b4⟩ | ⟨b1, b2, b3, b4, b5⟩ | ⟨b1, b⟩
    · exact absurd a1 b1
    · rw [a2] at b2; cases b2
    · exact ⟨by rw [a5, b5], by rw [a4, b4]⟩
    · exact absurd (last b).2 a3
  · rcases h' with ⟨b1, b2, b3⟩ | ⟨b1, b2, b3, b4⟩ | ⟨b1, b2, b3, b4, b5⟩ | ⟨b1, b⟩
    · exact absurd a1 b1
    · have := (last a).1; rw [b2] at this; cases this
    · exact absurd (last a).2 b3
    · obtain ⟨i, kn, Wn, Hn, an, u, k, l, h1, h2, h3, h4, h5, h6, -, h8, -, h10, h11⟩ := a
      obtain ⟨i', kn', Wn', Hn', an', u', k', l', g1, g2, g3, g4, g5, g6, -, g8, -, g10, g11⟩ := b
      obtain rfl := fstu_uniq h1 g1
      rw [h2] at g2
      injection g2 with e
      subst e
      obtain rfl : kn = kn' := by omega
      rw [h4] at g4
      injection g4 with e
      subst e
      obtain rfl : Wn = Wn' := by omega
      obtain rfl : Hn = Hn' := by omega
      obtain rfl : an = an' := by omega
      obtain rfl := Wy.IsFar.uniq h10 g10
      exact near_uniq h11 g11
theorem comes_one {ks : List KV} {Y : WV} {j : JbV} {c c' : Int} (h : Comes ks Y j c) (h' : Comes ks Y j c') : c = c' := (spot_uniq h.1 h'.1).1
theorem comes_not {ks : List KV} {Y : WV} {j : JbV} {c : Int} (h : Comes ks Y j c) (h' : NoCome ks Y j) : False := by
  obtain ⟨c', F, h1, h2⟩ := h'
  obtain ⟨rfl, rfl⟩ := spot_uniq h.1 h1
  rcases h2 with h2 | h2
  · exact h2 rfl
  · exact h2 h.2
theorem tr_uniq {ks : List KV} {X : WV} {q : Nat} {Y : WV} {es : List EvV} {qs : List JbV} (t : Tr ks X q Y es qs) : ∀ {Y' : WV} {es' : List EvV} {qs' : List JbV}, Tr ks X q Y' es' qs' → Y = Y' ∧ es = es' ∧ qs = qs' := by
  induction t with
  | zero => intro Y' es' qs' t'; cases t'; exact ⟨rfl, rfl, rfl⟩
  | @wait q Y es qs j t0 ho hl ih =>
    intro Y' es' qs' t'
    cases t' with
    | wait t1 ho1 hl1 =>
      rw [ho] at ho1; injection ho1 with e; subst e
      obtain ⟨rfl, rfl, rfl⟩ := ih t1
      exact ⟨rfl, rfl, rfl⟩
    | come t1 ho1 hl1 _ => rw [ho] at ho1; injection ho1 with e; subst e; exact absurd hl1 hl
    | stay t1 ho1 hl1 _ => rw [ho] at ho1; injection ho1 with e; subst e; exact absurd hl1 hl
  | @come q Y es qs j c t0 ho hl hc ih =>
    intro Y' es' qs' t'
    cases t' with
    | wait t1 ho1 hl1 => rw [ho] at ho1; injection ho1 with e; subst e; exact absurd hl hl1
    | come t1 ho1 hl1 hc1 =>
      rw [ho] at ho1; injection ho1 with e; subst e
      obtain ⟨rfl, rfl, rfl⟩ := ih t1
      obtain rfl := comes_one hc hc1
      exact ⟨rfl, rfl, rfl⟩
    | stay t1 ho1 hl1 hn =>
      rw [ho] at ho1; injection ho1 with e; subst e
      obtain ⟨rfl, rfl, rfl⟩ := ih t1
      exact (comes_not hc hn).elim
  | @stay q Y es qs j t0 ho hl hn ih =>
    intro Y' es' qs' t'
    cases t' with
    | wait t1 ho1 hl1 => rw [ho] at ho1; injection ho1 with e; subst e; exact absurd hl hl1
    | come t1 ho1 hl1 hc1 =>
      rw [ho] at ho1; injection ho1 with e; subst e
      obtain ⟨rfl, rfl, rfl⟩ := ih t1
      exact (comes_not hc1 hn).elim
    | stay t1 ho1 hl1 _ =>
      rw [ho] at ho1; injection ho1 with e; subst e
      obtain ⟨rfl, rfl, rfl⟩ := ih t1
      exact ⟨rfl, rfl, rfl⟩
end Go.Proofs.YteieikgkmfglaaaGreatDoor

namespace Go.Proofs.YteieikgkmfglaaaGreatDoor.Wy

theorem onto_air {g : Int} {fl : Bool} (h : 0 < Fd.onto g fl) : 0 < Fd.onto g true ∧ Fd.onto g true ≤ Fd.onto g fl := by
  unfold Fd.onto at *
  by_cases h1 : g = 1
  · simp [h1] at h
  · by_cases h2 : g = 2
    · cases fl
      · simp [h2] at h
      · simp [h2]
    · by_cases h3 : g = 3
      · cases fl
        · simp [h3]
        · simp [h3]
      · simp [h1, h2, h3]
theorem ss_air {gs : List Int} {fl : Bool} {j : Nat} (h : 0 < (gs.map fun g => Fd.onto g fl).getD j 0) : 0 < (gs.map fun g => Fd.onto g true).getD j 0 ∧ (gs.map fun g => Fd.onto g true).getD j 0 ≤ (gs.map fun g => Fd.onto g fl).getD j 0 := by
  rw [List.getD_eq_getElem?_getD, List.getElem?_map] at *
  rw [List.getD_eq_getElem?_getD, List.getElem?_map]
  cases hg : gs[j]? with
  | none => rw [hg] at h; simp at h
  | some g => rw [hg] at h; exact onto_air h
theorem way_air {nb : Nat → List Int} {gs : List Int} {fl : Bool} {t i : Nat} {d : Int} (h : Way nb (fun _ j => (gs.map fun g => Fd.onto g fl).getD j 0) t i d) : ∃ d', d' ≤ d ∧ Way nb (fun _ j => (gs.map fun g => Fd.onto g true).getD j 0) t i d' := by
  induction h with
  | here => exact ⟨0, by omega, .here⟩
  | @step i j d h1 h2 h3 ih =>
    obtain ⟨d', hd, hw⟩ := ih
    have k := ss_air h2
    exact ⟨_, by omega, .step h1 k.1 hw⟩
theorem least_get {nb : Nat → List Int} {st : Nat → Nat → Int} {t n i : Nat} {l : List Int} (h : IsFar nb st t n l) (hi : i < n) : Least nb st t i (l.getD i 0) := by
  have e : l[i]? = some (l.getD i 0) := by rw [List.getD_eq_getElem?_getD, List.getElem?_eq_getElem (by rw [h.1]; exact hi)]; rfl
  exact h.2 i _ e
theorem far_air {nb : Nat → List Int} {gs : List Int} {fl : Bool} {t n i : Nat} {l l' : List Int} (h : IsFar nb (fun _ j => (gs.map fun g => Fd.onto g fl).getD j 0) t n l) (h' : IsFar nb (fun _ j => (gs.map fun g => Fd.onto g true).getD j 0) t n l') (hi : i < n) (h0 : 0 ≤ l.getD i 0) : 0 ≤ l'.getD i 0 ∧ l'.getD i 0 ≤ l.getD i 0 := by
  rcases least_get h hi with ⟨e, _⟩ | ⟨hw, _⟩
  · omega
  · obtain ⟨d', hd, hw'⟩ := way_air hw
    rcases least_get h' hi with ⟨_, k⟩ | ⟨k1, k2⟩
    · exact absurd hw' (k _)
    · have := k2 _ hw'
      have := k1.nonneg
      omega

/-- two cells of a way, one behind the other. -/
theorem Pth.two {nb : Nat → List Int} {ss l : List Int} {t i : Nat} {p : List Int} (h : Pth nb ss l t i p) : ∀ k, k + 1 < p.length → ∃ x y : Nat, p[k]? = some (x : Int) ∧ p[k + 1]? = some (y : Int) ∧ Nx nb ss l x y := by
  induction h with
  | here => intro k hk; simp at hk
  | @step i j p h1 h2 h3 ih =>
    intro k hk
    cases k with
    | zero => exact ⟨i, j, rfl, by simpa using h3.head, h2⟩
    | succ k =>
      obtain ⟨x, y, a1, a2, a3⟩ := ih k (by simpa using hk)
      exact ⟨x, y, by simpa using a1, by simpa using a2, a3⟩
theorem Pth.pos {nb : Nat → List Int} {ss l : List Int} {t i : Nat} {p : List Int} (h : Pth nb ss l t i p) : 0 < p.length := by
  cases h <;> simp
/-- all cells of a way are cells. -/
theorem Pth.cells {nb : Nat → List Int} {ss l : List Int} {t i n : Nat} {p : List Int} (hn : ∀ (i j : Nat), i < n → (j : Int) ∈ nb i → j < n) (h : Pth nb ss l t i p) (hi : i < n) : ∀ (k : Nat) (x : Int), p[k]? = some x → ∃ y : Nat, x = y ∧ y < n := by
  induction h with
  | here =>
    intro k x hx
    cases k with
    | zero => simp at hx; exact ⟨t, hx.symm, hi⟩
    | succ k => simp at hx
  | @step i j p h1 h2 h3 ih =>
    intro k x hx
    cases k with
    | zero => simp at hx; exact ⟨i, hx.symm, hi⟩
    | succ k => exact ih (hn i j hi h2.is.1) k x (by simpa using hx)

/-! two small fields. -/
/-- Shut, asked of a list. -/
def pchk (nb : Nat → List Int) (st : Nat → Nat → Int) (l : List Int) (n : Nat) : Bool := (List.range n).all fun i => (nb i).all fun x => decide (¬ (0 < st i x.toNat ∧ 0 ≤ l.getD x.toNat 0) ∨ (0 ≤ l.getD i 0 ∧ l.getD i 0 ≤ st i x.toNat + l.getD x.toNat 0))
theorem chk_shut {nb : Nat → List Int} {st : Nat → Nat → Int} {l : List Int} {n : Nat} (h : pchk nb st l n = true) : ∀ i, i < n → Shut nb st l i := by
  intro i hi j x y hx hy hj h0 y0
  unfold pchk at h
  rw [List.all_eq_true] at h
  have h1 := h i (List.mem_range.2 hi)
  rw [List.all_eq_true] at h1
  have h2 := of_decide_eq_true (h1 j hj)
  rw [Int.toNat_natCast, getD_of hx, getD_of hy] at h2
  rcases h2 with h2 | h2
  · exact absurd ⟨h0, y0⟩ h2
  · exact h2

def s6 : Nat → Nat → Int := fun _ j => (([0, 1, 0, 0, 3, 0] : List Int).map fun g => Fd.onto g false).getD j 0
theorem six : IsFar (Fd.near 3 2) s6 2 6 [5, 1, 0, 4, 2, 1] := by
  have w2 : Way (Fd.near 3 2) s6 2 2 0 := .here
  have w5 : Way (Fd.near 3 2) s6 2 5 1 := Way.step (nb := Fd.near 3 2) (st := s6) (i := 5) (j := 2) (by decide) (by decide) w2
  have w1 : Way (Fd.near 3 2) s6 2 1 1 := Way.step (nb := Fd.near 3 2) (st := s6) (i := 1) (j := 2) (by decide) (by decide) w2
  have w4 : Way (Fd.near 3 2) s6 2 4 2 := Way.step (nb := Fd.near 3 2) (st := s6) (i := 4) (j := 5) (by decide) (by decide) w5
  have w3 : Way (Fd.near 3 2) s6 2 3 4 := Way.step (nb := Fd.near 3 2) (st := s6) (i := 3) (j := 4) (by decide) (by decide) w4
  have w0 : Way (Fd.near 3 2) s6 2 0 5 := Way.step (nb := Fd.near 3 2) (st := s6) (i := 0) (j := 3) (by decide) (by decide) w3
  refine far_of rfl ?_ rfl ?_ (chk_shut (by decide))
  · intro i j hi hj
    obtain ⟨t, h1, h2, -⟩ := Fd.near_cell (W := 3) (H := 2) (by decide) hi hj
    omega
  · intro i x hx
    match i, hx with
    | 0, hx => simp at hx; subst hx; exact .inr w0
    | 1, hx => simp at hx; subst hx; exact .inr w1
    | 2, hx => simp at hx; subst hx; exact .inr w2
    | 3, hx => simp at hx; subst hx; exact .inr w3
    | 4, hx => simp at hx; subst hx; exact .inr w4
    | 5, hx => simp at hx; subst hx; exact .inr w5
    | i + 6, hx => simp at hx
def s3 : Nat → Nat → Int := fun i _ => (([0, 3, 0] : List Int).map fun g => Fd.onto g false).getD i 0
theorem three : IsFar (Fd.near 3 1) s3 0 3 [0, 2, 3] := by
  have w0 : Way (Fd.near 3 1) s3 0 0 0 := .here
  have w1 : Way (Fd.near 3 1) s3 0 1 2 := Way.step (nb := Fd.near 3 1) (st := s3) (i := 1) (j := 0) (by decide) (by decide) w0
  have w2 : Way (Fd.near 3 1) s3 0 2 3 := Way.step (nb := Fd.near 3 1) (st := s3) (i := 2) (j := 1) (by decide) (by decide) w1
  refine far_of rfl ?_ rfl ?_ (chk_shut (by decide))
  · intro i j hi hj
    obtain ⟨t, h1, h2, -⟩ := Fd.near_cell (W := 3) (H := 1) (by decide) hi hj
    omega
  · intro i x hx
    match i, hx with
    | 0, hx => simp at hx; subst hx; exact .inr w0
    | 1, hx => simp at hx; subst hx; exact .inr w1
    | 2, hx => simp at hx; subst hx; exact .inr w2
    | i + 3, hx => simp at hx
end Go.Proofs.YteieikgkmfglaaaGreatDoor.Wy

namespace Go.Proofs.YteieikgkmfglaaaGreatDoor.Wy

/-- from where a way begins, each cell of it may be reached. -/
theorem Pth.reach {nb : Nat → List Int} {ss l : List Int} {t i : Nat} {p : List Int} (h : Pth nb ss l t i p) (h0 : 0 ≤ l.getD t 0) : ∀ (k x : Nat), p[k]? = some (x : Int) → ∃ d, Way nb (fun _ j => ss.getD j 0) x i d ∧ d + l.getD x 0 = l.getD i 0 ∧ 0 ≤ l.getD x 0 := by
  induction h with
  | here =>
    intro k x hx
    cases k with
    | zero =>
      simp at hx
      have : t = x := by omega
      subst this
      exact ⟨0, .here, by omega, h0⟩
    | succ k => simp at hx
  | @step i j p h1 h2 h3 ih =>
    intro k x hx
    have is := h2.is
    cases k with
    | zero =>
      simp at hx
      have : i = x := by omega
      subst this
      exact ⟨0, .here, by omega, by omega⟩
    | succ k =>
      obtain ⟨d, hw, he, hn⟩ := ih k x (by simpa using hx)
      exact ⟨_, .step is.1 is.2.1 hw, by show ss.getD j 0 + d + _ = _; omega, hn⟩
/-- there and back: how far it is to a cell is how far from there. -/
theorem far_back {nb : Nat → List Int} {ss : List Int} {a c n : Nat} {l l' : List Int} (E : Even nb (fun _ j => ss.getD j 0) n) (h : IsFar nb (fun i _ => ss.getD i 0) a n l) (h' : IsFar nb (fun _ j => ss.getD j 0) c n l') (ha : a < n) (hc : c < n) : l'.getD a 0 = l.getD c 0 :=
  (least_get h' ha).uniq ((least_get (st := fun i _ => ss.getD i 0) h hc).turn (s := fun j => ss.getD j 0) E hc ha)
/-- the cells of a way to what may be reached may be reached. -/
theorem way_in {nb : Nat → List Int} {ss : List Int} {a c n x k : Nat} {l l' p : List Int} {m : Int} (E : Even nb (fun _ j => ss.getD j 0) n) (h : IsFar nb (fun i _ => ss.getD i 0) a n l) (h' : IsFar nb (fun _ j => ss.getD j 0) c n l') (ha : a < n) (hc : c < n) (hm : l.getD c 0 ≤ m) (hp : Pth nb ss l' c a p) (hx : p[k]? = some (x : Int)) (hxn : x < n) : (x : Int) ∈ rch l m n := by
  have h0 : 0 ≤ l'.getD c 0 := by rw [getD_of (h'.here hc)]; omega
  obtain ⟨d, hw, he, hn⟩ := hp.reach h0 k x hx
  have e := far_back E h h' ha hc
  have ls := (least_get (st := fun i _ => ss.getD i 0) h hxn).turn (s := fun j => ss.getD j 0) E hxn ha
  refine rch_mem.2 ⟨x, rfl, hxn, ?_⟩
  rcases ls with ⟨_, k1⟩ | ⟨k1, k2⟩
  · exact absurd hw (k1 _)
  · have := k1.nonneg
    have := k2 _ hw
    omega
theorem rch_mono {l : List Int} {m m' : Int} {n : Nat} (h : m ≤ m') {x : Int} (hx : x ∈ rch l m n) : x ∈ rch l m' n := by
  obtain ⟨i, h1, h2, h3, h4⟩ := rch_mem.1 hx
  exact rch_mem.2 ⟨i, h1, h2, h3, by omega⟩
theorem rise_at {A : List Int} (h : A.Pairwise (· < ·)) {i : Nat} {x y : Int} (hx : A[i]? = some x) (hy : A[i + 1]? = some y) : x < y := by
  obtain ⟨h1, e1⟩ := List.getElem?_eq_some_iff.1 hx
  obtain ⟨h2, e2⟩ := List.getElem?_eq_some_iff.1 hy
  have := (List.pairwise_iff_getElem.1 h) i (i + 1) h1 h2 (Nat.lt_succ_self _)
  rw [e1, e2] at this
  exact this
end Go.Proofs.YteieikgkmfglaaaGreatDoor.Wy

namespace Go.Proofs.YteieikgkmfglaaaGreatDoor
open Wy
set_option linter.unusedVariables false

/-- where a new one comes: a cell that its kind steps on, from one step to three from who trains it. -/
theorem spot_near {W H an : Nat} {gs os l : List Int} {fl : Bool} {us : List UnV} {c : Int} (G : Fd.Good W H gs os) (ha : an < W * H) (hl : IsFar (Fd.near W H) (fun i _ => (gs.map fun g => Fd.onto g fl).getD i 0) an (W * H) l)
    (ht : us.any (fun u => u.at_ == (an : Int)) = true) (h : NearSays l (W * H) (freeAt us) c 0) : ∃ (cn : Nat) (g : Int), c = cn ∧ cn < W * H ∧ gs[cn]? = some g ∧ 0 < Fd.onto g fl ∧ us.any (fun u => u.at_ == c) = false ∧ 0 < l.getD cn 0 ∧ l.getD cn 0 ≤ 3 := by
  rcases h with ⟨h, -⟩ | ⟨-, m, j, hm, hj, hp, -, -⟩
  · cases h
  obtain ⟨cn, rfl, hcn, h0, h1⟩ := rch_mem.1 (List.mem_of_getElem? hj)
  have hgl : cn < gs.length := by rw [G.gl]; exact hcn
  have hfree : us.any (fun u => u.at_ == (cn : Int)) = false := by
    unfold freeAt at hp
    simpa using hp
  have hne : cn ≠ an := by
    intro e; subst e
    rw [ht] at hfree; cases hfree
  have hw := least_get hl hcn
  have hs : 0 < (gs.map fun g => Fd.onto g fl).getD cn 0 ∧ 0 < l.getD cn 0 := by
    generalize l.getD cn 0 = x at *
    rcases hw with ⟨rfl, -⟩ | ⟨hw, -⟩
    · omega
    · cases hw with
      | here => exact absurd rfl hne
      | step hj hs hw => exact ⟨hs, by have := hw.nonneg; omega⟩
  refine ⟨cn, gs[cn], rfl, hcn, List.getElem?_eq_getElem hgl, ?_, hfree, hs.2, by omega⟩
  have := hs.1
  rw [List.getD_eq_getElem?_getD, List.getElem?_map, List.getElem?_eq_getElem hgl] at this
  exact this
end Go.Proofs.YteieikgkmfglaaaGreatDoor

namespace Go.Proofs.YteieikgkmfglaaaGreatDoor
open Wy
set_option linter.unusedVariables false

/-- the best of the first cells, and how far it is. -/
def rsp (l : List Int) (p : Int → Bool) : Nat → Int × Int
  | 0 => (-1, 4)
  | c + 1 => if 0 ≤ l.getD c 0 ∧ l.getD c 0 < (rsp l p c).2 ∧ p (c : Int) = true then ((c : Int), l.getD c 0) else rsp l p c
theorem rsp_yes {l : List Int} {p : Int → Bool} {c : Nat} (h : 0 ≤ l.getD c 0 ∧ l.getD c 0 < (rsp l p c).2 ∧ p (c : Int) = true) : rsp l p (c + 1) = ((c : Int), l.getD c 0) := by rw [rsp, if_pos h]
theorem rsp_no {l : List Int} {p : Int → Bool} {c : Nat} (h : ¬ (0 ≤ l.getD c 0 ∧ l.getD c 0 < (rsp l p c).2 ∧ p (c : Int) = true)) : rsp l p (c + 1) = rsp l p c := by rw [rsp, if_neg h]
theorem rsp_le {l : List Int} {p : Int → Bool} : ∀ c, (rsp l p c).2 ≤ 4 ∧ 0 ≤ (rsp l p c).2
  | 0 => by simp [rsp]
  | c + 1 => by
    have ih := rsp_le (l := l) (p := p) c
    by_cases h : 0 ≤ l.getD c 0 ∧ l.getD c 0 < (rsp l p c).2 ∧ p (c : Int) = true
    · rw [rsp_yes h]
      simp only
      omega
    · rw [rsp_no h]
      exact ih
/-- what the best is. -/
def Bst (l : List Int) (p : Int → Bool) (k : Nat) (r : Int × Int) : Prop :=
  (r.1 = -1 ∧ r.2 = 4 ∧ ∀ i : Nat, i < k → p (i : Int) = true → 0 ≤ l.getD i 0 → 4 ≤ l.getD i 0)
  ∨ ∃ b : Nat, b < k ∧ r.1 = (b : Int) ∧ r.2 = l.getD b 0 ∧ 0 ≤ r.2 ∧ r.2 < 4 ∧ p (b : Int) = true ∧ (∀ i : Nat, i < k → p (i : Int) = true → 0 ≤ l.getD i 0 → r.2 ≤ l.getD i 0) ∧ ∀ i : Nat, i < b → p (i : Int) = true → 0 ≤ l.getD i 0 → r.2 < l.getD i 0
theorem rsp_is {l : List Int} {p : Int → Bool} : ∀ k, Bst l p k (rsp l p k)
  | 0 => .inl ⟨rfl, rfl, fun i hi => by omega⟩
  | k + 1 => by
    have ih := rsp_is (l := l) (p := p) k
    by_cases h : 0 ≤ l.getD k 0 ∧ l.getD k 0 < (rsp l p k).2 ∧ p (k : Int) = true
    · rw [rsp_yes h]
      obtain ⟨h1, h2, h3⟩ := h
      refine .inr ⟨k, by omega, rfl, rfl, h1, ?_, h3, ?_, ?_⟩
      · have := (rsp_le (l := l) (p := p) k).1
        simp only
        omega
      · intro i hi hp h0
        simp only
        rcases Nat.lt_or_ge i k with hk | hk
        · rcases ih with ⟨-, e2, h4⟩ | ⟨b, -, -, -, -, -, -, h5, -⟩
          · have := h4 i hk hp h0; omega
          · have := h5 i hk hp h0; omega
        · have : i = k := by omega
          subst this
          omega
      · intro i hi hp h0
        simp only
        rcases ih with ⟨-, e2, h4⟩ | ⟨b, -, -, -, -, -, -, h5, -⟩
        · have := h4 i hi hp h0; omega
        · have := h5 i hi hp h0; omega
    · rw [rsp_no h]
      have hk : p (k : Int) = true → 0 ≤ l.getD k 0 → (rsp l p k).2 ≤ l.getD k 0 := fun hp h0 => by
        rcases Int.lt_or_le (l.getD k 0) (rsp l p k).2 with h9 | h9
        · exact absurd ⟨h0, h9, hp⟩ h
        · exact h9
      rcases ih with ⟨e1, e2, h4⟩ | ⟨b, hb, e1, e2, h1, h2, h3, h5, h6⟩
      · refine .inl ⟨e1, e2, fun i hi hp h0 => ?_⟩
        rcases Nat.lt_or_ge i k with hi2 | hi2
        · exact h4 i hi2 hp h0
        · have : i = k := by omega
          subst this
          have := hk hp h0
          omega
      · refine .inr ⟨b, by omega, e1, e2, h1, h2, h3, fun i hi hp h0 => ?_, h6⟩
        rcases Nat.lt_or_ge i k with hi2 | hi2
        · exact h5 i hi2 hp h0
        · have : i = k := by omega
          subst this
          exact hk hp h0
theorem rsp_mem {l : List Int} {m : Int} {n : Nat} {x : Int} : x ∈ rch l m n ↔ ∃ i : Nat, i < n ∧ x = (i : Int) ∧ 0 ≤ l.getD i 0 ∧ l.getD i 0 ≤ m := by
  unfold rch
  simp only [List.mem_map, List.mem_filter, List.mem_range, decide_eq_true_eq]
  constructor
  · rintro ⟨i, ⟨h1, h2, h3⟩, rfl⟩
    exact ⟨i, h1, rfl, h2, h3⟩
  · rintro ⟨i, h1, rfl, h2, h3⟩
    exact ⟨i, ⟨h1, h2, h3⟩, rfl⟩
theorem rsp_rise (l : List Int) (m : Int) (n : Nat) : (rch l m n).Pairwise (· < ·) := by
  unfold rch
  rw [List.pairwise_map]
  refine List.Pairwise.imp (fun h => Int.ofNat_lt.2 h) (List.Pairwise.filter _ List.pairwise_lt_range)
/-- the program's answer and the reference's. -/
theorem rsp_near {l : List Int} {n : Nat} {p : Int → Bool} {c F : Int} (h : NearSays l n p c F) : (F = 6 ∧ c = 0 ∧ (rsp l p n).1 = -1) ∨ (F = 0 ∧ 0 ≤ c ∧ (rsp l p n).1 = c) := by
  rcases h with ⟨rfl, rfl, h⟩ | ⟨rfl, m, k, hm, hk, hp, ht, hj⟩
  · refine .inl ⟨rfl, rfl, ?_⟩
    rcases rsp_is (l := l) (p := p) n with ⟨e1, -⟩ | ⟨b, hb, e1, e2, h1, h2, h3, -⟩
    · exact e1
    · have h9 := h 3 (Nat.le_refl _)
      rw [List.any_eq_false] at h9
      exact absurd h3 (h9 (b : Int) (rsp_mem.2 ⟨b, hb, rfl, by omega, by omega⟩))
  · have hmem := List.mem_of_getElem? hk
    obtain ⟨i, hi, rfl, h0, hle⟩ := rsp_mem.1 hmem
    refine .inr ⟨rfl, by omega, ?_⟩
    -- it is just as far as that
    have low : ∀ q : Nat, q < n → p (q : Int) = true → 0 ≤ l.getD q 0 → (m : Int) ≤ l.getD q 0 := fun q hq hpq hq0 => by
      rcases Int.lt_or_le (l.getD q 0) (m : Int) with h9 | h9
      · have h8 := hj (l.getD q 0).toNat (by omega)
        rw [List.any_eq_false] at h8
        exact absurd hpq (h8 (q : Int) (rsp_mem.2 ⟨q, hq, rfl, hq0, by omega⟩))
      · exact h9
    have first : ∀ q : Nat, q < i → p (q : Int) = true → 0 ≤ l.getD q 0 → (m : Int) < l.getD q 0 := fun q hq hpq hq0 => by
      rcases Int.lt_or_le (m : Int) (l.getD q 0) with h9 | h9
      · exact h9
      · have hm2 : (q : Int) ∈ rch l m n := rsp_mem.2 ⟨q, by omega, rfl, hq0, h9⟩
        obtain ⟨j, hjl, hje⟩ := List.mem_iff_getElem.1 hm2
        have hkl := (List.getElem?_eq_some_iff.1 hk).1
        have hke := (List.getElem?_eq_some_iff.1 hk).2
        have hjk : j < k := by
          rcases Nat.lt_or_ge j k with h7 | h7
          · exact h7
          · rcases Nat.lt_or_eq_of_le h7 with h6 | h6
            · have := List.pairwise_iff_getElem.1 (rsp_rise l m n) k j hkl hjl h6
              rw [hke, hje] at this
              omega
            · subst h6
              rw [hke] at hje
              omega
        rw [List.any_eq_false] at ht
        refine absurd hpq (ht (q : Int) ?_)
        rw [← hje]
        exact List.mem_take_iff_getElem.2 ⟨j, by omega, rfl⟩
    have il := low i hi hp h0
    rcases rsp_is (l := l) (p := p) n with ⟨-, -, h4⟩ | ⟨b, hb, e1, e2, h1, h2, h3, h5, h6⟩
    · have := h4 i hi hp h0
      omega
    · rw [e1]
      have a1 := h5 i hi hp h0
      have a2 := low b hb h3 (by omega)
      rcases Nat.lt_trichotomy b i with h7 | h7 | h7
      · have := first b h7 h3 (by omega)
        omega
      · rw [h7]
      · have := h6 i h7 hp h0
        omega
end Go.Proofs.YteieikgkmfglaaaGreatDoor

namespace Go.Proofs.YteieikgkmfglaaaGreatDoor
open Wy
set_option linter.unusedVariables false

theorem rjob_in {ks : List KV} {W : WV} (h : WRight ks W) {j : JbV} (hj : j ∈ W.qs) : ∃ u, W.us.find? (fun u => u.id == j.unit) = some u ∧ u.player = j.player ∧ (0 ≤ j.kind ∧ j.kind < (ks.length : Int)) ∧ 1 ≤ j.left ∧ j.left ≤ 1000 := by
  have hf := h.job hj
  unfold Wd.jobFault at hf
  split at hf
  · cases hf
  · rename_i u hu
    split at hf
    · cases hf
    · rename_i k hk
      split at hf
      · cases hf
      · rename_i h1
        split at hf
        · cases hf
        · rename_i h2
          rw [Bool.not_eq_true, Bool.or_eq_false_iff] at h1 h2
          refine ⟨u, hu, by simpa using h1.1, ?_, ?_⟩
          · have := h2.1
            unfold Wd.has at this
            simpa using this
          · have := h2.2
            simpa using this
theorem jobu_any {p : UnV → Bool} {us : List UnV} {u : UnV} (h : us.find? p = some u) : us.any p = true := List.any_eq_true.2 ⟨u, List.mem_of_find?_eq_some h, List.find?_some h⟩
/-- where one that is trained would come: the last of what Spot may say. -/
theorem spot_of {ks : List KV} {Y : WV} (h : WRight ks Y) {j : JbV} (hj : j ∈ Y.qs) {c F : Int} (hs : SpotSays ks Y j.unit j.kind c F) :
    ∃ (i kn Wn Hn an : Nat) (u : UnV) (k : KV) (l : List Int), FstU (fun u => u.id == j.unit) Y.us (i : Nat) ∧ Y.us[i]? = some u ∧ j.kind = (kn : Nat) ∧ ks[kn]? = some k ∧ Y.wide = (Wn : Nat) ∧ Y.high = (Hn : Nat) ∧ Fd.Good Wn Hn Y.gs Y.os ∧ u.at_ = (an : Nat) ∧ an < Wn * Hn
      ∧ IsFar (Fd.near Wn Hn) (fun i _ => (Y.gs.map fun g => Fd.onto g k.f).getD i 0) an (Wn * Hn) l ∧ NearSays l (Wn * Hn) (freeAt Y.us) c F := by
  obtain ⟨u, hu, hp, hk, hl⟩ := rjob_in h hj
  rcases hs with ⟨h1, -⟩ | ⟨-, h1, -⟩ | ⟨-, -, h1, -⟩ | ⟨-, h1⟩
  · exact absurd h.zero h1
  · rw [jobu_any hu] at h1; cases h1
  · exact absurd hk h1
  · exact h1
theorem train_come {ks : List KV} {Y : WV} (h : WRight ks Y) {j : JbV} (hj : j ∈ Y.qs) {c : Int} (hs : SpotSays ks Y j.unit j.kind c 0) (hn : ¬ (40 ≤ (Y.us.length : Int) ∨ 1000000 ≤ Y.next)) : Comes ks Y j c := by
  obtain ⟨u', hu', hp, hk, hl⟩ := rjob_in h hj
  obtain ⟨i, kn, Wn, Hn, an, u, k, l, h1, h2, h3, h4, h5, h6, G, h8, h9, h10, h11⟩ := spot_of h hj hs
  obtain ⟨cn, g, rfl, hc, hg, ho, hfree, -, -⟩ := spot_near G h9 h10 (List.any_eq_true.2 ⟨u, List.mem_of_getElem? h2, by simp [h8]⟩) h11
  refine ⟨hs, ?_⟩
  obtain ⟨i', hi'⟩ := List.mem_iff_getElem?.1 (List.mem_of_find?_eq_some hu')
  obtain ⟨k', F'⟩ := h.fine hi'
  have hp' := F'.p
  rw [hp] at hp'
  have hkt : ks[j.kind.toNat]? = some k := by rw [h3, Int.toNat_natCast]; exact h4
  rw [Wd.pfk hn hp' hk ⟨by omega, by rw [G.gl]; omega⟩ hkt]
  have : Wd.open_ Y.gs Y.us (cn : Int) k.f = true := by
    unfold Wd.open_
    rw [Bool.and_eq_true, Bool.not_eq_true', Int.toNat_natCast, List.getD_eq_getElem?_getD, hg, Option.getD_some]
    exact ⟨decide_eq_true ho, hfree⟩
  rw [this]
  rfl
theorem dec_other {l : List JbV} {j : JbV} (h : cntU l j.unit ≠ 0) : dec1 l j = j := by unfold dec1; rw [if_neg h]
theorem dec_first {l : List JbV} {j : JbV} (h : cntU l j.unit = 0) : dec1 l j = { j with left := j.left - 1 } := by unfold dec1; rw [if_pos h]
theorem one_is {j : JbV} (h : j.left = 1) : one1 j = j := by unfold one1; rw [← h]
end Go.Proofs.YteieikgkmfglaaaGreatDoor

namespace Go.Proofs.YteieikgkmfglaaaGreatDoor
open Go.RowKit
set_option linter.unusedVariables false

/-- the world in its box, its lists, the list of jobs that are left. -/
structure TrS (Y : WV) (es : List EvV) (qs : List JbV) (z b1 bm be : Nat) (w5 : World) (u1 u2 u3 u4 u5 ev qv : Value) (V : World) : Prop where
  x : Wx V z (.int .i64 Y.turn) (.int .i64 Y.next) (.int .i64 Y.wide) (.int .i64 Y.high) u1 u2 u3 u4 u5
  o1 : Ow V b1 u1 Y.gs
  o2 : Ow V b1 u2 Y.os
  o3 : Ow V b1 u3 Y.gold
  o4 : Uno V b1 u4 Y.us
  o5 : Jbo V b1 u5 Y.qs
  d : Dif u5 qv
  l : ∀ x ∈ [u1, u2, u3, u4, u5], ∀ k, x.ownBlock = some k → k < bm ∨ be ≤ k
  e : Evo V be ev es
  o : Jbo V be qv qs
  f : Fr (fun k => k = z ∨ k = bm) w5 V
  n : z < b1 ∧ b1 ≤ bm ∧ bm < be ∧ w5.heap.size = be
section
variable {Y : WV} {es : List EvV} {qs : List JbV} {z b1 bm be : Nat} {w5 : World} {u1 u2 u3 u4 u5 ev qv : Value} {V V' : World}
theorem TrS.below (h : TrS Y es qs z b1 bm be w5 u1 u2 u3 u4 u5 ev qv V) (hb : Below V.heap.size V V') : TrS Y es qs z b1 bm be w5 u1 u2 u3 u4 u5 ev qv V' :=
  ⟨h.x.below hb h.x.lt, h.o1.below hb, h.o2.below hb, h.o3.below hb, h.o4.below hb, h.o5.below hb, h.d, h.l, h.e.below hb, h.o.below hb, h.f.trans (Fr.below hb), h.n⟩
theorem TrS.wl (h : TrS Y es qs z b1 bm be w5 u1 u2 u3 u4 u5 ev qv V) : Wl V (.agg #[.int .i64 Y.turn, .int .i64 Y.next, .int .i64 Y.wide, .int .i64 Y.high, u1, u2, u3, u4, u5]) Y :=
  ⟨u1, u2, u3, u4, u5, rfl, h.o1.ro, h.o2.ro, h.o3.ro, h.o4.l, h.o5.l⟩
/-- the map has turned. -/
theorem TrS.map (h : TrS Y es qs z b1 bm be w5 u1 u2 u3 u4 u5 ev qv V) (hf : Fr (fun q => q = bm) V V') : TrS Y es qs z b1 bm be w5 u1 u2 u3 u4 u5 ev qv V' := by
  have hn := h.n
  have no : ∀ x ∈ [u1, u2, u3, u4, u5], ∀ k, x.ownBlock = some k → ¬ k = bm := fun x hx k hk => by have := h.l x hx k hk; omega
  exact ⟨hf.wx h.x (by omega), hf.own h.o1 (no u1 (by simp)), hf.own h.o2 (no u2 (by simp)), hf.own h.o3 (no u3 (by simp)), hf.own h.o4 (no u4 (by simp)), hf.own h.o5 (no u5 (by simp)), h.d, h.l,
    hf.own h.e (fun k hk => by have := (h.e.block k hk).1; omega), hf.own h.o (fun k hk => by have := (h.o.block k hk).1; omega), h.f.trans (hf.mono (fun k hk => .inr hk)), h.n⟩
/-- one more event. -/
theorem TrS.told (h : TrS Y es qs z b1 bm be w5 u1 u2 u3 u4 u5 ev qv V) {e : EvV} {ev' : Value} (g : V.grownBy V' ev.ownBlock) (he : Evo V' be ev' (es ++ [e])) : TrS Y (es ++ [e]) qs z b1 bm be w5 u1 u2 u3 u4 u5 ev' qv V' := by
  have hn := h.n
  have hf : Fr (fun q => ev.ownBlock = some q) V V' := Fr.gb g (fun k hk => hk)
  have ne : ∀ k, ev.ownBlock = some k → be ≤ k := fun k hk => (h.e.block k hk).1
  refine ⟨hf.wx h.x (fun e => by have := ne z e; omega), hf.own h.o1 (own_two h.o1 h.e (by decide)), hf.own h.o2 (own_two h.o2 h.e (by decide)), hf.own h.o3 (own_two h.o3 h.e (by decide)), hf.own h.o4 (own_two h.o4 h.e (by decide)), hf.own h.o5 (own_two h.o5 h.e (by decide)), h.d, h.l, he, hf.own h.o (own_two h.o h.e (by decide)), ?_, h.n⟩
  refine ⟨hf.os.trans h.f.os, hf.tape.trans h.f.tape, hf.output.trans h.f.output, Nat.le_trans h.f.size hf.size, fun q hq hm => (hf.block q (Nat.lt_of_lt_of_le hq h.f.size) (fun e => ?_)).trans (h.f.block q hq hm)⟩
  have := ne q e
  omega
/-- one more job that is left. -/
theorem TrS.left (h : TrS Y es qs z b1 bm be w5 u1 u2 u3 u4 u5 ev qv V) {j : JbV} {qv' : Value} {gq : Nat} (g : V.grownBy V' qv.ownBlock) (ho : Jbo V' be qv' (qs ++ [j])) (hq : qv'.ownBlock = some gq) (hg : qv.ownBlock = some gq ∨ gq = V.heap.size) : TrS Y es (qs ++ [j]) z b1 bm be w5 u1 u2 u3 u4 u5 ev qv' V' := by
  have hn := h.n
  have hf : Fr (fun q => qv.ownBlock = some q) V V' := Fr.gb g (fun k hk => hk)
  have ne : ∀ k, qv.ownBlock = some k → be ≤ k := fun k hk => (h.o.block k hk).1
  refine ⟨hf.wx h.x (fun e => by have := ne z e; omega), hf.own h.o1 (own_two h.o1 h.o (by decide)), hf.own h.o2 (own_two h.o2 h.o (by decide)), hf.own h.o3 (own_two h.o3 h.o (by decide)), hf.own h.o4 (own_two h.o4 h.o (by decide)), hf.own h.o5 h.d, ?_, h.l, hf.own h.e (own_two h.e h.o (by decide)), ho, ?_, h.n⟩
  · intro k hk e
    rw [hq] at e
    injection e with e
    subst e
    rcases hg with hg | hg
    · exact h.d _ hk hg
    · have := (h.o5.block _ hk).2; omega
  · refine ⟨hf.os.trans h.f.os, hf.tape.trans h.f.tape, hf.output.trans h.f.output, Nat.le_trans h.f.size hf.size, fun q hq hm => (hf.block q (Nat.lt_of_lt_of_le hq h.f.size) (fun e => ?_)).trans (h.f.block q hq hm)⟩
    have := ne q e
    omega
/-- a block that none of the lists lies in has turned. -/
theorem TrS.box (h : TrS Y es qs z b1 bm be w5 u1 u2 u3 u4 u5 ev qv V) {b : Nat} (hk : Kp b V V') (hb : be ≤ b) (hl : ∀ x ∈ [u1, u2, u3, u4, u5, ev, qv], ∀ k, x.ownBlock = some k → k < b) : TrS Y es qs z b1 bm be w5 u1 u2 u3 u4 u5 ev qv V' := by
  have hn := h.n
  have hf : Fr (fun q => q = b) V V' := Fr.kp hk rfl
  have no : ∀ x ∈ [u1, u2, u3, u4, u5, ev, qv], ∀ k, x.ownBlock = some k → ¬ k = b := fun x hx k hk => by have := hl x hx k hk; omega
  refine ⟨hf.wx h.x (by omega), hf.own h.o1 (no u1 (by simp)), hf.own h.o2 (no u2 (by simp)), hf.own h.o3 (no u3 (by simp)), hf.own h.o4 (no u4 (by simp)), hf.own h.o5 (no u5 (by simp)), h.d, h.l, hf.own h.e (no ev (by simp)), hf.own h.o (no qv (by simp)), ?_, h.n⟩
  exact ⟨hf.os.trans h.f.os, hf.tape.trans h.f.tape, hf.output.trans h.f.output, Nat.le_trans h.f.size hf.size, fun q hq hm => (hf.block q (Nat.lt_of_lt_of_le hq h.f.size) (fun e => by omega)).trans (h.f.block q hq hm)⟩
theorem TrS.under (h : TrS Y es qs z b1 bm be w5 u1 u2 u3 u4 u5 ev qv V) : ∀ x ∈ [u1, u2, u3, u4, u5, ev, qv], ∀ k, x.ownBlock = some k → k < V.heap.size := by
  intro x hx k hk
  simp only [List.mem_cons, List.not_mem_nil, or_false] at hx
  rcases hx with rfl | rfl | rfl | rfl | rfl | rfl | rfl
  · exact (h.o1.block k hk).2
  · exact (h.o2.block k hk).2
  · exact (h.o3.block k hk).2
  · exact (h.o4.block k hk).2
  · exact (h.o5.block k hk).2
  · exact (h.e.block k hk).2
  · exact (h.o.block k hk).2
/-- another world in the box: one whose lists lie behind all that was when it was made. -/
theorem TrS.puts (h : TrS Y es qs z b1 bm be w5 u1 u2 u3 u4 u5 ev qv V) {Z : WV} {k1 k2 k3 k4 k5 : Value} {B : Nat} (hB : be ≤ B) (hq : ∀ k, qv.ownBlock = some k → k < B) (hk : Kp z V V') (hx : Wx V' z (.int .i64 Z.turn) (.int .i64 Z.next) (.int .i64 Z.wide) (.int .i64 Z.high) k1 k2 k3 k4 k5)
    (p1 : Ow V B k1 Z.gs) (p2 : Ow V B k2 Z.os) (p3 : Ow V B k3 Z.gold) (p4 : Uno V B k4 Z.us) (p5 : Jbo V B k5 Z.qs) : TrS Z es qs z b1 bm be w5 k1 k2 k3 k4 k5 ev qv V' := by
  have hn := h.n
  have hf : Fr (fun q => q = z) V V' := Fr.kp hk rfl
  refine ⟨hx, Ow.mono (hf.own p1 (fun k hk => by have := (p1.block k hk).1; omega)) (by omega), Ow.mono (hf.own p2 (fun k hk => by have := (p2.block k hk).1; omega)) (by omega), Ow.mono (hf.own p3 (fun k hk => by have := (p3.block k hk).1; omega)) (by omega), Uno.mono (hf.own p4 (fun k hk => by have := (p4.block k hk).1; omega)) (by omega), Jbo.mono (hf.own p5 (fun k hk => by have := (p5.block k hk).1; omega)) (by omega), ?_, ?_, hf.own h.e (fun k hk => by have := (h.e.block k hk).1; omega), hf.own h.o (fun k hk => by have := (h.o.block k hk).1; omega), h.f.trans (hf.mono (fun k hk => .inl hk)), h.n⟩
  · intro k hk e
    have := (p5.block k hk).1
    have := hq k e
    omega
  · intro x hx k hk
    simp only [List.mem_cons, List.not_mem_nil, or_false] at hx
    rcases hx with rfl | rfl | rfl | rfl | rfl
    · have := (p1.block k hk).1; omega
    · have := (p2.block k hk).1; omega
    · have := (p3.block k hk).1; omega
    · have := (p4.block k hk).1; omega
    · have := (p5.block k hk).1; omega
end
end Go.Proofs.YteieikgkmfglaaaGreatDoor

namespace Go.Proofs.YteieikgkmfglaaaGreatDoor
open Go.RowKit
set_option linter.unusedVariables false

structure TnS (Y : WV) (es : List EvV) (qs : List JbV) (z b1 be : Nat) (r4 : Option Nat) (w5 : World) (u1 u2 u3 u4 u5 ev qv : Value) (V : World) : Prop where
  x : Wx V z (.int .i64 Y.turn) (.int .i64 Y.next) (.int .i64 Y.wide) (.int .i64 Y.high) u1 u2 u3 u4 u5
  o1 : Ow V b1 u1 Y.gs
  o2 : Ow V b1 u2 Y.os
  o3 : Ow V b1 u3 Y.gold
  o4 : Uno V b1 u4 Y.us
  o5 : Jbo V b1 u5 Y.qs
  d : Dif u5 qv
  e : Evo V be ev es
  o : Jbo V be qv qs
  f : Fr (fun k => k = z ∨ r4 = some k) w5 V
  h4 : ∀ k, u4.ownBlock = some k → r4 = some k ∨ be ≤ k
  n : z < b1 ∧ b1 ≤ be ∧ w5.heap.size = be
section
variable {Y : WV} {es : List EvV} {qs : List JbV} {z b1 be : Nat} {r4 : Option Nat} {w5 : World} {u1 u2 u3 u4 u5 ev qv : Value} {V V' : World}
theorem TnS.below (h : TnS Y es qs z b1 be r4 w5 u1 u2 u3 u4 u5 ev qv V) (hb : Below V.heap.size V V') : TnS Y es qs z b1 be r4 w5 u1 u2 u3 u4 u5 ev qv V' :=
  ⟨h.x.below hb h.x.lt, h.o1.below hb, h.o2.below hb, h.o3.below hb, h.o4.below hb, h.o5.below hb, h.d, h.e.below hb, h.o.below hb, h.f.trans (Fr.below hb), h.h4, h.n⟩
theorem TnS.wl (h : TnS Y es qs z b1 be r4 w5 u1 u2 u3 u4 u5 ev qv V) : Wl V (.agg #[.int .i64 Y.turn, .int .i64 Y.next, .int .i64 Y.wide, .int .i64 Y.high, u1, u2, u3, u4, u5]) Y :=
  ⟨u1, u2, u3, u4, u5, rfl, h.o1.ro, h.o2.ro, h.o3.ro, h.o4.l, h.o5.l⟩
theorem TnS.size (h : TnS Y es qs z b1 be r4 w5 u1 u2 u3 u4 u5 ev qv V) : be ≤ V.heap.size := by have := h.f.size; have := h.n; omega
/-- one more event. -/
theorem TnS.told (h : TnS Y es qs z b1 be r4 w5 u1 u2 u3 u4 u5 ev qv V) {e : EvV} {ev' : Value} (g : V.grownBy V' ev.ownBlock) (he : Evo V' be ev' (es ++ [e])) : TnS Y (es ++ [e]) qs z b1 be r4 w5 u1 u2 u3 u4 u5 ev' qv V' := by
  have hn := h.n
  have hf : Fr (fun q => ev.ownBlock = some q) V V' := Fr.gb g (fun k hk => hk)
  have ne : ∀ k, ev.ownBlock = some k → be ≤ k := fun k hk => (h.e.block k hk).1
  refine ⟨hf.wx h.x (fun e => by have := ne z e; omega), hf.own h.o1 (own_two h.o1 h.e (by decide)), hf.own h.o2 (own_two h.o2 h.e (by decide)), hf.own h.o3 (own_two h.o3 h.e (by decide)), hf.own h.o4 (own_two h.o4 h.e (by decide)), hf.own h.o5 (own_two h.o5 h.e (by decide)), h.d, he, hf.own h.o (own_two h.o h.e (by decide)), ?_, h.h4, h.n⟩
  refine ⟨hf.os.trans h.f.os, hf.tape.trans h.f.tape, hf.output.trans h.f.output, Nat.le_trans h.f.size hf.size, fun q hq hm => (hf.block q (Nat.lt_of_lt_of_le hq h.f.size) (fun e => ?_)).trans (h.f.block q hq hm)⟩
  have := ne q e
  omega
/-- one more job that is left. -/
theorem TnS.left (h : TnS Y es qs z b1 be r4 w5 u1 u2 u3 u4 u5 ev qv V) {j : JbV} {qv' : Value} {gq : Nat} (g : V.grownBy V' qv.ownBlock) (ho : Jbo V' be qv' (qs ++ [j])) (hq : qv'.ownBlock = some gq) (hg : qv.ownBlock = some gq ∨ gq = V.heap.size) : TnS Y es (qs ++ [j]) z b1 be r4 w5 u1 u2 u3 u4 u5 ev qv' V' := by
  have hn := h.n
  have hf : Fr (fun q => qv.ownBlock = some q) V V' := Fr.gb g (fun k hk => hk)
  have ne : ∀ k, qv.ownBlock = some k → be ≤ k := fun k hk => (h.o.block k hk).1
  refine ⟨hf.wx h.x (fun e => by have := ne z e; omega), hf.own h.o1 (own_two h.o1 h.o (by decide)), hf.own h.o2 (own_two h.o2 h.o (by decide)), hf.own h.o3 (own_two h.o3 h.o (by decide)), hf.own h.o4 (own_two h.o4 h.o (by decide)), hf.own h.o5 h.d, ?_, hf.own h.e (own_two h.e h.o (by decide)), ho, ?_, h.h4, h.n⟩
  · intro k hk e
    rw [hq] at e
    injection e with e
    subst e
    rcases hg with hg | hg
    · exact h.d _ hk hg
    · have := (h.o5.block _ hk).2; omega
  · refine ⟨hf.os.trans h.f.os, hf.tape.trans h.f.tape, hf.output.trans h.f.output, Nat.le_trans h.f.size hf.size, fun q hq hm => (hf.block q (Nat.lt_of_lt_of_le hq h.f.size) (fun e => ?_)).trans (h.f.block q hq hm)⟩
    have := ne q e
    omega
theorem TnS.under (h : TnS Y es qs z b1 be r4 w5 u1 u2 u3 u4 u5 ev qv V) : ∀ x ∈ [u1, u2, u3, u4, u5, ev, qv], ∀ k, x.ownBlock = some k → k < V.heap.size := by
  intro x hx k hk
  simp only [List.mem_cons, List.not_mem_nil, or_false] at hx
  rcases hx with rfl | rfl | rfl | rfl | rfl | rfl | rfl
  · exact (h.o1.block k hk).2
  · exact (h.o2.block k hk).2
  · exact (h.o3.block k hk).2
  · exact (h.o4.block k hk).2
  · exact (h.o5.block k hk).2
  · exact (h.e.block k hk).2
  · exact (h.o.block k hk).2
/-- a block that none of the lists lies in has turned. -/
theorem TnS.box (h : TnS Y es qs z b1 be r4 w5 u1 u2 u3 u4 u5 ev qv V) {b : Nat} (hk : Kp b V V') (hb : be ≤ b) (hl : ∀ x ∈ [u1, u2, u3, u4, u5, ev, qv], ∀ k, x.ownBlock = some k → k < b) : TnS Y es qs z b1 be r4 w5 u1 u2 u3 u4 u5 ev qv V' := by
  have hn := h.n
  have hf : Fr (fun q => q = b) V V' := Fr.kp hk rfl
  have no : ∀ x ∈ [u1, u2, u3, u4, u5, ev, qv], ∀ k, x.ownBlock = some k → ¬ k = b := fun x hx k hk => by have := hl x hx k hk; omega
  refine ⟨hf.wx h.x (by omega), hf.own h.o1 (no u1 (by simp)), hf.own h.o2 (no u2 (by simp)), hf.own h.o3 (no u3 (by simp)), hf.own h.o4 (no u4 (by simp)), hf.own h.o5 (no u5 (by simp)), h.d, hf.own h.e (no ev (by simp)), hf.own h.o (no qv (by simp)), ?_, h.h4, h.n⟩
  exact ⟨hf.os.trans h.f.os, hf.tape.trans h.f.tape, hf.output.trans h.f.output, Nat.le_trans h.f.size hf.size, fun q hq hm => (hf.block q (Nat.lt_of_lt_of_le hq h.f.size) (fun e => by omega)).trans (h.f.block q hq hm)⟩
/-- one more unit, and what the box holds then. -/
theorem TnS.more (h : TnS Y es qs z b1 be r4 w5 u1 u2 u3 u4 u5 ev qv V) {d : UnV} {n' : Int} {u4' : Value} {g4 : Nat} {V1 V2 : World} (g : V.grownBy V1 u4.ownBlock) (ho : Uno V1 b1 u4' (Y.us ++ [d])) (hq : u4'.ownBlock = some g4) (hg : u4.ownBlock = some g4 ∨ g4 = V.heap.size)
    (hk : Kp z V1 V2) (hx : Wx V2 z (.int .i64 Y.turn) (.int .i64 n') (.int .i64 Y.wide) (.int .i64 Y.high) u1 u2 u3 u4' u5) : TnS { Y with next := n', us := Y.us ++ [d] } es qs z b1 be r4 w5 u1 u2 u3 u4' u5 ev qv V2 := by
  have hn := h.n
  have hs := h.size
  have hf1 : Fr (fun q => u4.ownBlock = some q) V V1 := Fr.gb g (fun k hk => hk)
  have hf2 : Fr (fun q => q = z) V1 V2 := Fr.kp hk rfl
  have a1 := hf1.own h.o1 (own_two h.o1 h.o4 (by decide))
  have a2 := hf1.own h.o2 (own_two h.o2 h.o4 (by decide))
  have a3 := hf1.own h.o3 (own_two h.o3 h.o4 (by decide))
  have a5 := hf1.own h.o5 (own_two h.o5 h.o4 (by decide))
  have ae := hf1.own h.e (own_two h.e h.o4 (by decide))
  have ao := hf1.own h.o (own_two h.o h.o4 (by decide))
  refine ⟨hx, hf2.own a1 (fun k hk => by have := (h.o1.block k hk).1; omega), hf2.own a2 (fun k hk => by have := (h.o2.block k hk).1; omega), hf2.own a3 (fun k hk => by have := (h.o3.block k hk).1; omega), hf2.own ho (fun k hk => by have := (ho.block k hk).1; omega), hf2.own a5 (fun k hk => by have := (h.o5.block k hk).1; omega), h.d, hf2.own ae (fun k hk => by have := (h.e.block k hk).1; omega), hf2.own ao (fun k hk => by have := (h.o.block k hk).1; omega), ?_, ?_, h.n⟩
  · refine ⟨hf2.os.trans (hf1.os.trans h.f.os), hf2.tape.trans (hf1.tape.trans h.f.tape), hf2.output.trans (hf1.output.trans h.f.output), Nat.le_trans h.f.size (Nat.le_trans hf1.size hf2.size), fun q hq hm => ?_⟩
    have q1 := Nat.lt_of_lt_of_le hq h.f.size
    refine ((hf2.block q (Nat.lt_of_lt_of_le q1 hf1.size) (fun e => hm (.inl e))).trans (hf1.block q q1 (fun e => ?_))).trans (h.f.block q hq hm)
    rcases h.h4 q e with e | e
    · exact hm (.inr e)
    · omega
  · intro k hk
    rw [hq] at hk
    injection hk with hk
    subst hk
    rcases hg with hg | hg
    · exact h.h4 _ hg
    · exact .inr (by omega)
end
end Go.Proofs.YteieikgkmfglaaaGreatDoor

namespace Go.Proofs.YteieikgkmfglaaaGreatDoor
open Go.RowKit Wy
set_option linter.unusedVariables false

set_option maxHeartbeats 1000000 in
theorem From_ok (v : Value) (W H : Nat) (gs os : List Int) (a : Nat) (fl : Bool) (w : World) (h : Fl w v W H gs os) (hs : Sd w) (G : Fd.Good W H gs os) (ha : a < W * H) :
    Calls Tryz.prog 171 #[v, .int .i64 (a : Nat), .bool fl] w fun e w' => ∃ b l, e = .returned (.tuple #[.slice (some ⟨b, 0, none⟩) (W * H) (W * H), .nilIface]) ∧ w.heap.size ≤ b ∧ Ro w' (.slice (some ⟨b, 0, none⟩) (W * H) (W * H)) l ∧ (IsFar (Fd.near W H) (fun i _ => (gs.map fun g => Fd.onto g fl).getD i 0) a (W * H) l ∧ Flat l) ∧ Below w.heap.size w w' := by
  have F0 : Hid (Fl w v W H gs os) := h
  have S0 : Hid (Sd w) := hs
  have G0 : Hid (Fd.Good W H gs os) := G
  have A0 : Hid (a < W * H) := ha
  obtain ⟨u1, u2, rfl, ⟨a1, c, rfl, c1, c2, ca⟩, ⟨b1, d, rfl, d1, d2, cb⟩⟩ := h
  obtain ⟨ss, hss⟩ : ∃ ss, (gs.map fun g => Fd.onto g fl) = ss := ⟨_, rfl⟩
  have Hss : Hid ((gs.map fun g => Fd.onto g fl) = ss) := hss
  have E0 : Hid (Even (Fd.near W H) (fun i _ => ss.getD i 0) (W * H)) := by rw [← hss]; exact even_from G.w1 gs fl
  rw [hss]
  clear ca cb hs G ha hss
  go_enter Tryz.func171, Tryz.ntmps171
  go_wp2_with fail
  have b0 : Below w.heap.size w ((w.alloc (Obj.cells #[.int .i64 W, .int .i64 H, .slice a1 gs.length c, .slice b1 os.length d] 25)).alloc (Obj.cells #[.int .i64 (a : Nat)] 3)) := ((Below.refl _ _).alloc (Nat.le_refl _) _).alloc (by simp) _
  refine (look_ok _ _ W H gs os [(a : Int)] fl _ (F0.out.below b0) G0.out (S0.out.below b0) (Ro.lit1 (w := w.alloc _) (a : Int) (by simp)) (by have := A0.out; simp; omega)).mono ?_
  rintro e w1 ⟨⟨v1, rfl, hL⟩, hb⟩
  rw [Hss.out] at hL
  have B1 : Hid (Below w.heap.size w w1) := b0.trans (hb.mono (by simp; omega))
  have L1 : Hid (Ld w1 v1 (W * H) (Fd.near W H) ss) := hL
  obtain ⟨p1, p2, rfl, ⟨x1, k1, rfl, -⟩, ⟨x2, k2, rfl, -⟩, -⟩ := hL
  clear hb b0
  go_wp2_with fail
  have b2 : Below w1.heap.size w1 (w1.alloc (Obj.cells #[.slice (some x1) (W * H) k1, .slice x2 ss.length k2] 147)) := (Below.refl _ _).alloc (Nat.le_refl _) _
  refine (farFrom_ok _ (W * H) a (Fd.near W H) ss _ (L1.out.below b2) E0.out A0.out G0.out.pos.2 (Fd.near_len W H)).mono ?_
  rintro e w2 ⟨b, l, rfl, hbz, hbk, hf, hb⟩
  have BZ : Hid (w.heap.size ≤ b) := Nat.le_trans (Nat.le_trans B1.out.size b2.size) hbz
  have P : Hid (Ro w2 (.slice (some ⟨b, 0, none⟩) (W * H) (W * H)) l ∧ (IsFar (Fd.near W H) (fun i _ => ss.getD i 0) a (W * H) l ∧ Flat l) ∧ Below w.heap.size w w2) := by
    refine ⟨?_, hf, (B1.out.trans (b2.mono B1.out.size)).trans (hb.mono (Nat.le_trans B1.out.size b2.size))⟩
    have := hbk.ro (c := W * H) (by rw [hf.1.1]; exact Nat.le_refl _) (by have := G0.out.pos.2; omega)
    rw [hf.1.1] at this
    exact this
  clear hbz hbk hf hb b2
  go_wp2
  go_ret2
  exact ⟨b, l, rfl, BZ.out, P.out.1, P.out.2.1, P.out.2.2⟩
end Go.Proofs.YteieikgkmfglaaaGreatDoor

namespace Go.Proofs.YteieikgkmfglaaaGreatDoor
open Go.RowKit
set_option linter.unusedVariables false

/-- clear of a slice of units. -/
theorem run_clear_uns (w : World) (g m n c : Nat) (ks : List UnV) (rest : List Value) (hg : Ub w g ks rest) (hn : 0 < n) (hm : m + n = ks.length) :
    ∃ w', (∀ ty, (Builtin.clear_ #[26] ty #[.slice (some ⟨g, m * 8, none⟩) n c]).run Tryz.prog w = .ok (.tuple #[]) w') ∧ Ub w' g (ks.take m ++ List.replicate n (⟨0, 0, 0, 0, 0, 0, 0, 0⟩ : UnV)) rest ∧ Below g w w' ∧ w'.heap.size = w.heap.size ∧ Kp g w w' := by
  have hzv : ∀ w, (zeroValue 44).run Tryz.prog w = .ok (.agg #[.int .i64 0, .int .i64 0, .int .i64 0, .int .i64 0, .int .i64 0, .int .i64 0, .int .i64 0, .int .i64 0]) w := fun w => by kernel_rfl
  have hzc : (Builtin.zeroCells (Value.agg #[.int .i64 0, .int .i64 0, .int .i64 0, .int .i64 0, .int .i64 0, .int .i64 0, .int .i64 0, .int .i64 0]).cells n).toList = (List.replicate n (⟨0, 0, 0, 0, 0, 0, 0, 0⟩ : UnV)).flatMap UnV.cs := by
    have hz8 : (Value.agg #[.int .i64 0, .int .i64 0, .int .i64 0, .int .i64 0, .int .i64 0, .int .i64 0, .int .i64 0, .int .i64 0]).cells = #[.int .i64 0, .int .i64 0, .int .i64 0, .int .i64 0, .int .i64 0, .int .i64 0, .int .i64 0, .int .i64 0] := by rfl
    rw [hz8]
    unfold Builtin.zeroCells
    apply List.ext_getElem?
    intro i
    by_cases hi : i < n * 8
    · have e1 : (List.replicate n (⟨0, 0, 0, 0, 0, 0, 0, 0⟩ : UnV))[i / 8]? = some ⟨0, 0, 0, 0, 0, 0, 0, 0⟩ := by
        rw [List.getElem?_replicate, if_pos (by omega)]
      have e2 := flat_un _ (i / 8) (i % 8) _ e1 (Nat.mod_lt _ (by decide))
      rw [show i / 8 * 8 + i % 8 = i by omega] at e2
      rw [e2]
      have h8 : i % 8 < 8 := Nat.mod_lt _ (by decide)
      simp [UnV.cs, hi]
      generalize i % 8 = r at *
      match r, h8 with
      | 0, _ => rfl
      | 1, _ => rfl
      | 2, _ => rfl
      | 3, _ => rfl
      | 4, _ => rfl
      | 5, _ => rfl
      | 6, _ => rfl
      | 7, _ => rfl
    · rw [List.getElem?_eq_none (by simp; omega), List.getElem?_eq_none (by rw [len_un, List.length_replicate]; omega)]
  obtain ⟨vs, hvs⟩ : ∃ vs, (List.replicate n (⟨0, 0, 0, 0, 0, 0, 0, 0⟩ : UnV)).flatMap UnV.cs = vs := ⟨_, rfl⟩
  have hvl : vs.length = n * 8 := by rw [← hvs, len_un, List.length_replicate]
  have h1c : ∀ v ∈ vs, v.oneCell' = true := by
    intro v hv
    rw [← hvs] at hv
    obtain ⟨k, -, hk⟩ := List.mem_flatMap.1 hv
    simp [UnV.cs] at hk
    rcases hk with rfl | rfl | rfl | rfl | rfl | rfl | rfl | rfl <;> rfl
  have hst := run_storeCells_at (P := Tryz.prog) g (m * 8) 44 vs 0 _ w hg (by simp only [List.size_toArray, List.length_append, len_un, hvl]; omega) h1c
  have hml : (ks.take m).length = m := by rw [List.length_take]; omega
  have hL : (ks.flatMap UnV.cs ++ rest).toArray.toList.take (m * 8 + 0) ++ vs ++ (ks.flatMap UnV.cs ++ rest).toArray.toList.drop (m * 8 + 0 + vs.length) = (ks.take m ++ List.replicate n (⟨0, 0, 0, 0, 0, 0, 0, 0⟩ : UnV)).flatMap UnV.cs ++ rest := by
    have e1 : (ks.flatMap UnV.cs ++ rest).take (m * 8) = (ks.take m).flatMap UnV.cs := by
      conv => lhs; rw [← List.take_append_drop m ks, List.flatMap_append, List.append_assoc]
      rw [List.take_left' (by rw [len_un, hml])]
    have e2 : (ks.flatMap UnV.cs ++ rest).drop (m * 8 + vs.length) = rest := by
      rw [List.drop_left' (by rw [len_un, hvl]; omega)]
    show (ks.flatMap UnV.cs ++ rest).take (m * 8) ++ vs ++ (ks.flatMap UnV.cs ++ rest).drop (m * 8 + vs.length) = _
    rw [e1, e2, List.flatMap_append, hvs]
  rw [hL] at hst
  refine ⟨w.setRow g ((ks.take m ++ List.replicate n (⟨0, 0, 0, 0, 0, 0, 0, 0⟩ : UnV)).flatMap UnV.cs ++ rest).toArray, fun ty => ?_, ?_, ?_, ?_, ?_⟩
  · obtain ⟨n', rfl⟩ : ∃ n', n = n' + 1 := ⟨n - 1, by omega⟩
    simp only [hvs] at hzc
    simp [Builtin.clear_, run_underlying Tryz.underlying26, hzv, hzc, hst]
  · exact setRow_heap w g _ _ _ _ hg
  · exact ⟨rfl, rfl, rfl, by simp, fun k hk => setRow_other _ _ _ _ (by omega)⟩
  · simp
  · exact ⟨rfl, rfl, rfl, by simp, fun k hk hn => setRow_other _ _ _ _ (by omega)⟩
theorem del_keep {ks L : List UnV} {p : UnV → Bool} {i j : Nat} {y : UnV} (h : L.take i = (ks.take j).filter (fun k => !p k)) (hd : L.drop j = ks.drop j) (hij : i < j) (hl : L.length = ks.length) (hy : ks[j]? = some y) (hp : p y = false) :
    (L.set i y).take (i + 1) = (ks.take (j + 1)).filter (fun k => !p k) ∧ (L.set i y).drop (j + 1) = ks.drop (j + 1) := by
  have hj : j < ks.length := (List.getElem?_eq_some_iff.1 hy).1
  have hi : i < L.length := by omega
  constructor
  · rw [List.take_succ_eq_append_getElem (by simpa using hi), List.take_set_of_le (Nat.le_refl _), List.getElem_set_self, h]
    have : (ks.take (j + 1)) = ks.take j ++ [y] := by
      rw [List.take_succ_eq_append_getElem hj]
      rw [(List.getElem?_eq_some_iff.1 hy).2]
    rw [this, List.filter_append]
    simp [hp]
  · rw [List.drop_set_of_lt (by omega)]
    have h1 : L.drop (j + 1) = (L.drop j).drop 1 := by rw [List.drop_drop]
    rw [h1, hd, List.drop_drop]
theorem del_skip {ks L : List UnV} {p : UnV → Bool} {i j : Nat} {y : UnV} (h : L.take i = (ks.take j).filter (fun k => !p k)) (hd : L.drop j = ks.drop j) (hy : ks[j]? = some y) (hp : p y = true) :
    L.take i = (ks.take (j + 1)).filter (fun k => !p k) ∧ L.drop (j + 1) = ks.drop (j + 1) := by
  have hj : j < ks.length := (List.getElem?_eq_some_iff.1 hy).1
  constructor
  · have : (ks.take (j + 1)) = ks.take j ++ [y] := by
      rw [List.take_succ_eq_append_getElem hj]
      rw [(List.getElem?_eq_some_iff.1 hy).2]
    rw [this, List.filter_append, h]
    simp [hp]
  · have h1 : L.drop (j + 1) = (L.drop j).drop 1 := by rw [List.drop_drop]
    rw [h1, hd, List.drop_drop]
theorem del_start {ks : List UnV} {p : UnV → Bool} {i : Nat} {x : UnV} (hx : ks[i]? = some x) (hp : p x = true) (hn : (ks.take i).any p = false) : ks.take i = (ks.take (i + 1)).filter (fun k => !p k) := by
  have hi : i < ks.length := (List.getElem?_eq_some_iff.1 hx).1
  have : (ks.take (i + 1)) = ks.take i ++ [x] := by
    rw [List.take_succ_eq_append_getElem hi]
    rw [(List.getElem?_eq_some_iff.1 hx).2]
  rw [this, List.filter_append]
  have e : (ks.take i).filter (fun k => !p k) = ks.take i := by
    rw [List.filter_eq_self]
    intro a ha
    have := List.any_eq_false.1 hn a ha
    simpa using this
  rw [e]
  simp [hp]

theorem del_gb {w w1 w' : World} {g n c : Nat} (h : Below w.heap.size w w1) (k : Kp g w1 w') : w.grownBy w' (Value.slice (some ⟨g, 0, none⟩) n c).ownBlock :=
  ⟨k.os.trans h.os, k.tape.trans h.tape, k.output.trans h.output, Nat.le_trans h.size k.size, fun i hi hr => (k.block i (Nat.lt_of_lt_of_le hi h.size) (fun e => hr (by rw [e]; rfl))).trans (h.block i hi)⟩
theorem ub_kp (wb : World) (g i : Nat) (y : UnV) : Kp g wb ((((((((wb.setCell ⟨g, i * 8, none⟩ (.int .i64 y.id)).setCell ⟨g, i * 8 + 1, none⟩ (.int .i64 y.player)).setCell ⟨g, i * 8 + 2, none⟩ (.int .i64 y.kind)).setCell ⟨g, i * 8 + 3, none⟩ (.int .i64 y.at_)).setCell ⟨g, i * 8 + 4, none⟩ (.int .i64 y.life)).setCell ⟨g, i * 8 + 5, none⟩ (.int .i64 y.load)).setCell ⟨g, i * 8 + 6, none⟩ (.int .i64 y.task)).setCell ⟨g, i * 8 + 7, none⟩ (.int .i64 y.goal)) :=
  (((((((Kp.set (z := g) _ _ _).trans (Kp.set _ _ _)).trans (Kp.set _ _ _)).trans (Kp.set _ _ _)).trans (Kp.set _ _ _)).trans (Kp.set _ _ _)).trans (Kp.set _ _ _)).trans (Kp.set _ _ _)
set_option maxRecDepth 100000 in
set_option maxHeartbeats 8000000 in
theorem del_own (K : Nat) (eK : ∀ args w, (callFunc K args).run Tryz.prog w = .ok (.enter K args) w) (u : Value) (cs : Array Value) (ks : List UnV) (p : UnV → Bool) (w : World) (base : Nat) (hu : Uno w base u ks) (hbase : base ≤ w.heap.size) (hl : ks.length ≤ 1000000)
    (hp : ∀ W, Below base w W → w.grownBy W u.ownBlock → ∀ k ∈ ks, Calls Tryz.prog K (#[k.val] ++ cs) W fun e w' => e = .returned (.bool (p k)) ∧ Below W.heap.size W w') :
    Calls Tryz.prog 79 #[u, .func (Fn.func K) #[] cs] w fun e w' => ∃ v, e = .returned v ∧ Uno w' base v (ks.filter (fun k => !p k)) ∧ Below base w w' ∧ w.grownBy w' u.ownBlock ∧ v.ownBlock = u.ownBlock := by
  have H' : Hid (Calls Tryz.prog 64 #[u, .func (Fn.func K) #[] cs] w fun e w' => ∃ r : Int, e = .returned (.int .i64 r) ∧ FstU p ks r ∧ Below w.heap.size w w') := idxm_any K eK u cs ks p w hu.l (fun W hW k hk => hp W (hW.mono hbase) ⟨hW.os, hW.tape, hW.output, hW.size, fun k hk _ => hW.block k hk⟩ k hk)
  have Hp : Hid (∀ W, Below base w W → w.grownBy W u.ownBlock → ∀ k ∈ ks, Calls Tryz.prog K (#[k.val] ++ cs) W fun e w' => e = .returned (.bool (p k)) ∧ Below W.heap.size W w') := hp
  have U : Hid (Uno w base u ks) := hu
  have HB : Hid (base ≤ w.heap.size ∧ ks.length ≤ 1000000) := ⟨hbase, hl⟩
  clear hp hu hbase
  go_enter Tryz.func79, Tryz.ntmps79
  go_wp2_with fail
  refine Calls.mono H'.out ?_
  rintro e w1 ⟨r, rfl, hf, hb⟩
  have B1 : Hid (Below base w w1) := hb.mono HB.out.1
  have U1 : Hid (Uno w1 base u ks) := U.out.below hb
  have S1 : Hid (w.heap.size ≤ w1.heap.size) := hb.size
  have G1 : Hid (Below w.heap.size w w1) := hb
  clear hb U H'
  rcases hf with ⟨rfl, hno⟩ | ⟨i0, x, rfl, hx, hpx, hnx⟩
  · have NO : Hid (ks.filter (fun k => !p k) = ks) := by
      unfold Hid
      rw [List.filter_eq_self]
      intro a ha
      have := List.any_eq_false.1 hno a ha
      simpa using this
    clear hno
    go_wp2
    go_ret
    exact ⟨u, rfl, by rw [NO.out]; exact U1.out, B1.out, ⟨G1.out.os, G1.out.tape, G1.out.output, G1.out.size, fun k hk _ => G1.out.block k hk⟩, rfl⟩
  have hi0 : i0 < ks.length := (List.getElem?_eq_some_iff.1 hx).1
  rcases U1.out.ub with ⟨rfl, h⟩ | ⟨g, cap, rest, rfl, hbg, hkc, hcm, hcl, hub⟩
  · rw [h] at hi0; simp at hi0
  have ST : Hid (ks.take i0 = (ks.take (i0 + 1)).filter (fun k => !p k)) := del_start hx hpx hnx
  have GG : Hid (base ≤ g ∧ ks.length ≤ cap ∧ cap ≤ maxLen ∧ ks.length * 8 + rest.length = cap * 8) := ⟨hbg, hkc, hcm, hcl⟩
  have UB : Hid (Ub w1 g ks rest) := hub
  have hcm' : cap ≤ 9223372036854775807 := by unfold maxLen at hcm; omega
  clear hx hpx hnx hbg hcm hcl hub U1
  have hm1 : (((i0 : Nat) : Int) == -1) = false := by rw [beq_eq_false_iff_ne]; omega
  go_wp2
  go_loopw [5, 6] (fun vi vj W => ∃ (i j : Nat) (L : List UnV), vi = .int .i64 (i : Nat) ∧ vj = .int .i64 (j : Nat) ∧ i < j ∧ j ≤ ks.length ∧ L.length = ks.length ∧ L.take i = (ks.take j).filter (fun k => !p k) ∧ L.drop j = ks.drop j ∧ Ub W g L rest ∧ Below base w W ∧ Kp g w1 W) (fun _ vj _ => ks.length - (intOf vj).toNat)
  case atStart => exact ⟨i0, i0 + 1, ks, rfl, by go_num, by omega, by omega, rfl, ST.out, rfl, UB.out, B1.out, Kp.refl _ _⟩
  case round =>
    obtain ⟨i, j, L, rfl, rfl, hij, hjn, hLl, hLt, hLd, hLu, hLb, hLk⟩ := hrel
    have LU : Hid (Ub wr g L rest) := hLu
    have LB : Hid (Below base w wr) := hLb
    have LK : Hid (Kp g w1 wr) := hLk
    clear hLk
    have LL : Hid (L.length = ks.length ∧ L.take i = (ks.take j).filter (fun k => !p k) ∧ L.drop j = ks.drop j) := ⟨hLl, hLt, hLd⟩
    clear hLu hLb hLl hLt hLd UB B1 ST
    by_cases h0 : j = ks.length
    · subst h0
      obtain ⟨wc, hcl, hUc, hBc, hSc, hKc⟩ := run_clear_uns wr g i (ks.length - i) (cap - i) L rest LU.out (by omega) (by rw [LL.out.1]; omega)
      have UC : Hid (Ub wc g (L.take i) ((List.replicate (ks.length - i) (⟨0, 0, 0, 0, 0, 0, 0, 0⟩ : UnV)).flatMap UnV.cs ++ rest)) := by
        unfold Ub at hUc
        unfold Hid Ub
        rw [← List.append_assoc, ← List.flatMap_append]
        exact hUc
      have BC : Hid (Below base w wc) := LB.out.trans (hBc.mono GG.out.1)
      have KC : Hid (Kp g w1 wc) := LK.out.trans hKc
      have IL : Hid ((L.take i).length = i) := by unfold Hid; rw [List.length_take, LL.out.1]; omega
      clear hUc hBc hSc hKc
      go_wp2
      go_ret
      have h1 := UC.out.uno (base := base) (cap := cap) GG.out.1 (by rw [IL.out]; have := GG.out.2.1; omega) GG.out.2.2.1 (by
        rw [IL.out, List.length_append, len_un, List.length_replicate]
        have := GG.out.2.2.2
        omega)
      rw [IL.out] at h1
      refine ⟨_, rfl, ?_, BC.out, del_gb G1.out KC.out, rfl⟩
      have h2 := LL.out.2.1
      rw [List.take_of_length_le (Nat.le_refl _)] at h2
      rw [← h2]
      exact h1
    · have hjl : j < ks.length := by omega
      have hji : ((j : Nat) : Int) < (ks.length : Nat) := by omega
      obtain ⟨y, hy⟩ : ∃ y, ks[j]? = some y := ⟨_, List.getElem?_eq_getElem hjl⟩
      have hLy : L[j]? = some y := by
        have h1 : (L.drop j)[0]? = (ks.drop j)[0]? := by rw [LL.out.2.2]
        rw [List.getElem?_drop, List.getElem?_drop] at h1
        rw [Nat.add_zero] at h1
        rw [h1]; exact hy
      obtain ⟨q0, q1, q2, q3, q4, q5, q6, q7⟩ := LU.out.unc hLy
      have HY : Hid (ks[j]? = some y) := hy
      have wi : IntKind.i64.wrap ((i : Nat) + 1 : Int) = ((i : Nat) : Int) + 1 := by rw [IntKind.wrap_i64]; omega
      have wj : IntKind.i64.wrap ((j : Nat) + 1 : Int) = ((j : Nat) : Int) + 1 := by rw [IntKind.wrap_i64]; omega
      clear hLy hy
      go_upto_region 8 with fail
      have BA : Hid (Below wr.heap.size wr (wr.alloc (Obj.cells #[.int .i64 y.id, .int .i64 y.player, .int .i64 y.kind, .int .i64 y.at_, .int .i64 y.life, .int .i64 y.load, .int .i64 y.task, .int .i64 y.goal] 44))) := (Below.refl _ _).alloc (Nat.le_refl _) _
      have XA : Hid (Unc (wr.alloc (Obj.cells #[.int .i64 y.id, .int .i64 y.player, .int .i64 y.kind, .int .i64 y.at_, .int .i64 y.life, .int .i64 y.load, .int .i64 y.task, .int .i64 y.goal] 44)) ⟨wr.heap.size, 0, none⟩ y) := Unc.mk' y rfl
      generalize (wr.alloc (Obj.cells #[.int .i64 y.id, .int .i64 y.player, .int .i64 y.kind, .int .i64 y.at_, .int .i64 y.life, .int .i64 y.load, .int .i64 y.task, .int .i64 y.goal] 44)) = wa at *
      have UA : Hid (Ub wa g L rest) := LU.out.below BA.out LU.out.lt
      have AB : Hid (Below base w wa) := LB.out.trans (BA.out.mono (Nat.le_trans HB.out.1 LB.out.size))
      have KA : Hid (Kp g w1 wa) := LK.out.trans (Kp.of BA.out)
      clear LK
      obtain ⟨z, hz⟩ : ∃ z, wr.heap.size = z := ⟨_, rfl⟩
      rw [hz] at XA ⊢
      have ZG : Hid (g < z) := by rw [← hz]; exact LU.out.lt
      clear hz BA LU LB q0 q1 q2 q3 q4 q5 q6 q7
      obtain ⟨q0, q1, q2, q3, q4, q5, q6, q7⟩ := XA.out
      cases hpy : p y with
      | true =>
        have PY : Hid (p y = true) := hpy
        have hc := Hp.out wa AB.out (del_gb G1.out KA.out) y (List.mem_of_getElem? HY.out)
        rw [hpy] at hc
        have Hc : Hid (Calls Tryz.prog K (#[y.val] ++ cs) wa fun e w' => e = .returned (.bool true) ∧ Below wa.heap.size wa w') := hc
        clear hc hpy
        go_wp2_with fail
        refine Calls.mono Hc.out ?_
        rintro e wb ⟨rfl, hb⟩
        have UW : Hid (Ub wb g L rest) := UA.out.below hb UA.out.lt
        have WB : Hid (Below base w wb) := AB.out.trans (hb.mono (Nat.le_trans HB.out.1 AB.out.size))
        have KW : Hid (Kp g w1 wb) := KA.out.trans (Kp.of hb)
        clear KA
        clear hb q0 q1 q2 q3 q4 q5 q6 q7 UA AB XA Hc
        go_wp2
        go_round
        case rel => exact ⟨i, j + 1, L, rfl, by go_num, by omega, by omega, LL.out.1, (del_skip LL.out.2.1 LL.out.2.2 HY.out PY.out).1, (del_skip LL.out.2.1 LL.out.2.2 HY.out PY.out).2, UW.out, WB.out, KW.out⟩
        case measure => simp [intOf]; omega
      | false =>
        have PY : Hid (p y = false) := hpy
        have hc := Hp.out wa AB.out (del_gb G1.out KA.out) y (List.mem_of_getElem? HY.out)
        rw [hpy] at hc
        have Hc : Hid (Calls Tryz.prog K (#[y.val] ++ cs) wa fun e w' => e = .returned (.bool false) ∧ Below wa.heap.size wa w') := hc
        clear hc hpy
        go_wp2_with fail
        refine Calls.mono Hc.out ?_
        rintro e wb ⟨rfl, hb⟩
        have UW : Hid (Ub wb g L rest) := UA.out.below hb UA.out.lt
        have WB : Hid (Below base w wb) := AB.out.trans (hb.mono (Nat.le_trans HB.out.1 AB.out.size))
        have KW : Hid (Kp g w1 wb) := KA.out.trans (Kp.of hb)
        clear KA
        have XB : Hid (Unc wb ⟨z, 0, none⟩ y) := XA.out.below hb XA.out.lt
        clear hb q0 q1 q2 q3 q4 q5 q6 q7 UA AB XA Hc
        have hil : i < L.length := by rw [LL.out.1]; omega
        obtain ⟨z0, hz0⟩ : ∃ z0, L[i]? = some z0 := ⟨_, List.getElem?_eq_getElem hil⟩
        obtain ⟨q0, q1, q2, q3, q4, q5, q6, q7⟩ := XB.out
        obtain ⟨r0, r1, r2, r3, r4, r5, r6, r7⟩ := UW.out.unc hz0
        have f0 := UW.out.thaw (i * 8)
        have f1 := UW.out.thaw (i * 8 + 1)
        have f2 := UW.out.thaw (i * 8 + 2)
        have f3 := UW.out.thaw (i * 8 + 3)
        have f4 := UW.out.thaw (i * 8 + 4)
        have f5 := UW.out.thaw (i * 8 + 5)
        have f6 := UW.out.thaw (i * 8 + 6)
        have f7 := UW.out.thaw (i * 8 + 7)
        have UP : Hid (Ub ((((((((wb.setCell ⟨g, i * 8, none⟩ (.int .i64 y.id)).setCell ⟨g, i * 8 + 1, none⟩ (.int .i64 y.player)).setCell ⟨g, i * 8 + 2, none⟩ (.int .i64 y.kind)).setCell ⟨g, i * 8 + 3, none⟩ (.int .i64 y.at_)).setCell ⟨g, i * 8 + 4, none⟩ (.int .i64 y.life)).setCell ⟨g, i * 8 + 5, none⟩ (.int .i64 y.load)).setCell ⟨g, i * 8 + 6, none⟩ (.int .i64 y.task)).setCell ⟨g, i * 8 + 7, none⟩ (.int .i64 y.goal)) g (L.set i y) rest) := UW.out.put hil y
        have BP : Hid (Below base w ((((((((wb.setCell ⟨g, i * 8, none⟩ (.int .i64 y.id)).setCell ⟨g, i * 8 + 1, none⟩ (.int .i64 y.player)).setCell ⟨g, i * 8 + 2, none⟩ (.int .i64 y.kind)).setCell ⟨g, i * 8 + 3, none⟩ (.int .i64 y.at_)).setCell ⟨g, i * 8 + 4, none⟩ (.int .i64 y.life)).setCell ⟨g, i * 8 + 5, none⟩ (.int .i64 y.load)).setCell ⟨g, i * 8 + 6, none⟩ (.int .i64 y.task)).setCell ⟨g, i * 8 + 7, none⟩ (.int .i64 y.goal))) := ub_below y WB.out GG.out.1
        have KP : Hid (Kp g w1 ((((((((wb.setCell ⟨g, i * 8, none⟩ (.int .i64 y.id)).setCell ⟨g, i * 8 + 1, none⟩ (.int .i64 y.player)).setCell ⟨g, i * 8 + 2, none⟩ (.int .i64 y.kind)).setCell ⟨g, i * 8 + 3, none⟩ (.int .i64 y.at_)).setCell ⟨g, i * 8 + 4, none⟩ (.int .i64 y.life)).setCell ⟨g, i * 8 + 5, none⟩ (.int .i64 y.load)).setCell ⟨g, i * 8 + 6, none⟩ (.int .i64 y.task)).setCell ⟨g, i * 8 + 7, none⟩ (.int .i64 y.goal))) := KW.out.trans (ub_kp wb g i y)
        have DK := del_keep LL.out.2.1 LL.out.2.2 hij LL.out.1 HY.out PY.out
        have DH : Hid ((L.set i y).length = ks.length ∧ (L.set i y).take (i + 1) = (ks.take (j + 1)).filter (fun k => !p k) ∧ (L.set i y).drop (j + 1) = ks.drop (j + 1)) := ⟨by rw [List.length_set]; exact LL.out.1, DK.1, DK.2⟩
        clear DK hz0 hil
        go_wp2
        go_round
        case rel => exact ⟨i + 1, j + 1, L.set i y, by go_num, by go_num, by omega, by omega, DH.out.1, DH.out.2.1, DH.out.2.2, UP.out, BP.out, KP.out⟩
        case measure => simp [intOf]; omega
theorem del_any (K : Nat) (eK : ∀ args w, (callFunc K args).run Tryz.prog w = .ok (.enter K args) w) (u : Value) (cs : Array Value) (ks : List UnV) (p : UnV → Bool) (w : World) (base : Nat) (hu : Uno w base u ks) (hbase : base ≤ w.heap.size) (hl : ks.length ≤ 1000000)
    (hp : ∀ W, Below base w W → ∀ k ∈ ks, Calls Tryz.prog K (#[k.val] ++ cs) W fun e w' => e = .returned (.bool (p k)) ∧ Below W.heap.size W w') :
    Calls Tryz.prog 79 #[u, .func (Fn.func K) #[] cs] w fun e w' => ∃ v, e = .returned v ∧ Uno w' base v (ks.filter (fun k => !p k)) ∧ Below base w w' :=
  (del_own K eK u cs ks p w base hu hbase hl (fun W hW _ => hp W hW)).mono fun e w' h => by
    obtain ⟨v, h1, h2, h3, -⟩ := h
    exact ⟨v, h1, h2, h3⟩
end Go.Proofs.YteieikgkmfglaaaGreatDoor

namespace Go.Proofs.YteieikgkmfglaaaGreatDoor
open Go.RowKit
set_option linter.unusedVariables false

/-- of a list the first that is least. -/
def minU (d : UnV → Int) (m : UnV) (l : List UnV) : UnV := l.foldl (fun m x => if d x < d m then x else m) m
theorem minU_next (d : UnV → Int) (m y : UnV) (l : List UnV) (k : Nat) (hy : l[k]? = some y) : minU d m (l.take (k + 1)) = if d y < d (minU d m (l.take k)) then y else minU d m (l.take k) := by
  obtain ⟨hi, e⟩ := List.getElem?_eq_some_iff.1 hy
  unfold minU
  rw [List.take_succ_eq_append_getElem hi, List.foldl_append, e]
  rfl
theorem minU_mem (d : UnV → Int) : ∀ (l : List UnV) (m : UnV), minU d m l ∈ m :: l
  | [], m => by simp [minU]
  | x :: l, m => by
    have h := minU_mem d l (if d x < d m then x else m)
    show minU d (if d x < d m then x else m) l ∈ _
    rcases List.mem_cons.1 h with h | h
    · rw [h]; split <;> simp
    · exact List.mem_cons_of_mem _ (List.mem_cons_of_mem _ h)
theorem ub_one {w : World} {z : Nat} (y : UnV) (hz : w.heap.size = z) : Ub (w.alloc (Obj.cells #[.int .i64 y.id, .int .i64 y.player, .int .i64 y.kind, .int .i64 y.at_, .int .i64 y.life, .int .i64 y.load, .int .i64 y.task, .int .i64 y.goal] 44)) z [y] [] := by
  subst hz
  exact heap_alloc_new _ _

set_option maxRecDepth 100000 in
set_option maxHeartbeats 4000000 in
theorem min_gen (K : Nat) (eK : ∀ args w, (callFunc K args).run Tryz.prog w = .ok (.enter K args) w) (u : Value) (cs : Array Value) (x0 : UnV) (tl : List UnV) (d : UnV → Int) (c : UnV → UnV → Int) (w : World) (hu : Unl w u (x0 :: tl)) (hl : tl.length ≤ 1000000)
    (hcd : ∀ a ∈ x0 :: tl, ∀ b ∈ x0 :: tl, (c a b < 0 ↔ d a < d b))
    (hp : ∀ W, Below w.heap.size w W → ∀ a ∈ x0 :: tl, ∀ b ∈ x0 :: tl, Calls Tryz.prog K (#[a.val, b.val] ++ cs) W fun e w' => e = .returned (.int .i64 (c a b)) ∧ Below W.heap.size W w') :
    Calls Tryz.prog 145 #[u, .func (Fn.func K) #[] cs] w fun e w' => e = .returned (minU d x0 tl).val ∧ Below w.heap.size w w' := by
  have HCD : Hid (∀ a ∈ x0 :: tl, ∀ b ∈ x0 :: tl, (c a b < 0 ↔ d a < d b)) := hcd
  clear hcd
  have Hp : Hid (∀ W, Below w.heap.size w W → ∀ a ∈ x0 :: tl, ∀ b ∈ x0 :: tl, Calls Tryz.prog K (#[a.val, b.val] ++ cs) W fun e w' => e = .returned (.int .i64 (c a b)) ∧ Below W.heap.size W w') := hp
  obtain ⟨a, cc, rfl, h1, h2, h3⟩ := hu
  obtain ⟨x, rfl, hx, hxc⟩ := h3 (by simp)
  have XC : Hid (∀ (i : Nat) k, (x0 :: tl)[i]? = some k → Unc w (x.add (i * 8)) k) := hxc
  have XL : Hid (x.block < w.heap.size) := hx
  obtain ⟨n, hn⟩ : ∃ n, (x0 :: tl).length = n := ⟨_, rfl⟩
  have HN : Hid (tl.length + 1 = n) := by rw [← hn]; rfl
  rw [hn] at h1 ⊢
  have hn1 : 1 ≤ n := by have := HN.out; omega
  have hn0 : ¬ ((n : Nat) : Int) < 1 := by omega
  have hnp : 0 < n := by omega
  clear h3 hxc hx hp hn
  go_enter Tryz.func145, Tryz.ntmps145
  go_upto_region 1 with fail
  have BZ : Hid (Below w.heap.size w (w.alloc (Obj.cells #[.int .i64 0, .int .i64 0, .int .i64 0, .int .i64 0, .int .i64 0, .int .i64 0, .int .i64 0, .int .i64 0] 44))) := (Below.refl _ _).alloc (Nat.le_refl _) _
  have UZ : Hid (Ub (w.alloc (Obj.cells #[.int .i64 0, .int .i64 0, .int .i64 0, .int .i64 0, .int .i64 0, .int .i64 0, .int .i64 0, .int .i64 0] 44)) w.heap.size [⟨0, 0, 0, 0, 0, 0, 0, 0⟩] []) := ub_one ⟨0, 0, 0, 0, 0, 0, 0, 0⟩ rfl
  generalize (w.alloc (Obj.cells #[.int .i64 0, .int .i64 0, .int .i64 0, .int .i64 0, .int .i64 0, .int .i64 0, .int .i64 0, .int .i64 0] 44)) = wz at *
  have q := (XC.out 0 x0 rfl).below BZ.out (by rw [add_block]; exact XL.out)
  rw [Nat.zero_mul] at q
  have ex : x.add 0 = x := by unfold Addr.add; simp
  rw [ex] at q
  obtain ⟨q0, q1, q2, q3, q4, q5, q6, q7⟩ := q
  go_upto_region 4 with fail
  have BA : Hid (Below wz.heap.size wz (wz.alloc (Obj.cells #[.int .i64 x0.id, .int .i64 x0.player, .int .i64 x0.kind, .int .i64 x0.at_, .int .i64 x0.life, .int .i64 x0.load, .int .i64 x0.task, .int .i64 x0.goal] 44))) := (Below.refl _ _).alloc (Nat.le_refl _) _
  have UA : Hid (Ub (wz.alloc (Obj.cells #[.int .i64 x0.id, .int .i64 x0.player, .int .i64 x0.kind, .int .i64 x0.at_, .int .i64 x0.life, .int .i64 x0.load, .int .i64 x0.task, .int .i64 x0.goal] 44)) wz.heap.size [x0] []) := ub_one x0 rfl
  generalize (wz.alloc (Obj.cells #[.int .i64 x0.id, .int .i64 x0.player, .int .i64 x0.kind, .int .i64 x0.at_, .int .i64 x0.life, .int .i64 x0.load, .int .i64 x0.task, .int .i64 x0.goal] 44)) = wa at *
  obtain ⟨zb, hzb⟩ : ∃ z, wz.heap.size = z := ⟨_, rfl⟩
  rw [hzb] at UA ⊢
  have UZ1 : Hid (Ub wa w.heap.size [⟨0, 0, 0, 0, 0, 0, 0, 0⟩] []) := UZ.out.below BA.out UZ.out.lt
  have B1 : Hid (Below w.heap.size w wa) := BZ.out.trans (BA.out.mono BZ.out.size)
  have ZB : Hid (w.heap.size < zb) := by rw [← hzb]; exact UZ.out.lt
  clear hzb BZ UZ BA q0 q1 q2 q3 q4 q5 q6 q7 ex
  go_wp2
  go_loopw [6] (fun vi W => ∃ i k : Nat, i = k + 1 ∧ k ≤ tl.length ∧ vi = .int .i64 (i : Nat) ∧ Ub W zb [minU d x0 (tl.take k)] [] ∧ Ub W w.heap.size [⟨0, 0, 0, 0, 0, 0, 0, 0⟩] [] ∧ Below w.heap.size w W) (fun vi _ => tl.length + 1 - (intOf vi).toNat)
  case atStart => exact ⟨1, 0, rfl, Nat.zero_le _, rfl, UA.out, UZ1.out, B1.out⟩
  case round =>
    obtain ⟨i, k, hik, hk, rfl, hM, hZ, hB⟩ := hrel
    have M : Hid (Ub wr zb [minU d x0 (tl.take k)] []) := hM
    have Z0 : Hid (Ub wr w.heap.size [⟨0, 0, 0, 0, 0, 0, 0, 0⟩] []) := hZ
    have B : Hid (Below w.heap.size w wr) := hB
    clear hM hZ hB UA UZ1 B1
    obtain ⟨m, hm⟩ : ∃ m, minU d x0 (tl.take k) = m := ⟨_, rfl⟩
    have MM : Hid (minU d x0 (tl.take k) = m) := hm
    rw [hm] at M
    clear hm
    by_cases h0 : k = tl.length
    · have hkn : i = n := by have := HN.out; omega
      have hlt : ¬ (((i : Nat) : Int) < (n : Nat)) := by omega
      have MK : Hid (minU d x0 tl = m) := by have := MM.out; rw [List.take_of_length_le (by omega)] at this; exact this
      clear hkn h0 hik hk
      go_upto_region 9 with fail
      obtain ⟨q0, q1, q2, q3, q4, q5, q6, q7⟩ := M.out.unc (i := 0) (o := m) rfl
      obtain ⟨r0, r1, r2, r3, r4, r5, r6, r7⟩ := Z0.out.unc (i := 0) (o := ⟨0, 0, 0, 0, 0, 0, 0, 0⟩) rfl
      simp only [Nat.zero_mul, Nat.zero_add] at q0 q1 q2 q3 q4 q5 q6 q7 r0 r1 r2 r3 r4 r5 r6 r7
      have f0 := Z0.out.thaw 0
      have f1 := Z0.out.thaw 1
      have f2 := Z0.out.thaw 2
      have f3 := Z0.out.thaw 3
      have f4 := Z0.out.thaw 4
      have f5 := Z0.out.thaw 5
      have f6 := Z0.out.thaw 6
      have f7 := Z0.out.thaw 7
      have UP : Hid (Ub ((((((((wr.setCell ⟨w.heap.size, 0, none⟩ (.int .i64 m.id)).setCell ⟨w.heap.size, 1, none⟩ (.int .i64 m.player)).setCell ⟨w.heap.size, 2, none⟩ (.int .i64 m.kind)).setCell ⟨w.heap.size, 3, none⟩ (.int .i64 m.at_)).setCell ⟨w.heap.size, 4, none⟩ (.int .i64 m.life)).setCell ⟨w.heap.size, 5, none⟩ (.int .i64 m.load)).setCell ⟨w.heap.size, 6, none⟩ (.int .i64 m.task)).setCell ⟨w.heap.size, 7, none⟩ (.int .i64 m.goal)) w.heap.size [m] []) := by
        unfold Hid
        have := Z0.out.put (i := 0) (by simp) m
        simpa using this
      have BP : Hid (Below w.heap.size w ((((((((wr.setCell ⟨w.heap.size, 0, none⟩ (.int .i64 m.id)).setCell ⟨w.heap.size, 1, none⟩ (.int .i64 m.player)).setCell ⟨w.heap.size, 2, none⟩ (.int .i64 m.kind)).setCell ⟨w.heap.size, 3, none⟩ (.int .i64 m.at_)).setCell ⟨w.heap.size, 4, none⟩ (.int .i64 m.life)).setCell ⟨w.heap.size, 5, none⟩ (.int .i64 m.load)).setCell ⟨w.heap.size, 6, none⟩ (.int .i64 m.task)).setCell ⟨w.heap.size, 7, none⟩ (.int .i64 m.goal))) := by
        unfold Hid
        have := ub_below (g := w.heap.size) (i := 0) m B.out (Nat.le_refl _)
        simpa using this
      go_wp2
      clear q0 q1 q2 q3 q4 q5 q6 q7 r0 r1 r2 r3 r4 r5 r6 r7 f0 f1 f2 f3 f4 f5 f6 f7
      generalize ((((((((wr.setCell ⟨w.heap.size, 0, none⟩ (.int .i64 m.id)).setCell ⟨w.heap.size, 1, none⟩ (.int .i64 m.player)).setCell ⟨w.heap.size, 2, none⟩ (.int .i64 m.kind)).setCell ⟨w.heap.size, 3, none⟩ (.int .i64 m.at_)).setCell ⟨w.heap.size, 4, none⟩ (.int .i64 m.life)).setCell ⟨w.heap.size, 5, none⟩ (.int .i64 m.load)).setCell ⟨w.heap.size, 6, none⟩ (.int .i64 m.task)).setCell ⟨w.heap.size, 7, none⟩ (.int .i64 m.goal)) = w9 at *
      obtain ⟨y0, y1, y2, y3, y4, y5, y6, y7⟩ := UP.out.unc (i := 0) (o := m) rfl
      simp only [Nat.zero_mul, Nat.zero_add] at y0 y1 y2 y3 y4 y5 y6 y7
      refine bodyPost_ret (v := .agg #[.int .i64 m.id, .int .i64 m.player, .int .i64 m.kind, .int .i64 m.at_, .int .i64 m.life, .int .i64 m.load, .int .i64 m.task, .int .i64 m.goal]) (by simp [results, Tryz.results145, go_sem, y0, y1, y2, y3, y4, y5, y6, y7]) rfl ⟨by rw [MK.out]; rfl, BP.out⟩
    · have hlt : ((i : Nat) : Int) < (n : Nat) := by have := HN.out; omega
      have hln : i < n := by omega
      have wi : IntKind.i64.wrap ((i : Nat) + 1 : Int) = ((i : Nat) : Int) + 1 := by have := HN.out; rw [IntKind.wrap_i64]; omega
      obtain ⟨y, hy⟩ : ∃ y, tl[k]? = some y := ⟨_, List.getElem?_eq_getElem (by omega)⟩
      have HY : Hid (tl[k]? = some y ∧ (x0 :: tl)[i]? = some y ∧ i = k + 1 ∧ k < tl.length) := ⟨hy, by rw [hik, List.getElem?_cons_succ]; exact hy, hik, by omega⟩
      have MI : Hid (m ∈ x0 :: tl) := by
        have h := minU_mem d (tl.take k) x0
        rw [MM.out] at h
        rcases List.mem_cons.1 h with h | h
        · rw [h]; exact List.mem_cons_self ..
        · exact List.mem_cons_of_mem _ (List.mem_of_mem_take h)
      have YC : Hid (Unc w (x.add (i * 8)) y) := XC.out i y HY.out.2.1
      have CB : Hid (∀ V, Below w.heap.size w V → Ub V zb [m] [] → Unc V (x.add (i * 8)) y ∧ Unc V ⟨zb, 0, none⟩ m) := fun V hb hu => ⟨YC.out.below hb (by rw [add_block]; exact XL.out), by have := hu.unc (i := 0) (o := m) rfl; rw [Nat.zero_mul] at this; exact this⟩
      clear hy hik h0 hk
      go_upto_region 7 with fail
      refine wp_region_two [(true, 0), (true, 1), (true, 2), (true, 3), (true, 4), (true, 5), (false, 6)] [(false, 7)] (fun V => Unc V (x.add (i * 8)) y ∧ Unc V ⟨zb, 0, none⟩ m) (by kernel_rfl) (by kernel_rfl) (by kernel_rfl) (by decide +kernel) (by decide +kernel) (CB.out _ B.out.drew (M.out.below ((Below.refl _ _).drew) M.out.lt)) ?_
      have M1 : Hid (Ub { wr with drawn := wr.drawn + 1 } zb [m] []) := M.out.below ((Below.refl _ _).drew) M.out.lt
      have Z1 : Hid (Ub { wr with drawn := wr.drawn + 1 } w.heap.size [⟨0, 0, 0, 0, 0, 0, 0, 0⟩] []) := Z0.out.below ((Below.refl _ _).drew) Z0.out.lt
      have B1 : Hid (Below w.heap.size w { wr with drawn := wr.drawn + 1 }) := B.out.drew
      generalize ({ wr with drawn := wr.drawn + 1 } : World) = wd at *
      clear M Z0 B
      refine headT_read rfl (.func (Fn.func K) #[] cs) (by go_simp) (fun V hV => by go_simp) ?_
      go_simp
      refine headT_read rfl (.slice (some x) n cc) (by go_simp) (fun V hV => by go_simp) ?_
      go_simp
      refine headT_read rfl (.int .i64 (i : Nat)) (by go_simp) (fun V hV => by go_simp) ?_
      go_simp
      refine headT_read rfl (.pointer (some (x.add (i * 8)))) (by go_simp) (fun V hV => by go_simp) ?_
      go_simp
      refine headT_read rfl (.agg #[.int .i64 y.id, .int .i64 y.player, .int .i64 y.kind, .int .i64 y.at_, .int .i64 y.life, .int .i64 y.load, .int .i64 y.task, .int .i64 y.goal]) (by go_simp) (fun V hV => by obtain ⟨⟨q0, q1, q2, q3, q4, q5, q6, q7⟩, ⟨r0, r1, r2, r3, r4, r5, r6, r7⟩⟩ := hV; go_simp) ?_
      go_simp
      refine headT_read rfl (.agg #[.int .i64 m.id, .int .i64 m.player, .int .i64 m.kind, .int .i64 m.at_, .int .i64 m.life, .int .i64 m.load, .int .i64 m.task, .int .i64 m.goal]) (by go_simp) (fun V hV => by obtain ⟨⟨q0, q1, q2, q3, q4, q5, q6, q7⟩, ⟨r0, r1, r2, r3, r4, r5, r6, r7⟩⟩ := hV; go_simp) ?_
      go_simp
      refine headT_call rfl K (#[y.val, m.val] ++ cs) (by go_simp) (by go_simp; rfl) ?_
      refine (Hp.out wd B1.out y (List.mem_of_getElem? HY.out.2.1) m MI.out).mono ?_
      rintro e w2 ⟨rfl, hb⟩
      have M2 : Hid (Ub w2 zb [m] []) := M1.out.below hb M1.out.lt
      have Z2 : Hid (Ub w2 w.heap.size [⟨0, 0, 0, 0, 0, 0, 0, 0⟩] []) := Z1.out.below hb Z1.out.lt
      have B2 : Hid (Below w.heap.size w w2) := B1.out.trans (hb.mono B1.out.size)
      refine ⟨_, rfl, CB.out _ B2.out M2.out, ?_⟩
      clear hb M1 Z1 B1
      go_simp
      obtain ⟨t, ht⟩ : ∃ t, c y m = t := ⟨_, rfl⟩
      have HT : Hid (c y m = t) := ht
      have HU : Hid (t < 0 ↔ d y < d m) := by rw [← ht]; exact HCD.out y (List.mem_of_getElem? HY.out.2.1) m MI.out
      rw [ht]
      clear ht
      refine sched_value rfl (.bool (decide (t < 0))) w2 (by go_simp) (by go_simp) trivial ?_
      go_simp
      unfold wpSched
      have MN := minU_next d x0 y tl k HY.out.1
      rw [MM.out] at MN
      by_cases hlss : t < 0
      · have MN1 : Hid (minU d x0 (tl.take (k + 1)) = y) := by rw [MN, if_pos (HU.out.1 hlss)]; rfl
        clear MN
        go_upto_region 8 with fail
        obtain ⟨q0, q1, q2, q3, q4, q5, q6, q7⟩ := YC.out.below B2.out (by rw [add_block]; exact XL.out)
        obtain ⟨r0, r1, r2, r3, r4, r5, r6, r7⟩ := M2.out.unc (i := 0) (o := m) rfl
        simp only [Nat.zero_mul, Nat.zero_add] at r0 r1 r2 r3 r4 r5 r6 r7
        have f0 := M2.out.thaw 0
        have f1 := M2.out.thaw 1
        have f2 := M2.out.thaw 2
        have f3 := M2.out.thaw 3
        have f4 := M2.out.thaw 4
        have f5 := M2.out.thaw 5
        have f6 := M2.out.thaw 6
        have f7 := M2.out.thaw 7
        have UP : Hid (Ub ((((((((w2.setCell ⟨zb, 0, none⟩ (.int .i64 y.id)).setCell ⟨zb, 1, none⟩ (.int .i64 y.player)).setCell ⟨zb, 2, none⟩ (.int .i64 y.kind)).setCell ⟨zb, 3, none⟩ (.int .i64 y.at_)).setCell ⟨zb, 4, none⟩ (.int .i64 y.life)).setCell ⟨zb, 5, none⟩ (.int .i64 y.load)).setCell ⟨zb, 6, none⟩ (.int .i64 y.task)).setCell ⟨zb, 7, none⟩ (.int .i64 y.goal)) zb [y] []) := by
          unfold Hid
          have := M2.out.put (i := 0) (by simp) y
          simpa using this
        have BZ : Hid (Below zb w2 ((((((((w2.setCell ⟨zb, 0, none⟩ (.int .i64 y.id)).setCell ⟨zb, 1, none⟩ (.int .i64 y.player)).setCell ⟨zb, 2, none⟩ (.int .i64 y.kind)).setCell ⟨zb, 3, none⟩ (.int .i64 y.at_)).setCell ⟨zb, 4, none⟩ (.int .i64 y.life)).setCell ⟨zb, 5, none⟩ (.int .i64 y.load)).setCell ⟨zb, 6, none⟩ (.int .i64 y.task)).setCell ⟨zb, 7, none⟩ (.int .i64 y.goal))) := by
          unfold Hid
          have := ub_below (B := zb) (g := zb) (i := 0) y (Below.refl zb w2) (Nat.le_refl _)
          simpa using this
        have ZP : Hid (Ub ((((((((w2.setCell ⟨zb, 0, none⟩ (.int .i64 y.id)).setCell ⟨zb, 1, none⟩ (.int .i64 y.player)).setCell ⟨zb, 2, none⟩ (.int .i64 y.kind)).setCell ⟨zb, 3, none⟩ (.int .i64 y.at_)).setCell ⟨zb, 4, none⟩ (.int .i64 y.life)).setCell ⟨zb, 5, none⟩ (.int .i64 y.load)).setCell ⟨zb, 6, none⟩ (.int .i64 y.task)).setCell ⟨zb, 7, none⟩ (.int .i64 y.goal)) w.heap.size [⟨0, 0, 0, 0, 0, 0, 0, 0⟩] []) := Z2.out.below BZ.out ZB.out
        have BP : Hid (Below w.heap.size w ((((((((w2.setCell ⟨zb, 0, none⟩ (.int .i64 y.id)).setCell ⟨zb, 1, none⟩ (.int .i64 y.player)).setCell ⟨zb, 2, none⟩ (.int .i64 y.kind)).setCell ⟨zb, 3, none⟩ (.int .i64 y.at_)).setCell ⟨zb, 4, none⟩ (.int .i64 y.life)).setCell ⟨zb, 5, none⟩ (.int .i64 y.load)).setCell ⟨zb, 6, none⟩ (.int .i64 y.task)).setCell ⟨zb, 7, none⟩ (.int .i64 y.goal))) := B2.out.trans (BZ.out.mono (Nat.le_of_lt ZB.out))
        clear BZ
        go_wp2
        go_round
        case rel => exact ⟨i + 1, k + 1, by have := HY.out.2.2.1; omega, by have := HY.out.2.2.2; omega, by go_num, by rw [MN1.out]; exact UP.out, ZP.out, BP.out⟩
        case measure => have := HN.out; simp [intOf]; omega
      · have MN1 : Hid (minU d x0 (tl.take (k + 1)) = m) := by rw [MN, if_neg (fun h => hlss (HU.out.2 h))]; rfl
        clear MN
        go_wp2
        go_round
        case rel => exact ⟨i + 1, k + 1, by have := HY.out.2.2.1; omega, by have := HY.out.2.2.2; omega, by go_num, by rw [MN1.out]; exact M2.out, Z2.out, B2.out⟩
        case measure => have := HN.out; simp [intOf]; omega
theorem min_any (K : Nat) (eK : ∀ args w, (callFunc K args).run Tryz.prog w = .ok (.enter K args) w) (u : Value) (cs : Array Value) (x0 : UnV) (tl : List UnV) (d : UnV → Int) (w : World) (hu : Unl w u (x0 :: tl)) (hl : tl.length ≤ 1000000)
    (hp : ∀ W, Below w.heap.size w W → ∀ a ∈ x0 :: tl, ∀ b ∈ x0 :: tl, Calls Tryz.prog K (#[a.val, b.val] ++ cs) W fun e w' => e = .returned (.int .i64 (d a - d b)) ∧ Below W.heap.size W w') :
    Calls Tryz.prog 145 #[u, .func (Fn.func K) #[] cs] w fun e w' => e = .returned (minU d x0 tl).val ∧ Below w.heap.size w w' :=
  min_gen K eK u cs x0 tl d (fun a b => d a - d b) w hu hl (fun a _ b _ => by constructor <;> intro h <;> omega) hp
end Go.Proofs.YteieikgkmfglaaaGreatDoor

namespace Go.Proofs.YteieikgkmfglaaaGreatDoor
open Go.RowKit
set_option linter.unusedVariables false

/-- a unit that is no home of another one's. -/
def otherU (ks : List KV) (l : List Int) (pl : Int) (h : UnV) : Bool := !(h.player == pl) || (!((ks[h.kind.toNat]?.map KV.t).getD false) || decide (l.getD h.at_.toNat 0 < 0))

set_option maxRecDepth 100000 in
set_option maxHeartbeats 4000000 in
theorem other_mv (ks : List KV) (l : List Int) (h : UnV) (pl : Int) (bu bk bf : Nat) (uk uf : Value) (w : World) (c1 : w.cell? ⟨bu, 1, none⟩ = some (.int .i64 pl)) (c2 : w.cell? ⟨bk, 0, none⟩ = some uk) (c3 : w.cell? ⟨bf, 0, none⟩ = some uf) (hk : Kl w uk ks) (hf : Ro w uf l)
    (h1 : 0 ≤ h.kind ∧ h.kind < (ks.length : Int)) (h2 : 0 ≤ h.at_ ∧ h.at_ < (l.length : Int)) :
    Calls Tryz.prog 172 #[h.val, .pointer (some ⟨bu, 0, none⟩), .pointer (some ⟨bk, 0, none⟩), .pointer (some ⟨bf, 0, none⟩)] w fun e w' => e = .returned (.bool (otherU ks l pl h)) ∧ Below w.heap.size w w' := by
  obtain ⟨kn, hkn⟩ : ∃ n : Nat, h.kind = n := ⟨h.kind.toNat, by omega⟩
  obtain ⟨an, han⟩ : ∃ n : Nat, h.at_ = n := ⟨h.at_.toNat, by omega⟩
  have hkl : kn < ks.length := by omega
  have hal : an < l.length := by omega
  obtain ⟨k, hkk⟩ : ∃ k, ks[kn]? = some k := ⟨_, List.getElem?_eq_getElem hkl⟩
  have e1 : (ks[h.kind.toNat]?.map KV.t).getD false = k.t := by rw [hkn, Int.toNat_natCast, hkk]; rfl
  have e2 : l.getD h.at_.toNat 0 = l[an] := by rw [han, Int.toNat_natCast, List.getD_eq_getElem?_getD, List.getElem?_eq_getElem hal]; rfl
  have OT : Hid (otherU ks l pl h = (!(h.player == pl) || (!k.t || decide (l[an] < 0)))) := by unfold Hid otherU; rw [e1, e2]
  have BU : Hid (bu < w.heap.size ∧ bk < w.heap.size ∧ bf < w.heap.size) := ⟨cell_lt c1, cell_lt c2, cell_lt c3⟩
  have B0 : Hid (Below w.heap.size w (w.alloc (Obj.cells #[.int .i64 h.id, .int .i64 h.player, .int .i64 h.kind, .int .i64 h.at_, .int .i64 h.life, .int .i64 h.load, .int .i64 h.task, .int .i64 h.goal] 44))) := (Below.refl _ _).alloc (Nat.le_refl _) _
  have U0 : Hid (Unc (w.alloc (Obj.cells #[.int .i64 h.id, .int .i64 h.player, .int .i64 h.kind, .int .i64 h.at_, .int .i64 h.life, .int .i64 h.load, .int .i64 h.task, .int .i64 h.goal] 44)) ⟨w.heap.size, 0, none⟩ h) := Unc.mk' h rfl
  have K0 : Hid (Kl w uk ks) := hk
  have F0 : Hid (Ro w uf l) := hf
  have CC : Hid (w.cell? ⟨bu, 1, none⟩ = some (.int .i64 pl) ∧ w.cell? ⟨bk, 0, none⟩ = some uk ∧ w.cell? ⟨bf, 0, none⟩ = some uf) := ⟨c1, c2, c3⟩
  have HE : Hid (h.kind = (kn : Nat) ∧ h.at_ = (an : Nat)) := ⟨hkn, han⟩
  clear c1 c2 c3 hk hf e1 e2 hkn han h1 h2
  unfold UnV.val
  go_enter Tryz.func172, Tryz.ntmps172
  go_upto_region 1 with fail
  generalize (w.alloc (Obj.cells #[.int .i64 h.id, .int .i64 h.player, .int .i64 h.kind, .int .i64 h.at_, .int .i64 h.life, .int .i64 h.load, .int .i64 h.task, .int .i64 h.goal] 44)) = w0 at *
  obtain ⟨q0, q1, q2, q3, q4, q5, q6, q7⟩ := U0.out
  rw [HE.out.1] at q2
  rw [HE.out.2] at q3
  have c1 : w0.cell? ⟨bu, 1, none⟩ = some (.int .i64 pl) := by rw [B0.out.cell (p := ⟨bu, 1, none⟩) BU.out.1]; exact CC.out.1
  have c2 : w0.cell? ⟨bk, 0, none⟩ = some uk := by rw [B0.out.cell (p := ⟨bk, 0, none⟩) BU.out.2.1]; exact CC.out.2.1
  have c3 : w0.cell? ⟨bf, 0, none⟩ = some uf := by rw [B0.out.cell (p := ⟨bf, 0, none⟩) BU.out.2.2]; exact CC.out.2.2
  obtain ⟨ak, dk, rfl, dk1, dk2, hkc⟩ := K0.out.below B0.out
  obtain ⟨xk, rfl, -, hkc⟩ := hkc (by intro h; rw [h] at hkl; simp at hkl)
  have kt := (hkc kn k hkk).c10
  obtain ⟨af, df, rfl, df1, df2, hfc⟩ := F0.out.below B0.out
  obtain ⟨xf, rfl, -, hfc⟩ := hfc (by intro h; rw [h] at hal; simp at hal)
  have cx : w0.cell? (xf.add an) = some (.int .i64 l[an]) := hfc an _ (List.getElem?_eq_getElem hal)
  clear hkc hfc hkk
  by_cases hp : h.player = pl
  · have OT1 : Hid (otherU ks l pl h = (!k.t || decide (l[an] < 0))) := by unfold Hid; rw [OT.out, hp]; simp
    rw [hp] at q1
    cases ht : k.t with
    | true =>
      rw [ht] at kt OT1
      by_cases hd : l[an] < 0
      · go_wp2
        go_ret
        exact ⟨by rw [OT1.out, decide_eq_true hd]; rfl, B0.out⟩
      · go_wp2
        go_ret
        exact ⟨by rw [OT1.out, decide_eq_false (show ¬ l[an] < 0 by omega)]; rfl, B0.out⟩
    | false =>
      rw [ht] at kt OT1
      go_wp2
      go_ret
      exact ⟨by rw [OT1.out]; rfl, B0.out⟩
  · have hp' : (h.player == pl) = false := by rw [beq_eq_false_iff_ne]; exact hp
    have OT1 : Hid (otherU ks l pl h = true) := by unfold Hid; rw [OT.out, hp']; rfl
    go_wp2
    go_ret
    exact ⟨by rw [OT1.out]; first | rfl | simp [hp], B0.out⟩

set_option maxRecDepth 100000 in
set_option maxHeartbeats 4000000 in
theorem nearer_mv (l : List Int) (a b : UnV) (bf : Nat) (uf : Value) (w : World) (c3 : w.cell? ⟨bf, 0, none⟩ = some uf) (hf : Ro w uf l) (hl : ∀ x ∈ l, -1 ≤ x ∧ x ≤ 1000000)
    (h1 : 0 ≤ a.at_ ∧ a.at_ < (l.length : Int)) (h2 : 0 ≤ b.at_ ∧ b.at_ < (l.length : Int)) :
    Calls Tryz.prog 173 #[a.val, b.val, .pointer (some ⟨bf, 0, none⟩)] w fun e w' => e = .returned (.int .i64 (l.getD a.at_.toNat 0 - l.getD b.at_.toNat 0)) ∧ Below w.heap.size w w' := by
  obtain ⟨an, han⟩ : ∃ n : Nat, a.at_ = n := ⟨a.at_.toNat, by omega⟩
  obtain ⟨bn, hbn⟩ : ∃ n : Nat, b.at_ = n := ⟨b.at_.toNat, by omega⟩
  have hal : an < l.length := by omega
  have hbl : bn < l.length := by omega
  have e1 : l.getD a.at_.toNat 0 = l[an] := by rw [han, Int.toNat_natCast, List.getD_eq_getElem?_getD, List.getElem?_eq_getElem hal]; rfl
  have e2 : l.getD b.at_.toNat 0 = l[bn] := by rw [hbn, Int.toNat_natCast, List.getD_eq_getElem?_getD, List.getElem?_eq_getElem hbl]; rfl
  rw [e1, e2]
  have wd : IntKind.i64.wrap (l[an] - l[bn]) = l[an] - l[bn] := by
    have g1 := hl _ (List.getElem_mem hal)
    have g2 := hl _ (List.getElem_mem hbl)
    rw [IntKind.wrap_i64]; omega
  have F0 : Hid (Ro w uf l) := hf
  have CC : Hid (w.cell? ⟨bf, 0, none⟩ = some uf ∧ bf < w.heap.size) := ⟨c3, cell_lt c3⟩
  have B0 : Hid (Below w.heap.size w ((w.alloc (Obj.cells #[.int .i64 a.id, .int .i64 a.player, .int .i64 a.kind, .int .i64 a.at_, .int .i64 a.life, .int .i64 a.load, .int .i64 a.task, .int .i64 a.goal] 44)).alloc (Obj.cells #[.int .i64 b.id, .int .i64 b.player, .int .i64 b.kind, .int .i64 b.at_, .int .i64 b.life, .int .i64 b.load, .int .i64 b.task, .int .i64 b.goal] 44))) := ((Below.refl _ _).alloc (Nat.le_refl _) _).alloc (by simp) _
  have U0 : Hid (Unc ((w.alloc (Obj.cells #[.int .i64 a.id, .int .i64 a.player, .int .i64 a.kind, .int .i64 a.at_, .int .i64 a.life, .int .i64 a.load, .int .i64 a.task, .int .i64 a.goal] 44)).alloc (Obj.cells #[.int .i64 b.id, .int .i64 b.player, .int .i64 b.kind, .int .i64 b.at_, .int .i64 b.life, .int .i64 b.load, .int .i64 b.task, .int .i64 b.goal] 44)) ⟨w.heap.size, 0, none⟩ a) := (Unc.mk' a rfl).below ((Below.refl _ _).alloc (Nat.le_refl _) _) (by simp)
  have V0 : Hid (Unc ((w.alloc (Obj.cells #[.int .i64 a.id, .int .i64 a.player, .int .i64 a.kind, .int .i64 a.at_, .int .i64 a.life, .int .i64 a.load, .int .i64 a.task, .int .i64 a.goal] 44)).alloc (Obj.cells #[.int .i64 b.id, .int .i64 b.player, .int .i64 b.kind, .int .i64 b.at_, .int .i64 b.life, .int .i64 b.load, .int .i64 b.task, .int .i64 b.goal] 44)) ⟨w.heap.size + 1, 0, none⟩ b) := Unc.mk' b (by simp)
  have HE : Hid (a.at_ = (an : Nat) ∧ b.at_ = (bn : Nat)) := ⟨han, hbn⟩
  clear c3 hf hl e1 e2 han hbn h1 h2
  unfold UnV.val
  go_enter Tryz.func173, Tryz.ntmps173
  go_upto_region 1 with fail
  generalize ((w.alloc (Obj.cells #[.int .i64 a.id, .int .i64 a.player, .int .i64 a.kind, .int .i64 a.at_, .int .i64 a.life, .int .i64 a.load, .int .i64 a.task, .int .i64 a.goal] 44)).alloc (Obj.cells #[.int .i64 b.id, .int .i64 b.player, .int .i64 b.kind, .int .i64 b.at_, .int .i64 b.life, .int .i64 b.load, .int .i64 b.task, .int .i64 b.goal] 44)) = w0 at *
  obtain ⟨-, -, -, q3, -, -, -, -⟩ := U0.out
  obtain ⟨-, -, -, r3, -, -, -, -⟩ := V0.out
  simp only [Nat.zero_add] at q3 r3
  rw [HE.out.1] at q3
  rw [HE.out.2] at r3
  have c3 : w0.cell? ⟨bf, 0, none⟩ = some uf := by rw [B0.out.cell (p := ⟨bf, 0, none⟩) CC.out.2]; exact CC.out.1
  obtain ⟨af, df, rfl, df1, df2, hfc⟩ := F0.out.below B0.out
  obtain ⟨xf, rfl, -, hfc⟩ := hfc (by intro h; rw [h] at hal; simp at hal)
  have cx : w0.cell? (xf.add an) = some (.int .i64 l[an]) := hfc an _ (List.getElem?_eq_getElem hal)
  have cy : w0.cell? (xf.add bn) = some (.int .i64 l[bn]) := hfc bn _ (List.getElem?_eq_getElem hbl)
  clear hfc
  go_quiet (fail)
  go_wp2
  go_ret
  exact ⟨rfl, ⟨B0.out.os, B0.out.tape, B0.out.output, B0.out.size, B0.out.block⟩⟩
end Go.Proofs.YteieikgkmfglaaaGreatDoor

namespace Go.Proofs.YteieikgkmfglaaaGreatDoor
open Go.RowKit
set_option linter.unusedVariables false

theorem blk0 (w : World) : (w.alloc (Obj.cells #[] 44)).heap[w.heap.size]? = some (.cells #[] 44 (0, 0)) := by
  exact heap_alloc_new _ _
set_option maxRecDepth 100000 in
set_option maxHeartbeats 4000000 in
theorem clone_any (u : Value) (ks : List UnV) (w : World) (hu : Unl w u ks) (hl : ks.length ≤ 1000000) :
    Calls Tryz.prog 143 #[u] w fun e w' => ∃ v, e = .returned v ∧ Uno w' w.heap.size v ks ∧ Below w.heap.size w w' := by
  have U : Hid (Unl w u ks) := hu
  obtain ⟨a, c, rfl, h1, h2, h3⟩ := hu
  cases a with
  | none =>
    have hk : ks = [] := by
      by_cases h : ks = []
      · exact h
      · obtain ⟨x, hx, -⟩ := h3 h; cases hx
    subst hk
    clear h3
    have hq : ∀ W : World, (binOp .eql 26 (.slice none ([] : List UnV).length c) (.slice none 0 0)).run Tryz.prog W = .ok (.bool true) W := fun W => Lib.run_eql_slice_nil W _ _ none _ _ _ _ Tryz.underlying26
    simp only [List.length_nil] at hq ⊢
    go_enter Tryz.func143, Tryz.ntmps143
    go_wp2
    go_ret
    exact ⟨_, rfl, Uno.nil _ _, Below.refl _ _⟩
  | some x =>
    clear h3
    have hq : ∀ W : World, (binOp .eql 26 (.slice (some x) ks.length c) (.slice none 0 0)).run Tryz.prog W = .ok (.bool false) W := fun W => Lib.run_eql_slice_nil W _ _ (some x) _ _ _ _ Tryz.underlying26
    go_enter Tryz.func143, Tryz.ntmps143
    go_upto_region 3 with fail
    have B0 : Hid (Below w.heap.size w (w.alloc (Obj.cells #[] 44))) := (Below.refl _ _).alloc (Nat.le_refl _) _
    have O0 : Hid (Uno (w.alloc (Obj.cells #[] 44)) w.heap.size (.slice (some ⟨w.heap.size, 0, none⟩) 0 0) []) := ⟨rfl, .inr ⟨w.heap.size, 0, #[], rfl, Nat.le_refl _, blk0 w, Nat.le_refl _, by unfold maxLen; omega, rfl, rfl⟩⟩
    go_wp2_with (at_builtin; refine app_uns _ rfl _ _ rfl w.heap.size _ [] rfl O0.out _ ks rfl (U.out.below B0.out) (by simp; omega) B0.out.size ?_)
    intro v w1 o1 g1 _
    have F : Hid (Uno w1 w.heap.size v ks ∧ Below w.heap.size w w1) := ⟨o1, B0.out.grown g1 B0.out.size (fun k hk => by cases hk; exact Nat.le_refl _)⟩
    clear o1 g1 B0 O0
    go_wp2
    go_ret
    exact ⟨_, rfl, F.out.1, F.out.2⟩

end Go.Proofs.YteieikgkmfglaaaGreatDoor

namespace Go.Proofs.YteieikgkmfglaaaGreatDoor
open Go Go.RowKit
set_option linter.unusedVariables false

section
variable {P : Program} {ops : Array Oper} {md : Region.Mode} {C : World → Prop} {Q : Exit → Act → World → Prop}

/-- the head, A being still to come: ahead of each call it may come; s2 waits for it. -/
def wpHeadA (P : Program) (ops : Array Oper) (C : World → Prop) (K : Act → World → Prop) (A : Nat) (s2 : List (Bool × Nat)) : List (Bool × Nat) → Act → World → Prop
  | [], a, W => ∃ o, ops[A]? = some o ∧ StepS P ops C o (wpHeadT P ops C K s2) a W
  | (true, i) :: r, a, W => ∃ o v, ops[i]? = some o ∧ YieldsS P ops C o v a ∧ wpHeadA P ops C K A s2 r (a.put o.dst v) W
  | (false, i) :: r, a, W => (∃ o, ops[i]? = some o ∧ StepS P ops C o (wpHeadA P ops C K A s2 r) a W) ∧ (∃ o, ops[A]? = some o ∧ StepS P ops C o (wpHeadT P ops C K ((false, i) :: r ++ s2)) a W)
def headAB (md : Region.Mode) (ops : Array Oper) (H0 : Array Bool) (A : Nat) (s2 : List (Bool × Nat)) : List (Bool × Nat) → Array Bool → Bool
  | [], listed => decide (Region.ready md ops listed = [A]) && headB md ops H0 s2 (listed.setIfInBounds A true)
  | (true, i) :: r, listed => (Region.ready md ops listed).contains i && (Region.free md ops listed i && ((waits md ops H0 i || decide (Region.ready md ops (H0.setIfInBounds i false) = [i])) && headAB md ops H0 A s2 r (listed.setIfInBounds i true)))
  | (false, i) :: r, listed => (Region.ready md ops listed).contains i && ((Region.ready md ops listed).all (fun j => decide (j = i) || decide (j = A)) && (headAB md ops H0 A s2 r (listed.setIfInBounds i true) && ((Region.ready md ops listed).contains A && headB md ops H0 ((false, i) :: r ++ s2) (listed.setIfInBounds A true))))
theorem wpAnyT_of_headA {K : Act → World → Prop} {H0 : Array Bool} {A : Nat} {s2 : List (Bool × Nat)} (hsel : Region.noSelect ops = true) : ∀ (s : List (Bool × Nat)) (listed : Array Bool) (a : Act) (W : World), Clos md ops listed → headAB md ops H0 A s2 s listed = true → C W → wpHeadA P ops C K A s2 s a W → wpAnyT P md ops C (fun l a W => l = H0 ∧ K a W) (s.length + s2.length + 1) listed a W
  | [], listed, a, W, inv, hB, hC, h => by
    simp only [headAB, Bool.and_eq_true, decide_eq_true_eq] at hB
    obtain ⟨hr, hH⟩ := hB
    have hr' : A ∈ Region.ready md ops listed := by rw [hr]; simp
    obtain ⟨o, ho, hs⟩ := h
    rw [List.length_nil, Nat.zero_add]
    refine ⟨fun h => (by rw [hr] at h; cases h), fun j hj => ?_⟩
    rw [hr] at hj
    obtain rfl : j = A := by simpa using hj
    exact ⟨o, ho, hs.mono fun a' W' hC' hk => wpAnyT_of_head hsel s2 _ _ _ (inv.set hr') hH hC' hk⟩
  | (true, i) :: r, listed, a, W, inv, hB, hC, h => by
    simp only [headAB, Bool.and_eq_true, Bool.or_eq_true, decide_eq_true_eq] at hB
    obtain ⟨hr, hf, hH, hB⟩ := hB
    obtain ⟨o, v, ho, hy, hk⟩ := h
    have hr' : i ∈ Region.ready md ops listed := by simpa using hr
    rw [show ((true, i) :: r).length + s2.length + 1 = (r.length + s2.length + 1) + 1 by rw [List.length_cons]; omega]
    exact wpAnyT_first ho (Region.noSelect_spec hsel) hH (fun _ _ _ h => h.1) (r.length + s2.length + 1) listed a W inv (Region.free_spec ho hf) hr' hy hC (wpAnyT_of_headA hsel r _ _ _ (inv.set hr') hB hC hk)
  | (false, i) :: r, listed, a, W, inv, hB, hC, h => by
    simp only [headAB, Bool.and_eq_true] at hB
    obtain ⟨hr, hall, hB1, hA, hB2⟩ := hB
    have hr' : i ∈ Region.ready md ops listed := by simpa using hr
    have hA' : A ∈ Region.ready md ops listed := by simpa using hA
    obtain ⟨⟨o, ho, hs⟩, ⟨oA, hoA, hsA⟩⟩ := h
    rw [show ((false, i) :: r).length + s2.length + 1 = (r.length + s2.length + 1) + 1 by rw [List.length_cons]; omega]
    refine ⟨fun h => (by rw [h] at hr'; cases hr'), fun j hj => ?_⟩
    have hj' := List.all_eq_true.1 hall j hj
    simp only [Bool.or_eq_true, decide_eq_true_eq] at hj'
    rcases hj' with rfl | rfl
    · exact ⟨o, ho, hs.mono fun a' W' hC' hk => wpAnyT_of_headA hsel r _ _ _ (inv.set hr') hB1 hC' hk⟩
    · refine ⟨oA, hoA, hsA.mono fun a' W' hC' hk => ?_⟩
      have := wpAnyT_of_head hsel ((false, i) :: r ++ s2) _ _ _ (inv.set hA') hB2 hC' hk
      rw [show ((false, i) :: r ++ s2).length = r.length + s2.length + 1 by simp] at this
      exact this
/-- the region: its head s in the worlds C, A coming at any time; then s2, in the worlds C; its tail t. -/
theorem wp_region_float {id : Nat} {a : Act} {w : World} (A : Nat) (s s2 t : List (Bool × Nat)) (C : World → Prop) (hm : P.follows .mixedOrders = true) (hs : Region.noSelect ops = true) (hl : s.length + s2.length + 1 + t.length = ops.size)
    (hB : headAB .any ops (listedBy ops.size (s ++ [(false, A)] ++ s2)) A s2 s (Array.replicate ops.size false) = true)
    (hT : schedB .any ops t (listedBy ops.size (s ++ [(false, A)] ++ s2)) = true)
    (hC : C { w with drawn := w.drawn + 1 }) (h : wpHeadA P ops C (wpSched P ops (fun _ => True) Q t) A s2 s a { w with drawn := w.drawn + 1 }) : (Code.region id ops true).wp P Q a w := by
  refine wp_region_any hm ?_
  rw [← hl]
  refine wpAny_of_T (g := t.length) (fun listed a W hh => ?_) _ _ _ _ (wpAnyT_of_headA (H0 := listedBy ops.size (s ++ [(false, A)] ++ s2)) hs s _ a _ (fun j oj _ hj => by rw [getD_replicate_false] at hj; cases hj) (by rw [hl]; exact hB) hC h)
  obtain ⟨rfl, hk⟩ := hh
  exact wpAny_of_S _ _ _ _ (wpAnyS_of_sched hs t _ a W hT trivial hk)
theorem headA_read {K : Act → World → Prop} {A i : Nat} {s2 r : List (Bool × Nat)} {o : Oper} {a : Act} {W : World} (ho : ops[i]? = some o) (v : Value) (hw : Region.wanted o (yielded ops a.tmps) = true) (hr : ∀ W, C W → (execOp a.eval o).run P W = .ok (.value v) W) (h : wpHeadA P ops C K A s2 r (a.put o.dst v) W) : wpHeadA P ops C K A s2 ((true, i) :: r) a W :=
  ⟨o, v, ho, ⟨hw, hr⟩, h⟩
theorem headA_call {K : Act → World → Prop} {A i : Nat} {s2 r : List (Bool × Nat)} {o oA : Oper} {a : Act} {W : World} (ho : ops[i]? = some o) (f : FuncId) (args : Array Value) (hw : Region.wanted o (yielded ops a.tmps) = true) (hr : (execOp a.eval o).run P W = .ok (.enter f args) W)
    (hc : Calls P f args W (fun e w' => ∃ v, e = .returned v ∧ C w' ∧ wpHeadA P ops C K A s2 r (a.put o.dst v) w'))
    (hoA : ops[A]? = some oA) (vA : Value) (WA : World) (hwA : Region.wanted oA (yielded ops a.tmps) = true) (hrA : (execOp a.eval oA).run P W = .ok (.value vA) WA) (hCA : C WA) (hA : wpHeadT P ops C K ((false, i) :: r ++ s2) (a.put oA.dst vA) WA) : wpHeadA P ops C K A s2 ((false, i) :: r) a W :=
  ⟨⟨o, ho, hw, .inr (.inr ⟨f, args, hr, hc⟩)⟩, ⟨oA, hoA, hwA, .inl ⟨vA, WA, hrA, hCA, hA⟩⟩⟩
theorem headT_skip {K : Act → World → Prop} {i : Nat} {r : List (Bool × Nat)} {o : Oper} {a : Act} {W : World} (ho : ops[i]? = some o) (W' : World) (hw : Region.wanted o (yielded ops a.tmps) = true) (hr : (execOp a.eval o).run P W = .ok .skip W') (hC : C W') (h : wpHeadT P ops C K r (a.put o.dst undef) W') : wpHeadT P ops C K ((false, i) :: r) a W :=
  ⟨o, ho, hw, .inr (.inl ⟨W', hr, hC, h⟩)⟩
theorem headA_last {K : Act → World → Prop} {A : Nat} {s2 : List (Bool × Nat)} {oA : Oper} {a : Act} {W : World} (hoA : ops[A]? = some oA) (vA : Value) (WA : World) (hwA : Region.wanted oA (yielded ops a.tmps) = true) (hrA : (execOp a.eval oA).run P W = .ok (.value vA) WA) (hCA : C WA) (hA : wpHeadT P ops C K s2 (a.put oA.dst vA) WA) : wpHeadA P ops C K A s2 [] a W :=
  ⟨oA, hoA, hwA, .inl ⟨vA, WA, hrA, hCA, hA⟩⟩
end
end Go.Proofs.YteieikgkmfglaaaGreatDoor

