/- TopWeighs: the walk. · The package variable of the four sides, as it is laid. -/
import Derived.Test.YthcndngdngjalaaGreatDoorZTopWeighs12
import Derived.Test.YthcndngdngjalaaGreatDoorZTopWeighs13
import Derived.Test.YthcndngdngjalaaGreatDoorZTopWeighs5
import Derived.Test.YthcndngdngjalaaGreatDoorZTopWeighs4
import Derived.Test.YthcndngdngjalaaGreatDoorZTopWeighs3
import Derived.BigQuiet
import Derived.ProofKit
import Derived.OpenShut
import Derived.ChangeSame
import Derived.FnData
import Derived.LaidLaws
namespace Go.Proofs.YthcndngdngjalaaGreatDoor.topWeighs
open Go.RowKit Go.Proofs.YthcndngdngjalaaGreatDoor.So
set_option linter.unusedVariables false

/-- in block z there is the world Q, its lists are owned from base on. -/
def Wbo (V : World) (z base : Nat) (Q : WV) : Prop := ∃ g1 d1 g2 d2 g3 d3 g4 d4 g5 d5, Bw V z Q (.slice g1 Q.gs.length d1) (.slice g2 Q.os.length d2) (.slice g3 Q.gold.length d3) (.slice g4 Q.us.length d4) (.slice g5 Q.qs.length d5) ∧ Wo V base (.agg #[.int .i64 Q.turn, .int .i64 Q.next, .int .i64 Q.wide, .int .i64 Q.high, .slice g1 Q.gs.length d1, .slice g2 Q.os.length d2, .slice g3 Q.gold.length d3, .slice g4 Q.us.length d4, .slice g5 Q.qs.length d5]) Q
/-- what Step has answered. -/
def Stp (ks : List KV) (A : WV) (l : List OrV) (Q : WV) (r : Value) : Prop := (r = .nilIface ∧ stepFault ks A l = 0 ∧ ∃ es, StepR ks A l Q es) ∨ ∃ F : Int, r = .iface 83 (.int .i64 F)
theorem stp_of {ks : List KV} {A : WV} {l : List OrV} {w w' : World} {v ev r : Value} (hs : StepSays ks A l w w' v ev) (hr : Er r (stepFault ks A l)) : ∃ Q, Wo w' w.heap.size v Q ∧ Stp ks A l Q r := by
  rcases hs with ⟨hn, rfl, rfl⟩ | ⟨h0, Y, es, h1, h2, -⟩
  · refine ⟨⟨0, 0, 0, 0, [], [], [], [], []⟩, ⟨_, _, _, _, _, rfl, Ow.nil _ _, Ow.nil _ _, Ow.nil _ _, Uno.nil _ _, Jbo.nil _ _⟩, .inr ?_⟩
    rcases hr with ⟨h, -⟩ | ⟨-, h⟩
    · exact absurd h hn
    · exact ⟨_, h⟩
  · refine ⟨Y, h2, .inl ⟨?_, h0, es, h1⟩⟩
    rw [h0] at hr
    exact One.ez hr
/-- where a unit of the new world is in the old one. -/
theorem find_old {ks : List KV} {A : WV} (h : WRight ks A) {v : UnV} (hv : v ∈ A.us) {id r : Int} (hi : v.id = id) (hr : FstU (fun u => u.id == id) A.us r) : ∃ j : Nat, r = j ∧ A.us[j]? = some v := by
  obtain ⟨j, hj⟩ := List.mem_iff_getElem?.1 hv
  exact ⟨j, fst_is h hj hi hr, hj⟩
theorem find_new {ks : List KV} {A : WV} (h : WRight ks A) {id r : Int} (hi : A.next ≤ id) (hr : FstU (fun u => u.id == id) A.us r) : r = -1 := by
  rcases hr with ⟨h1, -⟩ | ⟨k, x, -, h1, h2, -⟩
  · exact h1
  · obtain ⟨kk, F⟩ := h.fine h1
    have h3 := F.id2
    have h4 : x.id = id := by simpa using h2
    omega
set_option maxRecDepth 100000 in
set_option maxHeartbeats 80000000 in
theorem walk (vk : Value) (ks : List KV) (vw : Value) (X : WV) (vl : Value) (ls : List (List OrV)) (w : World)
    (h0 : Kl w vk ks ∧ ∀ k ∈ ks, k.b.size ≤ maxLen) (h1 : Wl w vw X ∧ ∀ n ∈ Wd.nums X, Wd.In64 n) (h2 : Oll w vl ls) (hsd : Sd w) :
    Calls Tryz.prog 6 #[vk, vw, vl] w fun e w' => e = .returned (.bool true) ∧ Below w.heap.size w w' := by
  have K : Hid (Kl w vk ks ∧ ∀ k ∈ ks, k.b.size ≤ 9223372036854775807) := ⟨h0.1, fun k hk => by have := h0.2 k hk; unfold maxLen at this; omega⟩
  have H : Hid (Wl w vw X) := h1.1
  have L : Hid (Oll w vl ls) := h2
  have SDH : Hid (Sd w) := hsd
  obtain ⟨p1, q1, p2, q2, p3, q3, p4, q4, p5, q5, rfl⟩ := wl_shape9 h1.1
  obtain ⟨pk, qk, rfl, kc1, kc2, -⟩ := h0.1
  obtain ⟨pl, ql, rfl, lc1, lc2, -⟩ := h2
  clear h0 h1 hsd
  go_enter Tryz.func6, Tryz.ntmps6
  go_upto_region 1 with fail
  obtain ⟨b, hb0⟩ : ∃ z, w.heap.size = z := ⟨_, rfl⟩
  have B0 : Hid (Below w.heap.size w (w.alloc (Obj.cells #[.int .i64 X.turn, .int .i64 X.next, .int .i64 X.wide, .int .i64 X.high, .slice p1 X.gs.length q1, .slice p2 X.os.length q2, .slice p3 X.gold.length q3, .slice p4 X.us.length q4, .slice p5 X.qs.length q5] 29))) := (Below.refl _ _).alloc (Nat.le_refl _) _
  have X0 : Hid (Wx (w.alloc (Obj.cells #[.int .i64 X.turn, .int .i64 X.next, .int .i64 X.wide, .int .i64 X.high, .slice p1 X.gs.length q1, .slice p2 X.os.length q2, .slice p3 X.gold.length q3, .slice p4 X.us.length q4, .slice p5 X.qs.length q5] 29)) b (.int .i64 X.turn) (.int .i64 X.next) (.int .i64 X.wide) (.int .i64 X.high) (.slice p1 X.gs.length q1) (.slice p2 X.os.length q2) (.slice p3 X.gold.length q3) (.slice p4 X.us.length q4) (.slice p5 X.qs.length q5)) := Wx.new _ _ _ _ _ _ _ _ _ hb0
  have HB : Hid (w.heap.size = b) := hb0
  rw [hb0]
  generalize w.alloc (Obj.cells #[.int .i64 X.turn, .int .i64 X.next, .int .i64 X.wide, .int .i64 X.high, .slice p1 X.gs.length q1, .slice p2 X.os.length q2, .slice p3 X.gold.length q3, .slice p4 X.us.length q4, .slice p5 X.qs.length q5] 29) = w0 at *
  clear hb0
  go_wp2_with fail
  refine (one_any w0 (SDH.out.below B0.out)).mono ?_
  rintro e w1 ⟨rfl, hb⟩
  have B1 : Hid (Below w.heap.size w w1) := B0.out.trans (hb.mono B0.out.size)
  have X1 : Hid (Wx w1 b (.int .i64 X.turn) (.int .i64 X.next) (.int .i64 X.wide) (.int .i64 X.high) (.slice p1 X.gs.length q1) (.slice p2 X.os.length q2) (.slice p3 X.gold.length q3) (.slice p4 X.us.length q4) (.slice p5 X.qs.length q5)) := X0.out.below hb X0.out.lt
  clear hb X0 B0
  obtain ⟨x0, x1, x2, x3, x4, x5, x6, x7, x8⟩ := X1.out.cells
  go_wp2_with fail
  refine (wcheck_any _ _ ks X w1 (K.out.1.below B1.out) K.out.2 (H.out.below B1.out)).mono ?_
  rintro e w2 ⟨r, rfl, hr, hb⟩
  have B2 : Hid (Below w.heap.size w w2) := B1.out.trans (hb.mono B1.out.size)
  have X2 : Hid (Wx w2 b (.int .i64 X.turn) (.int .i64 X.next) (.int .i64 X.wide) (.int .i64 X.high) (.slice p1 X.gs.length q1) (.slice p2 X.os.length q2) (.slice p3 X.gold.length q3) (.slice p4 X.us.length q4) (.slice p5 X.qs.length q5)) := X1.out.below hb X1.out.lt
  clear hb x0 x1 x2 x3 x4 x5 x6 x7 x8 X1 B1
  obtain ⟨f, hf⟩ : ∃ f, Wd.wfault ks X = f := ⟨_, rfl⟩
  rw [hf] at hr
  rcases hr with ⟨rfl, rfl⟩ | ⟨hn, rfl⟩
  case inr =>
    clear hf hn
    go_wp2
    go_ret
    exact ⟨rfl, B2.out⟩
  have WF : Hid (Wd.wfault ks X = 0) := hf
  clear hf
  go_wp2_with fail
  go_loopw [10] (fun j V => ∃ (i : Nat) (A : WV) (s1 : Option Addr) (l1 : Nat) (s2 : Option Addr) (l2 : Nat) (s3 : Option Addr) (l3 : Nat) (s4 : Option Addr) (l4 : Nat) (s5 : Option Addr) (l5 : Nat), i ≤ 8 ∧ i ≤ ls.length ∧ j = .int .i64 (i : Nat) ∧ Wx V b (.int .i64 A.turn) (.int .i64 A.next) (.int .i64 A.wide) (.int .i64 A.high) (.slice s1 A.gs.length l1) (.slice s2 A.os.length l2) (.slice s3 A.gold.length l3) (.slice s4 A.us.length l4) (.slice s5 A.qs.length l5) ∧ Wl V (.agg #[.int .i64 A.turn, .int .i64 A.next, .int .i64 A.wide, .int .i64 A.high, .slice s1 A.gs.length l1, .slice s2 A.os.length l2, .slice s3 A.gold.length l3, .slice s4 A.us.length l4, .slice s5 A.qs.length l5]) A ∧ Wd.wfault ks A = 0 ∧ Below w.heap.size w V) (fun j _ => 8 - (intOf j).toNat)
  case atStart => exact ⟨0, X, p1, q1, p2, q2, p3, q3, p4, q4, p5, q5, by omega, by omega, rfl, X2.out, H.out.below B2.out, WF.out, B2.out⟩
  case round =>
  obtain ⟨i, A, s1, l1, s2, l2, s3, l3, s4, l4, s5, l5, hi8, hil, rfl, hwx, hwl, hwf, hbb⟩ := hrel
  have AX : Hid (Wx wr b (.int .i64 A.turn) (.int .i64 A.next) (.int .i64 A.wide) (.int .i64 A.high) (.slice s1 A.gs.length l1) (.slice s2 A.os.length l2) (.slice s3 A.gold.length l3) (.slice s4 A.us.length l4) (.slice s5 A.qs.length l5)) := hwx
  have AL : Hid (Wl wr (.agg #[.int .i64 A.turn, .int .i64 A.next, .int .i64 A.wide, .int .i64 A.high, .slice s1 A.gs.length l1, .slice s2 A.os.length l2, .slice s3 A.gold.length l3, .slice s4 A.us.length l4, .slice s5 A.qs.length l5]) A) := hwl
  have AF : Hid (Wd.wfault ks A = 0) := hwf
  have BW : Hid (Below w.heap.size w wr) := hbb
  clear hwx hwl hwf hbb X2 B2
  by_cases hie : i = ls.length
  case pos =>
    have hii : ¬ (i : Int) < (ls.length : Int) := by omega
    go_wp2
    go_ret
    exact ⟨rfl, BW.out⟩
  have hlt : i < ls.length := by omega
  have hlt' : (i : Int) < (ls.length : Int) := by omega
  by_cases hi7 : i = 8
  case pos =>
    have hii : ¬ (i : Int) < 8 := by omega
    go_wp2
    go_ret
    exact ⟨rfl, BW.out⟩
  have hi9 : (i : Int) < 8 := by omega
  obtain ⟨lo, hlo⟩ : ∃ l, ls[i]? = some l := ⟨_, List.getElem?_eq_getElem hlt⟩
  obtain ⟨a', c', e', -, -, hq⟩ := L.out
  injection e' with e1' e2' e3'
  subst e1' e3'
  obtain ⟨xl, rfl, xlt, hcc⟩ := hq (by rintro rfl; simp at hlt)
  obtain ⟨vo, co, ho⟩ := hcc i lo hlo
  have CO : Hid (w.cell? (xl.add i) = some vo ∧ (xl.add i).block < w.heap.size ∧ Orl w vo lo) := ⟨co, by rw [add_block]; exact xlt, ho⟩
  clear hq hcc hlo xlt co ho e2'
  rename World => w3
  go_upto_region 11 with fail
  go_cut [11, 13] (fun v11 v13 V => ∃ z Q, v11 = .pointer (some ⟨z, 0, none⟩) ∧ Stp ks A lo Q v13 ∧ Wbo V z w3.heap.size Q ∧ Below w3.heap.size w3 V)
  case first =>
    have CB : Hid (∀ V, Below w3.heap.size w3 V → (Wx V b (.int .i64 A.turn) (.int .i64 A.next) (.int .i64 A.wide) (.int .i64 A.high) (.slice s1 A.gs.length l1) (.slice s2 A.os.length l2) (.slice s3 A.gold.length l3) (.slice s4 A.us.length l4) (.slice s5 A.qs.length l5)) ∧ V.cell? (xl.add i) = some vo) := fun V hV => ⟨AX.out.below hV AX.out.lt, by rw [(BW.out.trans (hV.mono BW.out.size)).cell CO.out.2.1]; exact CO.out.1⟩
    have DE : Hid (Below w3.heap.size w3 { w3 with drawn := w3.drawn + 1 }) := (Below.refl _ _).drew
    refine wp_region_tree (.read 0 (.read 1 (.read 2 (.read 3 (.read 4 (.read 5 (.two 6 (.read 7 (.read 8 (.read 9 (.read 10 (.one 11 (.one 12 (.one 13 .leaf))))))) 11 (.one 6 (.read 7 (.read 8 (.read 9 (.read 10 (.one 12 (.one 13 .leaf)))))))))))))) [(false, 0), (false, 1), (false, 2), (false, 3), (false, 4), (false, 5), (false, 6), (false, 7), (false, 8), (false, 9), (false, 10), (false, 11), (false, 12), (false, 13)] [(false, 14)] (fun V => (Wx V b (.int .i64 A.turn) (.int .i64 A.next) (.int .i64 A.wide) (.int .i64 A.high) (.slice s1 A.gs.length l1) (.slice s2 A.os.length l2) (.slice s3 A.gold.length l3) (.slice s4 A.us.length l4) (.slice s5 A.qs.length l5)) ∧ V.cell? (xl.add i) = some vo) (by kernel_rfl) (by kernel_rfl) (by kernel_rfl) (by decide +kernel) (by decide +kernel) (CB.out _ DE.out) ?_
    generalize ({ w3 with drawn := w3.drawn + 1 } : World) = u1 at *
    refine tr_read rfl (.slice pk ks.length qk) (by go_simp) (fun V hV => by obtain ⟨hV1, cxo⟩ := hV; obtain ⟨x0, x1, x2, x3, x4, x5, x6, x7, x8⟩ := hV1.cells; go_simp) ?_
    go_simp
    refine tr_read rfl (.agg #[.int .i64 A.turn, .int .i64 A.next, .int .i64 A.wide, .int .i64 A.high, .slice s1 A.gs.length l1, .slice s2 A.os.length l2, .slice s3 A.gold.length l3, .slice s4 A.us.length l4, .slice s5 A.qs.length l5]) (by go_simp) (fun V hV => by obtain ⟨hV1, cxo⟩ := hV; obtain ⟨x0, x1, x2, x3, x4, x5, x6, x7, x8⟩ := hV1.cells; go_simp) ?_
    go_simp
    refine tr_read rfl (.slice (some xl) ls.length ql) (by go_simp) (fun V hV => by obtain ⟨hV1, cxo⟩ := hV; obtain ⟨x0, x1, x2, x3, x4, x5, x6, x7, x8⟩ := hV1.cells; go_simp) ?_
    go_simp
    refine tr_read rfl (.int .i64 (i : Nat)) (by go_simp) (fun V hV => by obtain ⟨hV1, cxo⟩ := hV; obtain ⟨x0, x1, x2, x3, x4, x5, x6, x7, x8⟩ := hV1.cells; go_simp) ?_
    go_simp
    refine tr_read rfl (.pointer (some (xl.add i))) (by go_simp) (fun V hV => by obtain ⟨hV1, cxo⟩ := hV; obtain ⟨x0, x1, x2, x3, x4, x5, x6, x7, x8⟩ := hV1.cells; go_simp) ?_
    go_simp
    refine tr_read rfl (vo) (by go_simp) (fun V hV => by obtain ⟨hV1, cxo⟩ := hV; obtain ⟨x0, x1, x2, x3, x4, x5, x6, x7, x8⟩ := hV1.cells; go_simp) ?_
    go_simp
    refine tr_two ?_ ?_
    · refine st_call rfl 21 #[.slice pk ks.length qk, .agg #[.int .i64 A.turn, .int .i64 A.next, .int .i64 A.wide, .int .i64 A.high, .slice s1 A.gs.length l1, .slice s2 A.os.length l2, .slice s3 A.gold.length l3, .slice s4 A.us.length l4, .slice s5 A.qs.length l5], vo] (by go_simp) (by go_simp) ?_
      have BB : Hid (Below w.heap.size w u1) := BW.out.trans (DE.out.mono BW.out.size)
      refine (Step_any _ _ _ ks A lo u1 (K.out.1.below BB.out) K.out.2 (AL.out.below DE.out) (CO.out.2.2.below BB.out) (SDH.out.below BB.out)).mono ?_
      rintro e u2 ⟨v, ev, r, rfl, hr, hs, hb⟩
      obtain ⟨Q, hwo, hst⟩ := stp_of hs hr
      have ST : Hid (Stp ks A lo Q r) := hst
      clear hr hs hst BB
      obtain ⟨g1, d1, g2, d2, g3, d3, g4, d4, g5, d5, rfl⟩ := wl_shape9 hwo.l
      have LQ : Hid (Wo u2 w3.heap.size (.agg #[.int .i64 Q.turn, .int .i64 Q.next, .int .i64 Q.wide, .int .i64 Q.high, .slice g1 Q.gs.length d1, .slice g2 Q.os.length d2, .slice g3 Q.gold.length d3, .slice g4 Q.us.length d4, .slice g5 Q.qs.length d5]) Q) := hwo.mono DE.out.size
      have BU0 : Hid (Below w3.heap.size w3 u2) := DE.out.trans (hb.mono DE.out.size)
      refine ⟨_, rfl, CB.out _ BU0.out, ?_⟩
      clear hb hwo
      go_simp
      refine tr_read rfl (.tuple #[.agg #[.int .i64 Q.turn, .int .i64 Q.next, .int .i64 Q.wide, .int .i64 Q.high, .slice g1 Q.gs.length d1, .slice g2 Q.os.length d2, .slice g3 Q.gold.length d3, .slice g4 Q.us.length d4, .slice g5 Q.qs.length d5], ev, r]) (by go_simp) (fun V hV => by go_simp) ?_
      go_simp
      refine tr_read rfl (.agg #[.int .i64 Q.turn, .int .i64 Q.next, .int .i64 Q.wide, .int .i64 Q.high, .slice g1 Q.gs.length d1, .slice g2 Q.os.length d2, .slice g3 Q.gold.length d3, .slice g4 Q.us.length d4, .slice g5 Q.qs.length d5]) (by go_simp) (fun V hV => by go_simp) ?_
      go_simp
      refine tr_read rfl (ev) (by go_simp) (fun V hV => by go_simp) ?_
      go_simp
      refine tr_read rfl (r) (by go_simp) (fun V hV => by go_simp) ?_
      go_simp
      refine tr_one ?_
      obtain ⟨bx, hbx⟩ : ∃ z, u2.heap.size = z := ⟨_, rfl⟩
      have ba : Below u2.heap.size u2 (u2.alloc (Obj.cells #[.int .i64 0, .int .i64 0, .int .i64 0, .int .i64 0, .slice none 0 0, .slice none 0 0, .slice none 0 0, .slice none 0 0, .slice none 0 0] 29)) := (Below.refl _ _).alloc (Nat.le_refl _) _
      have ZE : Hid (Wx (u2.alloc (Obj.cells #[.int .i64 0, .int .i64 0, .int .i64 0, .int .i64 0, .slice none 0 0, .slice none 0 0, .slice none 0 0, .slice none 0 0, .slice none 0 0] 29)) bx (.int .i64 0) (.int .i64 0) (.int .i64 0) (.int .i64 0) (.slice none 0 0) (.slice none 0 0) (.slice none 0 0) (.slice none 0 0) (.slice none 0 0)) := Wx.new (w := u2) _ _ _ _ _ _ _ _ _ hbx
      have BU : Hid (Below w3.heap.size w3 (u2.alloc (Obj.cells #[.int .i64 0, .int .i64 0, .int .i64 0, .int .i64 0, .slice none 0 0, .slice none 0 0, .slice none 0 0, .slice none 0 0, .slice none 0 0] 29))) := BU0.out.trans (ba.mono BU0.out.size)
      have NB : Hid (w3.heap.size ≤ bx) := by rw [← hbx]; exact BU0.out.size
      have BL : Hid (Below bx u2 (u2.alloc (Obj.cells #[.int .i64 0, .int .i64 0, .int .i64 0, .int .i64 0, .slice none 0 0, .slice none 0 0, .slice none 0 0, .slice none 0 0, .slice none 0 0] 29))) := by rw [← hbx]; exact ba
      have LX : Hid (u2.heap.size = bx) := hbx
      refine st_value rfl (.pointer (some ⟨u2.heap.size, 0, none⟩)) (u2.alloc (Obj.cells #[.int .i64 0, .int .i64 0, .int .i64 0, .int .i64 0, .slice none 0 0, .slice none 0 0, .slice none 0 0, .slice none 0 0, .slice none 0 0] 29)) (by go_simp) (by go_simp) (CB.out _ BU.out) ?_
      rw [hbx]
      clear ba hbx
      generalize u2.alloc (Obj.cells #[.int .i64 0, .int .i64 0, .int .i64 0, .int .i64 0, .slice none 0 0, .slice none 0 0, .slice none 0 0, .slice none 0 0, .slice none 0 0] 29) = u6 at *
      go_simp
      refine tr_one ?_
      obtain ⟨z0, z1, z2, z3, z4, z5, z6, z7, z8⟩ := ZE.out.cells
      obtain ⟨t0, t1, t2, t3, t4, t5, t6, t7, t8⟩ := ZE.out.thaws
      have KZ : Hid (Kp bx u6 (((((((((u6.setCell ⟨bx, 0, none⟩ (.int .i64 Q.turn)).setCell ⟨bx, 1, none⟩ (.int .i64 Q.next)).setCell ⟨bx, 2, none⟩ (.int .i64 Q.wide)).setCell ⟨bx, 3, none⟩ (.int .i64 Q.high)).setCell ⟨bx, 4, none⟩ (.slice g1 Q.gs.length d1)).setCell ⟨bx, 5, none⟩ (.slice g2 Q.os.length d2)).setCell ⟨bx, 6, none⟩ (.slice g3 Q.gold.length d3)).setCell ⟨bx, 7, none⟩ (.slice g4 Q.us.length d4)).setCell ⟨bx, 8, none⟩ (.slice g5 Q.qs.length d5))) := put_kp _ _ _ _ _ _ _ _ _ _ _
      have BZ : Hid (Below w3.heap.size w3 (((((((((u6.setCell ⟨bx, 0, none⟩ (.int .i64 Q.turn)).setCell ⟨bx, 1, none⟩ (.int .i64 Q.next)).setCell ⟨bx, 2, none⟩ (.int .i64 Q.wide)).setCell ⟨bx, 3, none⟩ (.int .i64 Q.high)).setCell ⟨bx, 4, none⟩ (.slice g1 Q.gs.length d1)).setCell ⟨bx, 5, none⟩ (.slice g2 Q.os.length d2)).setCell ⟨bx, 6, none⟩ (.slice g3 Q.gold.length d3)).setCell ⟨bx, 7, none⟩ (.slice g4 Q.us.length d4)).setCell ⟨bx, 8, none⟩ (.slice g5 Q.qs.length d5))) := KZ.out.below BU.out BU.out.size NB.out
      have WZ : Hid (Wbo (((((((((u6.setCell ⟨bx, 0, none⟩ (.int .i64 Q.turn)).setCell ⟨bx, 1, none⟩ (.int .i64 Q.next)).setCell ⟨bx, 2, none⟩ (.int .i64 Q.wide)).setCell ⟨bx, 3, none⟩ (.int .i64 Q.high)).setCell ⟨bx, 4, none⟩ (.slice g1 Q.gs.length d1)).setCell ⟨bx, 5, none⟩ (.slice g2 Q.os.length d2)).setCell ⟨bx, 6, none⟩ (.slice g3 Q.gold.length d3)).setCell ⟨bx, 7, none⟩ (.slice g4 Q.us.length d4)).setCell ⟨bx, 8, none⟩ (.slice g5 Q.qs.length d5)) bx w3.heap.size Q) := ⟨g1, d1, g2, d2, g3, d3, g4, d4, g5, d5, wx_bw (ZE.out.put _ _ _ _ _ _ _ _ _), (LQ.out.below (by rw [LX.out]; exact KZ.out.below BL.out (by have h9 := BL.out.size; have h8 := LX.out; omega) (Nat.le_refl _)))⟩
      refine st_skip rfl (((((((((u6.setCell ⟨bx, 0, none⟩ (.int .i64 Q.turn)).setCell ⟨bx, 1, none⟩ (.int .i64 Q.next)).setCell ⟨bx, 2, none⟩ (.int .i64 Q.wide)).setCell ⟨bx, 3, none⟩ (.int .i64 Q.high)).setCell ⟨bx, 4, none⟩ (.slice g1 Q.gs.length d1)).setCell ⟨bx, 5, none⟩ (.slice g2 Q.os.length d2)).setCell ⟨bx, 6, none⟩ (.slice g3 Q.gold.length d3)).setCell ⟨bx, 7, none⟩ (.slice g4 Q.us.length d4)).setCell ⟨bx, 8, none⟩ (.slice g5 Q.qs.length d5)) (by go_simp) (by go_simp) (CB.out _ BZ.out) ?_
      clear z0 z1 z2 z3 z4 z5 z6 z7 z8 t0 t1 t2 t3 t4 t5 t6 t7 t8 KZ ZE
      generalize ((((((((u6.setCell ⟨bx, 0, none⟩ (.int .i64 Q.turn)).setCell ⟨bx, 1, none⟩ (.int .i64 Q.next)).setCell ⟨bx, 2, none⟩ (.int .i64 Q.wide)).setCell ⟨bx, 3, none⟩ (.int .i64 Q.high)).setCell ⟨bx, 4, none⟩ (.slice g1 Q.gs.length d1)).setCell ⟨bx, 5, none⟩ (.slice g2 Q.os.length d2)).setCell ⟨bx, 6, none⟩ (.slice g3 Q.gold.length d3)).setCell ⟨bx, 7, none⟩ (.slice g4 Q.us.length d4)).setCell ⟨bx, 8, none⟩ (.slice g5 Q.qs.length d5) = u9 at *
      go_simp
      refine tr_one ?_
      refine st_value rfl ev u9 (by go_simp) (by go_simp) (CB.out _ BZ.out) ?_
      go_simp
      unfold wpTr
      refine sched_value rfl r u9 (by go_simp) (by go_simp) trivial ?_
      go_simp
      unfold wpSched
      go_wp2_with fail
      go_meet
      case rel => exact ⟨bx, Q, rfl, ST.out, WZ.out, BZ.out⟩
    · obtain ⟨bx, hbx⟩ : ∃ z, u1.heap.size = z := ⟨_, rfl⟩
      have ba : Below u1.heap.size u1 (u1.alloc (Obj.cells #[.int .i64 0, .int .i64 0, .int .i64 0, .int .i64 0, .slice none 0 0, .slice none 0 0, .slice none 0 0, .slice none 0 0, .slice none 0 0] 29)) := (Below.refl _ _).alloc (Nat.le_refl _) _
      have ZE0 : Hid (Wx (u1.alloc (Obj.cells #[.int .i64 0, .int .i64 0, .int .i64 0, .int .i64 0, .slice none 0 0, .slice none 0 0, .slice none 0 0, .slice none 0 0, .slice none 0 0] 29)) bx (.int .i64 0) (.int .i64 0) (.int .i64 0) (.int .i64 0) (.slice none 0 0) (.slice none 0 0) (.slice none 0 0) (.slice none 0 0) (.slice none 0 0)) := Wx.new (w := u1) _ _ _ _ _ _ _ _ _ hbx
      have DE2 : Hid (Below w3.heap.size w3 (u1.alloc (Obj.cells #[.int .i64 0, .int .i64 0, .int .i64 0, .int .i64 0, .slice none 0 0, .slice none 0 0, .slice none 0 0, .slice none 0 0, .slice none 0 0] 29))) := DE.out.trans (ba.mono DE.out.size)
      have NB : Hid (w3.heap.size ≤ bx) := by rw [← hbx]; exact DE.out.size
      refine st_value rfl (.pointer (some ⟨u1.heap.size, 0, none⟩)) (u1.alloc (Obj.cells #[.int .i64 0, .int .i64 0, .int .i64 0, .int .i64 0, .slice none 0 0, .slice none 0 0, .slice none 0 0, .slice none 0 0, .slice none 0 0] 29)) (by go_simp) (by go_simp) (CB.out _ DE2.out) ?_
      rw [hbx]
      generalize u1.alloc (Obj.cells #[.int .i64 0, .int .i64 0, .int .i64 0, .int .i64 0, .slice none 0 0, .slice none 0 0, .slice none 0 0, .slice none 0 0, .slice none 0 0] 29) = u3 at *
      go_simp
      clear DE ba hbx
      have DE := DE2
      clear DE2
      refine tr_one ?_
      refine st_call rfl 21 #[.slice pk ks.length qk, .agg #[.int .i64 A.turn, .int .i64 A.next, .int .i64 A.wide, .int .i64 A.high, .slice s1 A.gs.length l1, .slice s2 A.os.length l2, .slice s3 A.gold.length l3, .slice s4 A.us.length l4, .slice s5 A.qs.length l5], vo] (by go_simp) (by go_simp) ?_
      have BB : Hid (Below w.heap.size w u3) := BW.out.trans (DE.out.mono BW.out.size)
      refine (Step_any _ _ _ ks A lo u3 (K.out.1.below BB.out) K.out.2 (AL.out.below DE.out) (CO.out.2.2.below BB.out) (SDH.out.below BB.out)).mono ?_
      rintro e u2 ⟨v, ev, r, rfl, hr, hs, hb⟩
      obtain ⟨Q, hwo, hst⟩ := stp_of hs hr
      have ST : Hid (Stp ks A lo Q r) := hst
      clear hr hs hst BB
      obtain ⟨g1, d1, g2, d2, g3, d3, g4, d4, g5, d5, rfl⟩ := wl_shape9 hwo.l
      have ZE : Hid (Wx u2 bx (.int .i64 0) (.int .i64 0) (.int .i64 0) (.int .i64 0) (.slice none 0 0) (.slice none 0 0) (.slice none 0 0) (.slice none 0 0) (.slice none 0 0)) := ZE0.out.below hb ZE0.out.lt
      have WQ : Hid (Wo u2 u3.heap.size (.agg #[.int .i64 Q.turn, .int .i64 Q.next, .int .i64 Q.wide, .int .i64 Q.high, .slice g1 Q.gs.length d1, .slice g2 Q.os.length d2, .slice g3 Q.gold.length d3, .slice g4 Q.us.length d4, .slice g5 Q.qs.length d5]) Q ∧ bx < u3.heap.size ∧ w3.heap.size ≤ u3.heap.size) := ⟨hwo, ZE0.out.lt, DE.out.size⟩
      have BU : Hid (Below w3.heap.size w3 u2) := DE.out.trans (hb.mono DE.out.size)
      refine ⟨_, rfl, CB.out _ BU.out, ?_⟩
      clear hb hwo ZE0
      go_simp
      refine tr_read rfl (.tuple #[.agg #[.int .i64 Q.turn, .int .i64 Q.next, .int .i64 Q.wide, .int .i64 Q.high, .slice g1 Q.gs.length d1, .slice g2 Q.os.length d2, .slice g3 Q.gold.length d3, .slice g4 Q.us.length d4, .slice g5 Q.qs.length d5], ev, r]) (by go_simp) (fun V hV => by go_simp) ?_
      go_simp
      refine tr_read rfl (.agg #[.int .i64 Q.turn, .int .i64 Q.next, .int .i64 Q.wide, .int .i64 Q.high, .slice g1 Q.gs.length d1, .slice g2 Q.os.length d2, .slice g3 Q.gold.length d3, .slice g4 Q.us.length d4, .slice g5 Q.qs.length d5]) (by go_simp) (fun V hV => by go_simp) ?_
      go_simp
      refine tr_read rfl (ev) (by go_simp) (fun V hV => by go_simp) ?_
      go_simp
      refine tr_read rfl (r) (by go_simp) (fun V hV => by go_simp) ?_
      go_simp
      refine tr_one ?_
      obtain ⟨z0, z1, z2, z3, z4, z5, z6, z7, z8⟩ := ZE.out.cells
      obtain ⟨t0, t1, t2, t3, t4, t5, t6, t7, t8⟩ := ZE.out.thaws
      have KZ : Hid (Kp bx u2 (((((((((u2.setCell ⟨bx, 0, none⟩ (.int .i64 Q.turn)).setCell ⟨bx, 1, none⟩ (.int .i64 Q.next)).setCell ⟨bx, 2, none⟩ (.int .i64 Q.wide)).setCell ⟨bx, 3, none⟩ (.int .i64 Q.high)).setCell ⟨bx, 4, none⟩ (.slice g1 Q.gs.length d1)).setCell ⟨bx, 5, none⟩ (.slice g2 Q.os.length d2)).setCell ⟨bx, 6, none⟩ (.slice g3 Q.gold.length d3)).setCell ⟨bx, 7, none⟩ (.slice g4 Q.us.length d4)).setCell ⟨bx, 8, none⟩ (.slice g5 Q.qs.length d5))) := put_kp _ _ _ _ _ _ _ _ _ _ _
      have BZ : Hid (Below w3.heap.size w3 (((((((((u2.setCell ⟨bx, 0, none⟩ (.int .i64 Q.turn)).setCell ⟨bx, 1, none⟩ (.int .i64 Q.next)).setCell ⟨bx, 2, none⟩ (.int .i64 Q.wide)).setCell ⟨bx, 3, none⟩ (.int .i64 Q.high)).setCell ⟨bx, 4, none⟩ (.slice g1 Q.gs.length d1)).setCell ⟨bx, 5, none⟩ (.slice g2 Q.os.length d2)).setCell ⟨bx, 6, none⟩ (.slice g3 Q.gold.length d3)).setCell ⟨bx, 7, none⟩ (.slice g4 Q.us.length d4)).setCell ⟨bx, 8, none⟩ (.slice g5 Q.qs.length d5))) := KZ.out.below BU.out BU.out.size NB.out
      have WZ : Hid (Wbo (((((((((u2.setCell ⟨bx, 0, none⟩ (.int .i64 Q.turn)).setCell ⟨bx, 1, none⟩ (.int .i64 Q.next)).setCell ⟨bx, 2, none⟩ (.int .i64 Q.wide)).setCell ⟨bx, 3, none⟩ (.int .i64 Q.high)).setCell ⟨bx, 4, none⟩ (.slice g1 Q.gs.length d1)).setCell ⟨bx, 5, none⟩ (.slice g2 Q.os.length d2)).setCell ⟨bx, 6, none⟩ (.slice g3 Q.gold.length d3)).setCell ⟨bx, 7, none⟩ (.slice g4 Q.us.length d4)).setCell ⟨bx, 8, none⟩ (.slice g5 Q.qs.length d5)) bx w3.heap.size Q) := ⟨g1, d1, g2, d2, g3, d3, g4, d4, g5, d5, wx_bw (ZE.out.put _ _ _ _ _ _ _ _ _), (WQ.out.1.kp KZ.out WQ.out.2.1).mono WQ.out.2.2⟩
      refine st_skip rfl (((((((((u2.setCell ⟨bx, 0, none⟩ (.int .i64 Q.turn)).setCell ⟨bx, 1, none⟩ (.int .i64 Q.next)).setCell ⟨bx, 2, none⟩ (.int .i64 Q.wide)).setCell ⟨bx, 3, none⟩ (.int .i64 Q.high)).setCell ⟨bx, 4, none⟩ (.slice g1 Q.gs.length d1)).setCell ⟨bx, 5, none⟩ (.slice g2 Q.os.length d2)).setCell ⟨bx, 6, none⟩ (.slice g3 Q.gold.length d3)).setCell ⟨bx, 7, none⟩ (.slice g4 Q.us.length d4)).setCell ⟨bx, 8, none⟩ (.slice g5 Q.qs.length d5)) (by go_simp) (by go_simp) (CB.out _ BZ.out) ?_
      clear z0 z1 z2 z3 z4 z5 z6 z7 z8 t0 t1 t2 t3 t4 t5 t6 t7 t8 KZ ZE
      generalize ((((((((u2.setCell ⟨bx, 0, none⟩ (.int .i64 Q.turn)).setCell ⟨bx, 1, none⟩ (.int .i64 Q.next)).setCell ⟨bx, 2, none⟩ (.int .i64 Q.wide)).setCell ⟨bx, 3, none⟩ (.int .i64 Q.high)).setCell ⟨bx, 4, none⟩ (.slice g1 Q.gs.length d1)).setCell ⟨bx, 5, none⟩ (.slice g2 Q.os.length d2)).setCell ⟨bx, 6, none⟩ (.slice g3 Q.gold.length d3)).setCell ⟨bx, 7, none⟩ (.slice g4 Q.us.length d4)).setCell ⟨bx, 8, none⟩ (.slice g5 Q.qs.length d5) = u9 at *
      go_simp
      refine tr_one ?_
      refine st_value rfl ev u9 (by go_simp) (by go_simp) (CB.out _ BZ.out) ?_
      go_simp
      unfold wpTr
      refine sched_value rfl r u9 (by go_simp) (by go_simp) trivial ?_
      go_simp
      unfold wpSched
      go_wp2_with fail
      go_meet
      case rel => exact ⟨bx, Q, rfl, ST.out, WZ.out, BZ.out⟩
  case rest =>
  obtain ⟨z, Q, rfl, hst, hwb, hbw⟩ := hcut
  have B4 : Hid (Below w.heap.size w wc) := BW.out.trans (hbw.mono BW.out.size)
  have A4 : Hid (Wx wc b (.int .i64 A.turn) (.int .i64 A.next) (.int .i64 A.wide) (.int .i64 A.high) (.slice s1 A.gs.length l1) (.slice s2 A.os.length l2) (.slice s3 A.gold.length l3) (.slice s4 A.us.length l4) (.slice s5 A.qs.length l5)) := AX.out.below hbw AX.out.lt
  have AL4 : Hid (Wl wc (.agg #[.int .i64 A.turn, .int .i64 A.next, .int .i64 A.wide, .int .i64 A.high, .slice s1 A.gs.length l1, .slice s2 A.os.length l2, .slice s3 A.gold.length l3, .slice s4 A.us.length l4, .slice s5 A.qs.length l5]) A) := AL.out.below hbw
  have ZB : Hid (b < w3.heap.size) := AX.out.lt
  rcases hst with ⟨rfl, hsf, es, hsr⟩ | ⟨F, rfl⟩
  case inr =>
    go_wp2
    go_ret
    exact ⟨rfl, B4.out⟩
  have WG : Hid (Wg ks A Q ∧ Wd.wfault ks Q = 0) := ⟨step_wg hsf hsr, (step_right hsf hsr).1⟩
  obtain ⟨g1, d1, g2, d2, g3, d3, g4, d4, g5, d5, hqb, hqo⟩ := hwb
  have Q4 : Hid (Bw wc z Q (.slice g1 Q.gs.length d1) (.slice g2 Q.os.length d2) (.slice g3 Q.gold.length d3) (.slice g4 Q.us.length d4) (.slice g5 Q.qs.length d5)) := hqb
  have QO : Hid (Wo wc w3.heap.size (.agg #[.int .i64 Q.turn, .int .i64 Q.next, .int .i64 Q.wide, .int .i64 Q.high, .slice g1 Q.gs.length d1, .slice g2 Q.os.length d2, .slice g3 Q.gold.length d3, .slice g4 Q.us.length d4, .slice g5 Q.qs.length d5]) Q) := hqo
  clear hsf hsr hqb hqo hbw AX AL BW
  rename World => w4
  have SBQ : Hid (SB Q ∧ SB A) := ⟨sb_of (wright_of WG.out.2), sb_of (wright_of AF.out)⟩
  have tn : ¬ tot A < tot Q := by have := WG.out.1.t; omega
  have nn : ¬ Q.next < A.next := by have := WG.out.1.n; omega
  obtain ⟨tA, htA⟩ : ∃ n, tot A = n := ⟨_, rfl⟩
  obtain ⟨tQ, htQ⟩ : ∃ n, tot Q = n := ⟨_, rfl⟩
  have TE : Hid (tot A = tA ∧ tot Q = tQ) := ⟨htA, htQ⟩
  rw [htA, htQ] at tn
  clear htA htQ
  go_upto_region 14 with fail
  have CB : Hid (∀ V, Below w4.heap.size w4 V → (Wx V b (.int .i64 A.turn) (.int .i64 A.next) (.int .i64 A.wide) (.int .i64 A.high) (.slice s1 A.gs.length l1) (.slice s2 A.os.length l2) (.slice s3 A.gold.length l3) (.slice s4 A.us.length l4) (.slice s5 A.qs.length l5)) ∧ Bw V z Q (.slice g1 Q.gs.length d1) (.slice g2 Q.os.length d2) (.slice g3 Q.gold.length d3) (.slice g4 Q.us.length d4) (.slice g5 Q.qs.length d5)) := fun V hV => ⟨A4.out.below hV A4.out.lt, Q4.out.below hV Q4.out.lt⟩
  have DE : Hid (Below w4.heap.size w4 { w4 with drawn := w4.drawn + 1 }) := (Below.refl _ _).drew
  refine wp_region_two [(true, 0), (true, 1), (true, 3), (true, 4), (false, 2), (false, 5), (true, 6), (true, 7), (true, 8), (true, 9), (true, 10), (true, 11), (true, 12)] [(true, 13)] (fun V => (Wx V b (.int .i64 A.turn) (.int .i64 A.next) (.int .i64 A.wide) (.int .i64 A.high) (.slice s1 A.gs.length l1) (.slice s2 A.os.length l2) (.slice s3 A.gold.length l3) (.slice s4 A.us.length l4) (.slice s5 A.qs.length l5)) ∧ Bw V z Q (.slice g1 Q.gs.length d1) (.slice g2 Q.os.length d2) (.slice g3 Q.gold.length d3) (.slice g4 Q.us.length d4) (.slice g5 Q.qs.length d5)) (by kernel_rfl) (by kernel_rfl) (by kernel_rfl) (by decide +kernel) (by decide +kernel) (CB.out _ DE.out) ?_
  generalize ({ w4 with drawn := w4.drawn + 1 } : World) = u1 at *
  refine headT_read rfl (.func (Fn.func 29) #[] #[]) (by go_simp) (fun V hV => by obtain ⟨hV1, hV2⟩ := hV; obtain ⟨x0, x1, x2, x3, x4, x5, x6, x7, x8⟩ := hV1.cells; obtain ⟨y0, y1, y2, y3, y4, y5, y6, y7, y8⟩ := hV2; go_simp) ?_
  go_simp
  refine headT_read rfl (.agg #[.int .i64 Q.turn, .int .i64 Q.next, .int .i64 Q.wide, .int .i64 Q.high, .slice g1 Q.gs.length d1, .slice g2 Q.os.length d2, .slice g3 Q.gold.length d3, .slice g4 Q.us.length d4, .slice g5 Q.qs.length d5]) (by go_simp) (fun V hV => by obtain ⟨hV1, hV2⟩ := hV; obtain ⟨x0, x1, x2, x3, x4, x5, x6, x7, x8⟩ := hV1.cells; obtain ⟨y0, y1, y2, y3, y4, y5, y6, y7, y8⟩ := hV2; go_simp) ?_
  go_simp
  refine headT_read rfl (.func (Fn.func 29) #[] #[]) (by go_simp) (fun V hV => by obtain ⟨hV1, hV2⟩ := hV; obtain ⟨x0, x1, x2, x3, x4, x5, x6, x7, x8⟩ := hV1.cells; obtain ⟨y0, y1, y2, y3, y4, y5, y6, y7, y8⟩ := hV2; go_simp) ?_
  go_simp
  refine headT_read rfl (.agg #[.int .i64 A.turn, .int .i64 A.next, .int .i64 A.wide, .int .i64 A.high, .slice s1 A.gs.length l1, .slice s2 A.os.length l2, .slice s3 A.gold.length l3, .slice s4 A.us.length l4, .slice s5 A.qs.length l5]) (by go_simp) (fun V hV => by obtain ⟨hV1, hV2⟩ := hV; obtain ⟨x0, x1, x2, x3, x4, x5, x6, x7, x8⟩ := hV1.cells; obtain ⟨y0, y1, y2, y3, y4, y5, y6, y7, y8⟩ := hV2; go_simp) ?_
  go_simp
  refine headT_call rfl 29 #[.agg #[.int .i64 Q.turn, .int .i64 Q.next, .int .i64 Q.wide, .int .i64 Q.high, .slice g1 Q.gs.length d1, .slice g2 Q.os.length d2, .slice g3 Q.gold.length d3, .slice g4 Q.us.length d4, .slice g5 Q.qs.length d5]] (by go_simp) (by go_simp) ?_
  refine (wsum_any _ Q u1 (QO.out.l.below DE.out) SBQ.out.1).mono ?_
  rintro e u2 ⟨rfl, hb⟩
  rw [TE.out.2]
  have D2 : Hid (Below w4.heap.size w4 u2) := DE.out.trans (hb.mono DE.out.size)
  refine ⟨_, rfl, CB.out _ D2.out, ?_⟩
  clear hb DE
  go_simp
  refine headT_call rfl 29 #[.agg #[.int .i64 A.turn, .int .i64 A.next, .int .i64 A.wide, .int .i64 A.high, .slice s1 A.gs.length l1, .slice s2 A.os.length l2, .slice s3 A.gold.length l3, .slice s4 A.us.length l4, .slice s5 A.qs.length l5]] (by go_simp) (by go_simp) ?_
  refine (wsum_any _ A u2 (AL4.out.below D2.out) SBQ.out.2).mono ?_
  rintro e u3 ⟨rfl, hb⟩
  rw [TE.out.1]
  have D3 : Hid (Below w4.heap.size w4 u3) := D2.out.trans (hb.mono D2.out.size)
  refine ⟨_, rfl, CB.out _ D3.out, ?_⟩
  clear hb D2
  go_simp
  refine headT_read rfl (.bool false) (by go_simp) (fun V hV => by obtain ⟨hV1, hV2⟩ := hV; obtain ⟨x0, x1, x2, x3, x4, x5, x6, x7, x8⟩ := hV1.cells; obtain ⟨y0, y1, y2, y3, y4, y5, y6, y7, y8⟩ := hV2; go_simp) ?_
  go_simp
  refine headT_read rfl (.bool false) (by go_simp) (fun V hV => by obtain ⟨hV1, hV2⟩ := hV; obtain ⟨x0, x1, x2, x3, x4, x5, x6, x7, x8⟩ := hV1.cells; obtain ⟨y0, y1, y2, y3, y4, y5, y6, y7, y8⟩ := hV2; go_simp) ?_
  go_simp
  refine headT_read rfl (.pointer (some ⟨z, 1, none⟩)) (by go_simp) (fun V hV => by obtain ⟨hV1, hV2⟩ := hV; obtain ⟨x0, x1, x2, x3, x4, x5, x6, x7, x8⟩ := hV1.cells; obtain ⟨y0, y1, y2, y3, y4, y5, y6, y7, y8⟩ := hV2; go_simp) ?_
  go_simp
  refine headT_read rfl (.int .i64 Q.next) (by go_simp) (fun V hV => by obtain ⟨hV1, hV2⟩ := hV; obtain ⟨x0, x1, x2, x3, x4, x5, x6, x7, x8⟩ := hV1.cells; obtain ⟨y0, y1, y2, y3, y4, y5, y6, y7, y8⟩ := hV2; go_simp) ?_
  go_simp
  refine headT_read rfl (.pointer (some ⟨b, 1, none⟩)) (by go_simp) (fun V hV => by obtain ⟨hV1, hV2⟩ := hV; obtain ⟨x0, x1, x2, x3, x4, x5, x6, x7, x8⟩ := hV1.cells; obtain ⟨y0, y1, y2, y3, y4, y5, y6, y7, y8⟩ := hV2; go_simp) ?_
  go_simp
  refine headT_read rfl (.int .i64 A.next) (by go_simp) (fun V hV => by obtain ⟨hV1, hV2⟩ := hV; obtain ⟨x0, x1, x2, x3, x4, x5, x6, x7, x8⟩ := hV1.cells; obtain ⟨y0, y1, y2, y3, y4, y5, y6, y7, y8⟩ := hV2; go_simp) ?_
  go_simp
  refine headT_read rfl (.bool false) (by go_simp) (fun V hV => by obtain ⟨hV1, hV2⟩ := hV; obtain ⟨x0, x1, x2, x3, x4, x5, x6, x7, x8⟩ := hV1.cells; obtain ⟨y0, y1, y2, y3, y4, y5, y6, y7, y8⟩ := hV2; go_simp) ?_
  go_simp
  unfold wpHeadT
  refine sched_read rfl (.bool false) (by go_simp) (fun V hV => by go_simp) ?_
  go_simp
  unfold wpSched
  have B5 : Hid (Below w.heap.size w u3) := B4.out.trans (D3.out.mono B4.out.size)
  have A5 : Hid (Wx u3 b (.int .i64 A.turn) (.int .i64 A.next) (.int .i64 A.wide) (.int .i64 A.high) (.slice s1 A.gs.length l1) (.slice s2 A.os.length l2) (.slice s3 A.gold.length l3) (.slice s4 A.us.length l4) (.slice s5 A.qs.length l5)) := A4.out.below D3.out A4.out.lt
  have AL5 : Hid (Wl u3 (.agg #[.int .i64 A.turn, .int .i64 A.next, .int .i64 A.wide, .int .i64 A.high, .slice s1 A.gs.length l1, .slice s2 A.os.length l2, .slice s3 A.gold.length l3, .slice s4 A.us.length l4, .slice s5 A.qs.length l5]) A) := AL4.out.below D3.out
  have Q5 : Hid (Bw u3 z Q (.slice g1 Q.gs.length d1) (.slice g2 Q.os.length d2) (.slice g3 Q.gold.length d3) (.slice g4 Q.us.length d4) (.slice g5 Q.qs.length d5)) := Q4.out.below D3.out Q4.out.lt
  have QO5 : Hid (Wo u3 w3.heap.size (.agg #[.int .i64 Q.turn, .int .i64 Q.next, .int .i64 Q.wide, .int .i64 Q.high, .slice g1 Q.gs.length d1, .slice g2 Q.os.length d2, .slice g3 Q.gold.length d3, .slice g4 Q.us.length d4, .slice g5 Q.qs.length d5]) Q) := QO.out.below D3.out
  clear D3 A4 AL4 Q4 QO B4 CB
  have QS := QO5.out.l.slices
  have QU : Hid (Unl u3 (.slice g4 Q.us.length d4) Q.us) := QS.2.2.2.1
  have AS := AL5.out.slices
  have AU : Hid (Unl u3 (.slice s4 A.us.length l4) A.us) := AS.2.2.2.1
  obtain ⟨qa9, qc9, qce, qc1, qc2, -⟩ := QU.out
  injection qce with qe1 qe2 qe3
  subst qe1 qe3
  obtain ⟨aa9, ac9, ace, ac1, ac2, -⟩ := AU.out
  injection ace with ae1 ae2 ae3
  subst ae1 ae3
  clear QS AS qe2 ae2
  rename World => u3
  go_wp2_with fail
  go_loopw [14] (fun j V => ∃ n : Nat, n ≤ Q.us.length ∧ j = .int .i64 (n : Nat) ∧ Below u3.heap.size u3 V) (fun j _ => Q.us.length - (intOf j).toNat)
  case atStart => exact ⟨0, Nat.zero_le _, rfl, Below.refl _ _⟩
  case round =>
  obtain ⟨n, hn, rfl, hbr⟩ := hrel
  have BR : Hid (Below u3.heap.size u3 wr) := hbr
  have B6 : Hid (Below w.heap.size w wr) := B5.out.trans (hbr.mono B5.out.size)
  have Q6 : Hid (Bw wr z Q (.slice g1 Q.gs.length d1) (.slice g2 Q.os.length d2) (.slice g3 Q.gold.length d3) (.slice g4 Q.us.length d4) (.slice g5 Q.qs.length d5)) := Q5.out.below hbr Q5.out.lt
  have A6 : Hid (Wx wr b (.int .i64 A.turn) (.int .i64 A.next) (.int .i64 A.wide) (.int .i64 A.high) (.slice s1 A.gs.length l1) (.slice s2 A.os.length l2) (.slice s3 A.gold.length l3) (.slice s4 A.us.length l4) (.slice s5 A.qs.length l5)) := A5.out.below hbr A5.out.lt
  clear hbr
  by_cases hne : n = Q.us.length
  case pos =>
    have hnn : ¬ (n : Int) < (Q.us.length : Int) := by omega
    have QO6 : Hid (Wo wr w3.heap.size (.agg #[.int .i64 Q.turn, .int .i64 Q.next, .int .i64 Q.wide, .int .i64 Q.high, .slice g1 Q.gs.length d1, .slice g2 Q.os.length d2, .slice g3 Q.gold.length d3, .slice g4 Q.us.length d4, .slice g5 Q.qs.length d5]) Q) := QO5.out.below BR.out
    obtain ⟨x0, x1, x2, x3, x4, x5, x6, x7, x8⟩ := Q6.out
    obtain ⟨y0, y1, y2, y3, y4, y5, y6, y7, y8⟩ := A6.out.cells
    obtain ⟨t0, t1, t2, t3, t4, t5, t6, t7, t8⟩ := A6.out.thaws
    have KW : Hid (Kp b wr (((((((((wr.setCell ⟨b, 0, none⟩ (.int .i64 Q.turn)).setCell ⟨b, 1, none⟩ (.int .i64 Q.next)).setCell ⟨b, 2, none⟩ (.int .i64 Q.wide)).setCell ⟨b, 3, none⟩ (.int .i64 Q.high)).setCell ⟨b, 4, none⟩ (.slice g1 Q.gs.length d1)).setCell ⟨b, 5, none⟩ (.slice g2 Q.os.length d2)).setCell ⟨b, 6, none⟩ (.slice g3 Q.gold.length d3)).setCell ⟨b, 7, none⟩ (.slice g4 Q.us.length d4)).setCell ⟨b, 8, none⟩ (.slice g5 Q.qs.length d5))) := put_kp _ _ _ _ _ _ _ _ _ _ _
    have AN : Hid (Wx (((((((((wr.setCell ⟨b, 0, none⟩ (.int .i64 Q.turn)).setCell ⟨b, 1, none⟩ (.int .i64 Q.next)).setCell ⟨b, 2, none⟩ (.int .i64 Q.wide)).setCell ⟨b, 3, none⟩ (.int .i64 Q.high)).setCell ⟨b, 4, none⟩ (.slice g1 Q.gs.length d1)).setCell ⟨b, 5, none⟩ (.slice g2 Q.os.length d2)).setCell ⟨b, 6, none⟩ (.slice g3 Q.gold.length d3)).setCell ⟨b, 7, none⟩ (.slice g4 Q.us.length d4)).setCell ⟨b, 8, none⟩ (.slice g5 Q.qs.length d5)) b (.int .i64 Q.turn) (.int .i64 Q.next) (.int .i64 Q.wide) (.int .i64 Q.high) (.slice g1 Q.gs.length d1) (.slice g2 Q.os.length d2) (.slice g3 Q.gold.length d3) (.slice g4 Q.us.length d4) (.slice g5 Q.qs.length d5)) := A6.out.put _ _ _ _ _ _ _ _ _
    have LN : Hid (Wl (((((((((wr.setCell ⟨b, 0, none⟩ (.int .i64 Q.turn)).setCell ⟨b, 1, none⟩ (.int .i64 Q.next)).setCell ⟨b, 2, none⟩ (.int .i64 Q.wide)).setCell ⟨b, 3, none⟩ (.int .i64 Q.high)).setCell ⟨b, 4, none⟩ (.slice g1 Q.gs.length d1)).setCell ⟨b, 5, none⟩ (.slice g2 Q.os.length d2)).setCell ⟨b, 6, none⟩ (.slice g3 Q.gold.length d3)).setCell ⟨b, 7, none⟩ (.slice g4 Q.us.length d4)).setCell ⟨b, 8, none⟩ (.slice g5 Q.qs.length d5)) (.agg #[.int .i64 Q.turn, .int .i64 Q.next, .int .i64 Q.wide, .int .i64 Q.high, .slice g1 Q.gs.length d1, .slice g2 Q.os.length d2, .slice g3 Q.gold.length d3, .slice g4 Q.us.length d4, .slice g5 Q.qs.length d5]) Q) := (QO6.out.kp KW.out ZB.out).l
    have BN : Hid (Below w.heap.size w (((((((((wr.setCell ⟨b, 0, none⟩ (.int .i64 Q.turn)).setCell ⟨b, 1, none⟩ (.int .i64 Q.next)).setCell ⟨b, 2, none⟩ (.int .i64 Q.wide)).setCell ⟨b, 3, none⟩ (.int .i64 Q.high)).setCell ⟨b, 4, none⟩ (.slice g1 Q.gs.length d1)).setCell ⟨b, 5, none⟩ (.slice g2 Q.os.length d2)).setCell ⟨b, 6, none⟩ (.slice g3 Q.gold.length d3)).setCell ⟨b, 7, none⟩ (.slice g4 Q.us.length d4)).setCell ⟨b, 8, none⟩ (.slice g5 Q.qs.length d5))) := KW.out.below B6.out B6.out.size (by rw [HB.out]; exact Nat.le_refl _)
    go_wp2
    go_roundw
    case rel => exact ⟨i + 1, Q, g1, d1, g2, d2, g3, d3, g4, d4, g5, d5, by omega, by omega, by go_num, AN.out, LN.out, WG.out.2, BN.out⟩
    case measure => simp [intOf]; omega
  have hnl : n < Q.us.length := by omega
  have hnl' : (n : Int) < (Q.us.length : Int) := by omega
  obtain ⟨u, hu⟩ : ∃ u, Q.us[n]? = some u := ⟨_, List.getElem?_eq_getElem hnl⟩
  have UM : Hid (Q.us[n]? = some u) := hu
  obtain ⟨qa, qq, qe, -, -, qcell⟩ := QU.out.below BR.out
  injection qe with qe1 qe2 qe3
  subst qe1 qe3
  obtain ⟨yu, rfl, -, qcell⟩ := qcell (by rintro h; rw [h] at hu; simp at hu)
  obtain ⟨c0, c1, c2, c3, c4, c5, c6, c7⟩ := qcell n u hu
  clear qcell hu qe2
  obtain ⟨x0, x1, x2, x3, x4, x5, x6, x7, x8⟩ := Q6.out
  go_upto_region 20 with fail
  obtain ⟨zu, hzu⟩ : ∃ z, wr.heap.size = z := ⟨_, rfl⟩
  have BU : Hid (Below wr.heap.size wr (wr.alloc (Obj.cells #[.int .i64 u.id, .int .i64 u.player, .int .i64 u.kind, .int .i64 u.at_, .int .i64 u.life, .int .i64 u.load, .int .i64 u.task, .int .i64 u.goal] 44))) := (Below.refl _ _).alloc (Nat.le_refl _) _
  have UB : Hid (Unc (wr.alloc (Obj.cells #[.int .i64 u.id, .int .i64 u.player, .int .i64 u.kind, .int .i64 u.at_, .int .i64 u.life, .int .i64 u.load, .int .i64 u.task, .int .i64 u.goal] 44)) ⟨zu, 0, none⟩ u) := Unc.mk' u hzu
  have B7 : Hid (Below w.heap.size w (wr.alloc (Obj.cells #[.int .i64 u.id, .int .i64 u.player, .int .i64 u.kind, .int .i64 u.at_, .int .i64 u.life, .int .i64 u.load, .int .i64 u.task, .int .i64 u.goal] 44))) := B6.out.trans (BU.out.mono B6.out.size)
  have BR7 : Hid (Below u3.heap.size u3 (wr.alloc (Obj.cells #[.int .i64 u.id, .int .i64 u.player, .int .i64 u.kind, .int .i64 u.at_, .int .i64 u.life, .int .i64 u.load, .int .i64 u.task, .int .i64 u.goal] 44))) := BR.out.trans (BU.out.mono BR.out.size)
  have A7 : Hid (Wx (wr.alloc (Obj.cells #[.int .i64 u.id, .int .i64 u.player, .int .i64 u.kind, .int .i64 u.at_, .int .i64 u.life, .int .i64 u.load, .int .i64 u.task, .int .i64 u.goal] 44)) b (.int .i64 A.turn) (.int .i64 A.next) (.int .i64 A.wide) (.int .i64 A.high) (.slice s1 A.gs.length l1) (.slice s2 A.os.length l2) (.slice s3 A.gold.length l3) (.slice s4 A.us.length l4) (.slice s5 A.qs.length l5)) := A6.out.below BU.out A6.out.lt
  rw [hzu]
  generalize wr.alloc (Obj.cells #[.int .i64 u.id, .int .i64 u.player, .int .i64 u.kind, .int .i64 u.at_, .int .i64 u.life, .int .i64 u.load, .int .i64 u.task, .int .i64 u.goal] 44) = w7 at *
  clear x0 x1 x2 x3 x4 x5 x6 x7 x8 c0 c1 c2 c3 c4 c5 c6 c7 BU hzu A6 B6 Q6 BR
  obtain ⟨x0, x1, x2, x3, x4, x5, x6, x7, x8⟩ := A7.out.cells
  obtain ⟨c0, c1, c2, c3, c4, c5, c6, c7⟩ := UB.out
  simp only [Nat.zero_add] at c1 c2 c3 c4 c5 c6 c7
  go_wp2_with fail
  refine (rfind_any _ A u.id w7 (AL5.out.below BR7.out)).mono ?_
  rintro e w8 ⟨r, rfl, hr, hb⟩
  have FR : Hid (FstU (fun x => x.id == u.id) A.us r) := hr
  have B8 : Hid (Below w.heap.size w w8) := B7.out.trans (hb.mono B7.out.size)
  have BR8 : Hid (Below u3.heap.size u3 w8) := BR7.out.trans (hb.mono BR7.out.size)
  have A8 : Hid (Wx w8 b (.int .i64 A.turn) (.int .i64 A.next) (.int .i64 A.wide) (.int .i64 A.high) (.slice s1 A.gs.length l1) (.slice s2 A.os.length l2) (.slice s3 A.gold.length l3) (.slice s4 A.us.length l4) (.slice s5 A.qs.length l5)) := A7.out.below hb A7.out.lt
  have UB8 : Hid (Unc w8 ⟨zu, 0, none⟩ u) := UB.out.below hb UB.out.lt
  clear hr hb x0 x1 x2 x3 x4 x5 x6 x7 x8 c0 c1 c2 c3 c4 c5 c6 c7 A7 B7 BR7 UB
  obtain ⟨x0, x1, x2, x3, x4, x5, x6, x7, x8⟩ := A8.out.cells
  obtain ⟨c0, c1, c2, c3, c4, c5, c6, c7⟩ := UB8.out
  simp only [Nat.zero_add] at c1 c2 c3 c4 c5 c6 c7
  rcases WG.out.1.u u (List.mem_of_getElem? UM.out) with ⟨v, hv, e1, e2, e3, e4⟩ | ⟨e1, k, e2, e3⟩
  case inr =>
    obtain rfl := find_new (wright_of AF.out) e1 FR.out
    have n1 : ¬ u.id < A.next := by omega
    obtain ⟨k', F⟩ := (wright_of WG.out.2).fine UM.out
    obtain ⟨kn, hkn⟩ : ∃ kn : Nat, u.kind = (kn : Nat) := ⟨u.kind.toNat, by have := F.k0; omega⟩
    have kkn : ks[kn]? = some k := by rw [hkn, Int.toNat_natCast] at e2; exact e2
    have knl : (kn : Int) < (ks.length : Int) := by have := F.k0; omega
    obtain ⟨ka, kq, ke, -, -, kcell⟩ := K.out.1.below B8.out
    injection ke with ke1 ke2 ke3
    subst ke1 ke3
    obtain ⟨yk, rfl, -, kcell⟩ := kcell (by rintro h; rw [h] at kkn; simp at kkn)
    obtain ⟨f0, f1, f2, f3, f4, f5, f6, f7, f8, f9, f10⟩ := kcell kn k kkn
    rw [hkn] at c2
    have n2 : ¬ k.n0 < u.life := by omega
    have dn1 : decide (u.id < A.next) = false := decide_eq_false n1
    have dn2 : decide (k.n0 < u.life) = false := decide_eq_false n2
    clear kcell kkn ke2 F e2
    go_upto_region 22 with fail
    have BQ : Hid (∀ q, Below u3.heap.size u3 (w8.drewN q)) := fun q => ⟨BR8.out.os, BR8.out.tape, BR8.out.output, BR8.out.size, BR8.out.block⟩
    go_quiet (fail)
    go_wp2
    go_roundw
    case rel => exact ⟨n + 1, by omega, by go_num, BQ.out _⟩
    case measure => simp [intOf]; omega
  case inl =>
    obtain ⟨j, rfl, hj⟩ := find_old (wright_of AF.out) hv e1 FR.out
    have hjl : j < A.us.length := (List.getElem?_eq_some_iff.1 hj).1
    have hjl' : (j : Int) < (A.us.length : Int) := by omega
    have hj0 : ¬ (j : Int) < 0 := by omega
    obtain ⟨aa, aq, ae, -, -, acell⟩ := AU.out.below BR8.out
    injection ae with ae1 ae2 ae3
    subst ae1 ae3
    obtain ⟨ya, rfl, -, acell⟩ := acell (by rintro h; rw [h] at hj; simp at hj)
    obtain ⟨f0, f1, f2, f3, f4, f5, f6, f7⟩ := acell j v hj
    have n1 : ¬ v.life < u.life := by omega
    have EE : Hid (u.player = v.player ∧ u.kind = v.kind) := ⟨e3, e4⟩
    clear acell hj ae2 e3 e4 e1 hv
    go_upto_region 25 with fail
    obtain ⟨zv, hzv⟩ : ∃ z, w8.heap.size = z := ⟨_, rfl⟩
    have BV : Hid (Below w8.heap.size w8 (w8.alloc (Obj.cells #[.int .i64 v.id, .int .i64 v.player, .int .i64 v.kind, .int .i64 v.at_, .int .i64 v.life, .int .i64 v.load, .int .i64 v.task, .int .i64 v.goal] 44))) := (Below.refl _ _).alloc (Nat.le_refl _) _
    have VB : Hid (Unc (w8.alloc (Obj.cells #[.int .i64 v.id, .int .i64 v.player, .int .i64 v.kind, .int .i64 v.at_, .int .i64 v.life, .int .i64 v.load, .int .i64 v.task, .int .i64 v.goal] 44)) ⟨zv, 0, none⟩ v) := Unc.mk' v hzv
    have UB9 : Hid (Unc (w8.alloc (Obj.cells #[.int .i64 v.id, .int .i64 v.player, .int .i64 v.kind, .int .i64 v.at_, .int .i64 v.life, .int .i64 v.load, .int .i64 v.task, .int .i64 v.goal] 44)) ⟨zu, 0, none⟩ u) := UB8.out.below BV.out UB8.out.lt
    have BR9 : Hid (Below u3.heap.size u3 (w8.alloc (Obj.cells #[.int .i64 v.id, .int .i64 v.player, .int .i64 v.kind, .int .i64 v.at_, .int .i64 v.life, .int .i64 v.load, .int .i64 v.task, .int .i64 v.goal] 44))) := BR8.out.trans (BV.out.mono BR8.out.size)
    rw [hzv]
    generalize w8.alloc (Obj.cells #[.int .i64 v.id, .int .i64 v.player, .int .i64 v.kind, .int .i64 v.at_, .int .i64 v.life, .int .i64 v.load, .int .i64 v.task, .int .i64 v.goal] 44) = w9 at *
    clear x0 x1 x2 x3 x4 x5 x6 x7 x8 c0 c1 c2 c3 c4 c5 c6 c7 f0 f1 f2 f3 f4 f5 f6 f7 BV hzv
    obtain ⟨c0, c1, c2, c3, c4, c5, c6, c7⟩ := UB9.out
    simp only [Nat.zero_add] at c1 c2 c3 c4 c5 c6 c7
    obtain ⟨f0, f1, f2, f3, f4, f5, f6, f7⟩ := VB.out
    simp only [Nat.zero_add] at f1 f2 f3 f4 f5 f6 f7
    rw [EE.out.1] at c1
    rw [EE.out.2] at c2
    go_wp2
    go_roundw
    case rel => exact ⟨n + 1, by omega, by go_num, BR9.out⟩
    case measure => simp [intOf]; omega
end Go.Proofs.YthcndngdngjalaaGreatDoor.topWeighs

namespace Go.Proofs.YthcndngdngjalaaGreatDoor
open Go.ChangeShapes Go.WideShapes Go.ChangeAt Go.RowKit
set_option linter.unusedVariables false

theorem sides_g : Tryz.prog.globalNamed "marchland/field.sides" = some 1 := by kernel_rfl
theorem sides_t : (Tryz.prog.globals[1]?).map (·.type) = some 226 := by kernel_rfl
theorem side_cs : Tryz.prog.cellsOf 225 = 2 := by kernel_rfl
theorem int_cs : Tryz.prog.cellsOf 3 = 1 := by kernel_rfl

theorem len2 {α : Type} {l : List α} (h : l.length = 2) : ∃ a b, l = [a, b] := by
  match l, h with
  | [a, b], _ => exact ⟨a, b, rfl⟩
theorem len4 {α : Type} {l : List α} (h : l.length = 4) : ∃ a b c d, l = [a, b, c, d] := by
  match l, h with
  | [a, b, c, d], _ => exact ⟨a, b, c, d, rfl⟩

set_option maxRecDepth 100000 in
theorem side_cells {w : World} {fuel : Nat} {cs : List Value} {a b : Int} {y : DataW Unit × List MemPlace} (h : DataW.trod (fun _ => ()) Tryz.prog w 0 (fun _ => true) false fuel 225 cs = some y) (hy : y.1 = .agg [.lit (.int .i64 a), .lit (.int .i64 b)]) : cs = [.int .i64 a, .int .i64 b] := by
  obtain ⟨y0, y1, n, hx, hl, h0, h1⟩ := trod_struct2 Tryz.underlying225 h
  obtain ⟨p, e0, f0, -⟩ := DataW.trod_int Tryz.underlying3 h0
  obtain ⟨q, e1, f1, -⟩ := DataW.trod_int Tryz.underlying3 h1
  rw [hx, f0, f1] at hy
  simp only [DataW.agg.injEq, List.cons.injEq, DataW.lit.injEq, Lit.int.injEq, true_and, and_true] at hy
  obtain ⟨rfl, rfl⟩ := hy
  dsimp only at e0 e1
  rw [int_cs] at e0 e1
  rw [side_cs] at hl
  obtain ⟨c0, c1, rfl⟩ := len2 hl
  simp at e0 e1
  rw [e0, e1]

set_option maxRecDepth 100000 in
theorem sd_of_laid {w : World} (h : laidMet Tryz.prog [("marchland/field.sides", Rows.laid_marchland_field_sides)] w) : Sd w := by
  obtain ⟨ps, ⟨g, t, cs, fuel, p, q, h1, h2, h3, h4, -, -⟩, -, -⟩ := h
  obtain rfl := Option.some.inj (sides_g.symm.trans h1)
  obtain rfl := Option.some.inj (sides_t.symm.trans h2)
  obtain ⟨xs, m, -, hx, hl, hn, hi⟩ := DataW.trod_array Tryz.underlying226 h4
  have hd : xs.map (·.1) = [.agg [.lit (.int .i64 0), .lit (.int .i64 (-1))], .agg [.lit (.int .i64 (-1)), .lit (.int .i64 0)], .agg [.lit (.int .i64 1), .lit (.int .i64 0)], .agg [.lit (.int .i64 0), .lit (.int .i64 1)]] := by
    have e : Rows.laid_marchland_field_sides = DataW.agg (xs.map (·.1)) := congrArg Prod.fst hx
    unfold Rows.laid_marchland_field_sides at e
    injection e with e
    exact e.symm
  obtain ⟨x0, x1, x2, x3, rfl⟩ := len4 hn
  simp only [List.map_cons, List.map_nil, List.cons.injEq, and_true] at hd
  obtain ⟨d0, d1, d2, d3⟩ := hd
  have i0 := side_cells (hi 0 (by decide)) d0
  have i1 := side_cells (hi 1 (by decide)) d1
  have i2 := side_cells (hi 2 (by decide)) d2
  have i3 := side_cells (hi 3 (by decide)) d3
  rw [side_cs] at i0 i1 i2 i3
  have ec : ∀ k : Nat, w.cell? ⟨1, k, none⟩ = cs.toList[k]? := fun k => by
    have e := World.var?_cell sides_g h3 k
    rw [e, Array.getElem?_toList]
  have g0 : ∀ k a b, (cs.toList.drop (k * 2)).take 2 = [.int .i64 a, .int .i64 b] → cs.toList[k * 2]? = some (.int .i64 a) ∧ cs.toList[k * 2 + 1]? = some (.int .i64 b) := by
    intro k a b e
    constructor
    · have := congrArg (fun l => l[0]?) e
      simpa [List.getElem?_take, List.getElem?_drop] using this
    · have := congrArg (fun l => l[1]?) e
      simpa [List.getElem?_take, List.getElem?_drop] using this
  have j0 := g0 0 _ _ i0
  have j1 := g0 1 _ _ i1
  have j2 := g0 2 _ _ i2
  have j3 := g0 3 _ _ i3
  exact ⟨(ec 0).trans j0.1, (ec 1).trans j0.2, (ec 2).trans j1.1, (ec 3).trans j1.2, (ec 4).trans j2.1, (ec 5).trans j2.2, (ec 6).trans j3.1, (ec 7).trans j3.2⟩
end Go.Proofs.YthcndngdngjalaaGreatDoor

