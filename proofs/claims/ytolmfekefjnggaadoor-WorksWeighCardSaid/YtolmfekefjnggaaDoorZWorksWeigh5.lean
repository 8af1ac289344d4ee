/- works.bring. · Slices of api.Event: a whole list behind another one: the run itself. · Slices of api.Job: a whole list behind another one. · world.fresh, world.Copy. · What stays where one block turns: events. · works.Dig. · Behind digging a world is right; what is dug is not lost. Plain mathematics. · What is dug is not lost: sums. Plain mathematics. · WorksWeigh: how great sums may be. · A map of integers by integers that a call makes. · works.Train$1: whether a job is its unit's first. · A land: the cells beside each, and how far it is onto each. · Fields: of all cells at once, those beside, and how far it is onto each. · What every call on a path says first. · A list of integers from which the first is taken, and that is added to at its end. · slices.Repeat, of a list of one. · Cells beside one another: plain mathematics. · Ways: plain mathematics. nb: the cells beside one; st: how far it is from one to another one that is beside; t: whereto. -/
import Derived.Test.YtolmfekefjnggaaDoorZWorksWeigh4
import Derived.Test.YtolmfekefjnggaaDoorZWorksWeigh1
import Derived.Test.YtolmfekefjnggaaDoorZWorksWeigh3
import Derived.Deep.DeepCutAuto
import Derived.Maps.Own
import Derived.Maps.OwnOps
import Derived.Maps.Views
import Derived.Carry
import Derived.DeepKeys4
import Derived.Test.YtolmfekefjnggaaDoorZWorksWeigh2
import Derived.ArgAppend
import Derived.Laws.CopyRow
namespace Go.Proofs.YtolmfekefjnggaaDoor
open Go.RowKit
set_option linter.unusedVariables false

def BrI (ks : List KV) (Wn Hn : Nat) (Y : WV) (z b1 : Nat) (w1 : World) (u1 u2 u3 u4 u5 ev j : Value) (V : World) : Prop := ∃ q : Nat, q ≤ Y.us.length ∧ j = .int .i64 (q : Nat) ∧ Wx V z (.int .i64 Y.turn) (.int .i64 Y.next) (.int .i64 Y.wide) (.int .i64 Y.high) u1 u2 u3 u4 u5 ∧ BrS ks Y (br ks Wn Hn Y q).1 (br ks Wn Hn Y q).2 b1 (z + 1) w1 u1 u2 u3 u4 u5 ev V
set_option maxRecDepth 100000 in
set_option maxHeartbeats 16000000 in
theorem bring_any (vk : Value) (ks : List KV) (Y : WV) (u1 u2 u3 u4 u5 : Value) (b1 : Nat) (w0 w : World) (hk : Kl w0 vk ks) (hb0 : Below w0.heap.size w0 w) (h0b : w0.heap.size ≤ b1) (o1 : Ow w b1 u1 Y.gs) (o2 : Ow w b1 u2 Y.os) (o3 : Ow w b1 u3 Y.gold) (o4 : Uno w b1 u4 Y.us) (o5 : Jbo w b1 u5 Y.qs) (hd : [u1, u2, u3, u4, u5].Pairwise Dif) (hf : DFit ks Y) (Wn Hn : Nat) (e1 : Y.wide = (Wn : Nat)) (e2 : Y.high = (Hn : Nat)) (G : Fd.Good Wn Hn Y.gs Y.os) (hs : Sd w0) :
    Calls Tryd.prog 24 #[vk, .agg #[.int .i64 Y.turn, .int .i64 Y.next, .int .i64 Y.wide, .int .i64 Y.high, u1, u2, u3, u4, u5]] w fun e w' => ∃ ev, e = .returned ev ∧ BrS ks Y (br ks Wn Hn Y Y.us.length).1 (br ks Wn Hn Y Y.us.length).2 b1 w.heap.size w u1 u2 u3 u4 u5 ev w' := by
  have WH : Hid (Y.wide = (Wn : Nat) ∧ Y.high = (Hn : Nat) ∧ Fd.Good Wn Hn Y.gs Y.os ∧ Sd w0) := ⟨e1, e2, G, hs⟩
  clear e1 e2 G hs
  have KB : Hid (Kl w0 vk ks ∧ Below w0.heap.size w0 w ∧ w0.heap.size ≤ b1) := ⟨hk, hb0, h0b⟩
  obtain ⟨pk, qk, rfl, ck1, ck2, kc⟩ := hk
  have T0 : Hid (BrS ks Y Y [] b1 w.heap.size w u1 u2 u3 u4 u5 (.slice none 0 0) w) := ⟨o1, o2, o3, o4, o5, Evo.nil _ _, hd, Fr.below (Below.refl _ _), ⟨rfl, rfl, rfl, rfl, rfl, rfl, rfl, rfl, rfl⟩, hf⟩
  have LW : Hid (∀ x ∈ [u1, u2, u5], ∀ k, x.ownBlock = some k → k < w.heap.size) := by
    intro x hx k hk
    simp only [List.mem_cons, List.not_mem_nil, or_false] at hx
    rcases hx with rfl | rfl | rfl
    · exact (o1.block k hk).2
    · exact (o2.block k hk).2
    · exact (o5.block k hk).2
  have L24 : Hid ((∀ k, u3.ownBlock = some k → b1 ≤ k ∧ k < w.heap.size) ∧ ∀ k, u4.ownBlock = some k → b1 ≤ k ∧ k < w.heap.size) := ⟨o3.block, o4.block⟩
  have ul : Y.us.length ≤ 40 := hf.ul
  obtain ⟨a1, h1, rfl⟩ := o1.len
  obtain ⟨a2, h2, rfl⟩ := o2.len
  obtain ⟨a3, h3, rfl⟩ := o3.len
  obtain ⟨a4, h4, rfl⟩ := o4.len
  obtain ⟨a5, h5, rfl⟩ := o5.len
  clear hb0 h0b kc o1 o2 o3 o4 o5 hd hf
  go_enter Tryd.func24, Tryd.ntmps24
  go_upto_region 2 with fail
  have BA : Hid (Below w.heap.size w (w.alloc (Obj.cells #[.int .i64 Y.turn, .int .i64 Y.next, .int .i64 Y.wide, .int .i64 Y.high, .slice a1 Y.gs.length h1, .slice a2 Y.os.length h2, .slice a3 Y.gold.length h3, .slice a4 Y.us.length h4, .slice a5 Y.qs.length h5] 29))) := (Below.refl _ _).alloc (Nat.le_refl _) _
  obtain ⟨z, hz⟩ : ∃ z, w.heap.size = z := ⟨_, rfl⟩
  have HZ : Hid (w.heap.size = z) := hz
  have X1 : Hid (Wx (w.alloc (Obj.cells #[.int .i64 Y.turn, .int .i64 Y.next, .int .i64 Y.wide, .int .i64 Y.high, .slice a1 Y.gs.length h1, .slice a2 Y.os.length h2, .slice a3 Y.gold.length h3, .slice a4 Y.us.length h4, .slice a5 Y.qs.length h5] 29)) z (.int .i64 Y.turn) (.int .i64 Y.next) (.int .i64 Y.wide) (.int .i64 Y.high) (.slice a1 Y.gs.length h1) (.slice a2 Y.os.length h2) (.slice a3 Y.gold.length h3) (.slice a4 Y.us.length h4) (.slice a5 Y.qs.length h5)) := Wx.new (w := w) _ _ _ _ _ _ _ _ _ hz
  have S1 : Hid ((w.alloc (Obj.cells #[.int .i64 Y.turn, .int .i64 Y.next, .int .i64 Y.wide, .int .i64 Y.high, .slice a1 Y.gs.length h1, .slice a2 Y.os.length h2, .slice a3 Y.gold.length h3, .slice a4 Y.us.length h4, .slice a5 Y.qs.length h5] 29)).heap.size = z + 1) := by unfold Hid; rw [← hz]; simp
  rw [hz]
  clear hz
  generalize w.alloc (Obj.cells #[.int .i64 Y.turn, .int .i64 Y.next, .int .i64 Y.wide, .int .i64 Y.high, .slice a1 Y.gs.length h1, .slice a2 Y.os.length h2, .slice a3 Y.gold.length h3, .slice a4 Y.us.length h4, .slice a5 Y.qs.length h5] 29) = w1 at *
  have T1 : Hid (BrS ks Y Y [] b1 (z + 1) w1 (.slice a1 Y.gs.length h1) (.slice a2 Y.os.length h2) (.slice a3 Y.gold.length h3) (.slice a4 Y.us.length h4) (.slice a5 Y.qs.length h5) (.slice none 0 0) w1) := by
    have h := T0.out.below BA.out
    exact ⟨h.o1, h.o2, h.o3, h.o4, h.o5, Evo.nil _ _, h.d, Fr.below (Below.refl _ _), h.k, h.f⟩
  clear T0
  obtain ⟨x0, x1, x2, x3, x4, x5, x6, x7, x8⟩ := X1.out.cells
  go_wp2_with fail
  clear x0 x1 x2 x3 x4 x5 x6 x7 x8
  go_loopw [5, 11] (fun ev j V => BrI ks Wn Hn Y z b1 w1 (.slice a1 Y.gs.length h1) (.slice a2 Y.os.length h2) (.slice a3 Y.gold.length h3) (.slice a4 Y.us.length h4) (.slice a5 Y.qs.length h5) ev j V) (fun _ j _ => Y.us.length - (intOf j).toNat)
  case atStart => exact ⟨0, Nat.zero_le _, rfl, X1.out, T1.out⟩
  case round =>
    obtain ⟨q, hq, rfl, hx, ht⟩ := hrel
    obtain ⟨Z, hZ⟩ : ∃ Z, (br ks Wn Hn Y q).1 = Z := ⟨_, rfl⟩
    obtain ⟨es, hE⟩ : ∃ es, (br ks Wn Hn Y q).2 = es := ⟨_, rfl⟩
    have HQ : Hid ((br ks Wn Hn Y q).1 = Z ∧ (br ks Wn Hn Y q).2 = es) := ⟨hZ, hE⟩
    have EL : Hid (es.length ≤ 40) := by have h9 := br_evs (ks := ks) (Wn := Wn) (Hn := Hn) (Y := Y) q; rw [hE] at h9; unfold Hid; omega
    rw [hZ, hE] at ht
    clear hZ hE
    obtain ⟨ea, ec, rfl⟩ := ht.e.len
    have TQ : Hid (BrS ks Y Z es b1 (z + 1) w1 (.slice a1 Y.gs.length h1) (.slice a2 Y.os.length h2) (.slice a3 Y.gold.length h3) (.slice a4 Y.us.length h4) (.slice a5 Y.qs.length h5) (.slice ea es.length ec) wr) := ht
    have XQ : Hid (Wx wr z (.int .i64 Y.turn) (.int .i64 Y.next) (.int .i64 Y.wide) (.int .i64 Y.high) (.slice a1 Y.gs.length h1) (.slice a2 Y.os.length h2) (.slice a3 Y.gold.length h3) (.slice a4 Y.us.length h4) (.slice a5 Y.qs.length h5)) := hx
    clear hx ht
    by_cases hqn : q = Y.us.length
    · have FIN : Hid ((br ks Wn Hn Y Y.us.length).1 = Z ∧ (br ks Wn Hn Y Y.us.length).2 = es) := by rw [← hqn]; exact HQ.out
      subst hqn
      go_wp2
      go_ret
      refine ⟨_, rfl, ?_⟩
      rw [FIN.out.1, FIN.out.2]
      have h := TQ.out
      exact ⟨h.o1, h.o2, h.o3, h.o4, h.o5, h.e.mono (by have := HZ.out; omega), h.d, (Fr.below BA.out).trans h.fr, h.k, h.f⟩
    · have hql : q < Y.us.length := by omega
      have hqi : ((q : Nat) : Int) < (Y.us.length : Nat) := by omega
      have hzl : q < Z.us.length := by rw [TQ.out.k.2.2.2.2.2.2.2.1]; exact hql
      obtain ⟨u, hu⟩ : ∃ u, Z.us[q]? = some u := ⟨_, List.getElem?_eq_getElem hzl⟩
      obtain ⟨⟨kn, k, hkn, hkk, l1, l2, l3⟩, ⟨an, han, hal⟩, pn, hpn, hpl⟩ := TQ.out.f.units u (List.mem_of_getElem? hu)
      obtain ⟨x, hx⟩ : ∃ x, Z.gold[pn]? = some x := ⟨_, List.getElem?_eq_getElem hpl⟩
      have UU : Hid (Z.us[q]? = some u ∧ u.player = (pn : Nat) ∧ Z.gold[pn]? = some x ∧ u.at_ = (an : Nat) ∧ an < Wn * Hn) := ⟨hu, hpn, hx, han, by rw [TQ.out.k.2.2.2.2.2.1, WH.out.2.2.1.ol] at hal; exact hal⟩
      have OX := TQ.out.f.gold x (List.mem_of_getElem? hx)
      have hali : ((pn : Nat) : Int) < (Y.gold.length : Nat) := by rw [← TQ.out.k.2.2.2.2.2.2.2.2]; omega
      obtain ⟨gu, cu, ur, e4, hgu, c1, c2, c3, hub⟩ : ∃ g cap rest, Value.slice a4 Y.us.length h4 = .slice (some ⟨g, 0, none⟩) Y.us.length cap ∧ b1 ≤ g ∧ Y.us.length ≤ cap ∧ cap ≤ maxLen ∧ Y.us.length * 8 + rest.length = cap * 8 ∧ Ub wr g Z.us rest := by
        rcases TQ.out.o4.ub with ⟨-, h⟩ | ⟨g, cap, rest, h⟩
        · rw [h] at hzl; simp at hzl
        · rw [TQ.out.k.2.2.2.2.2.2.2.1] at h; exact ⟨g, cap, rest, h⟩
      injection e4 with e41 e42 e43
      subst e41 e43
      obtain ⟨gs, co, sr, e2, hgs, d1, d2, d3, hbk⟩ : ∃ g cap rest, Value.slice a3 Y.gold.length h3 = .slice (some ⟨g, 0, none⟩) Y.gold.length cap ∧ b1 ≤ g ∧ Y.gold.length ≤ cap ∧ cap ≤ maxLen ∧ Y.gold.length + rest.size = cap ∧ Bk wr g Z.gold rest := by
        rcases TQ.out.o3.bk with ⟨-, h⟩ | ⟨g, cap, rest, h⟩
        · rw [h] at hpl; simp at hpl
        · rw [TQ.out.k.2.2.2.2.2.2.2.2] at h; exact ⟨g, cap, rest, h⟩
      injection e2 with e21 e22 e23
      subst e21 e23
      have GB : Hid (b1 ≤ gu ∧ Y.us.length ≤ h4 ∧ h4 ≤ maxLen ∧ Y.us.length * 8 + ur.length = h4 * 8 ∧ b1 ≤ gs ∧ Y.gold.length ≤ h3 ∧ h3 ≤ maxLen ∧ Y.gold.length + sr.size = h3) := ⟨hgu, c1, c2, c3, hgs, d1, d2, d3⟩
      have UB : Hid (∀ V, Below wr.heap.size wr V → Ub V gu Z.us ur) := fun V hV => hub.below hV hub.lt
      have BB : Hid (∀ V, Below wr.heap.size wr V → Bk V gs Z.gold sr) := fun V hV => hbk.below hV
      have GL : Hid (gu < z ∧ gs < z ∧ gu ≠ gs) := by
        rw [← HZ.out]
        refine ⟨(L24.out.2 gu rfl).2, (L24.out.1 gs rfl).2, fun e => TQ.out.difs.2.2.1.1 gs rfl (by rw [← e]; rfl)⟩
      have KV' : Hid (∀ V, Below wr.heap.size wr V → Kl V (.slice pk ks.length qk) ks) := fun V hV => by
        have b01 : Below w0.heap.size w0 w1 := KB.out.2.1.trans (BA.out.mono KB.out.2.1.size)
        have b1r : Below w0.heap.size w1 wr := TQ.out.fr.low b01.size (fun k hk => by
          rcases hk with hk | hk
          · have := (L24.out.1 k hk).1; have := KB.out.2.2; omega
          · have := (L24.out.2 k hk).1; have := KB.out.2.2; omega)
        exact KB.out.1.below ((b01.trans b1r).trans (hV.mono (b01.trans b1r).size))
      have SV : Hid (∀ V, Below wr.heap.size wr V → Sd V) := fun V hV => by
        have b01 : Below w0.heap.size w0 w1 := KB.out.2.1.trans (BA.out.mono KB.out.2.1.size)
        have b1r : Below w0.heap.size w1 wr := TQ.out.fr.low b01.size (fun k hk => by
          rcases hk with hk | hk
          · have := (L24.out.1 k hk).1; have := KB.out.2.2; omega
          · have := (L24.out.2 k hk).1; have := KB.out.2.2; omega)
        exact WH.out.2.2.2.below ((b01.trans b1r).trans (hV.mono (b01.trans b1r).size))
      have CV : Hid (∀ V, Below wr.heap.size wr V → Wx V z (.int .i64 Y.turn) (.int .i64 Y.next) (.int .i64 Y.wide) (.int .i64 Y.high) (.slice a1 Y.gs.length h1) (.slice a2 Y.os.length h2) (.slice (some ⟨gs, 0, none⟩) Y.gold.length h3) (.slice (some ⟨gu, 0, none⟩) Y.us.length h4) (.slice a5 Y.qs.length h5) ∧ Unc V ⟨gu, q * 8, none⟩ u) := fun V hV => ⟨XQ.out.below hV XQ.out.lt, (UB.out V hV).unc UU.out.1⟩
      have D5 : Hid (Below wr.heap.size wr { wr with drawn := wr.drawn + 1 }) := (Below.refl _ _).drew
      have xq := XQ.out
      obtain ⟨x0, x1, x2, x3, x4, x5, x6, x7, x8⟩ := xq.cells
      obtain ⟨y0, y1, y2, y3, y4, y5, y6, y7⟩ := (CV.out _ (Below.refl _ _)).2
      clear xq hu hpn hkn hkk han hx hal hzl hgu c1 c2 c3 hgs d1 d2 d3 hub hbk e42 e22 hpl
      go_upto_region 6 with fail
      by_cases hld : 0 < u.load
      case neg =>
        have NX : Hid (br ks Wn Hn Y (q + 1) = (Z, es)) := by
          have h9 := br_no (ks := ks) (Wn := Wn) (Hn := Hn) (Y := Y) (q := q) (u := u) (by rw [HQ.out.1]; exact UU.out.1) (by unfold brings; rw [decide_eq_false hld]; rfl)
          unfold Hid
          rw [h9, ← HQ.out.1, ← HQ.out.2]
        go_quiet (fail)
        have D6 : Hid (Below wr.heap.size wr (wr.drewN nq)) := ⟨rfl, rfl, rfl, Nat.le_refl _, fun _ _ => rfl⟩
        generalize wr.drewN nq = w6 at *
        go_wp2
        go_round
        case rel => exact ⟨q + 1, by omega, by go_num, XQ.out.below D6.out XQ.out.lt, by rw [NX.out]; exact TQ.out.below D6.out⟩
        case measure => simp [intOf]; omega
      clear x0 x1 x2 x3 x4 x5 x6 x7 x8 y0 y1 y2 y3 y4 y5 y6 y7
      refine wp_region_two [(true, 0), (true, 1), (true, 2), (true, 3), (true, 4), (true, 5), (true, 6), (true, 7), (true, 8), (true, 9), (true, 10), (false, 11)] [(false, 12)] (fun V => Wx V z (.int .i64 Y.turn) (.int .i64 Y.next) (.int .i64 Y.wide) (.int .i64 Y.high) (.slice a1 Y.gs.length h1) (.slice a2 Y.os.length h2) (.slice (some ⟨gs, 0, none⟩) Y.gold.length h3) (.slice (some ⟨gu, 0, none⟩) Y.us.length h4) (.slice a5 Y.qs.length h5) ∧ Unc V ⟨gu, q * 8, none⟩ u) (by kernel_rfl) (by kernel_rfl) (by kernel_rfl) (by decide +kernel) (by decide +kernel) (CV.out _ D5.out) ?_
      generalize ({ wr with drawn := wr.drawn + 1 } : World) = w6 at *
      refine headT_read rfl (.pointer (some ⟨gu, q * 8, none⟩)) (by go_simp) (fun V hV => by go_simp) ?_
      go_simp
      refine headT_read rfl (.pointer (some ⟨gu, q * 8, none⟩)) (by go_simp) (fun V hV => by obtain ⟨hX, hU⟩ := hV; obtain ⟨x0, x1, x2, x3, x4, x5, x6, x7, x8⟩ := hX.cells; obtain ⟨y0, y1, y2, y3, y4, y5, y6, y7⟩ := hU; go_simp) ?_
      go_simp
      refine headT_read rfl (.pointer (some ⟨gu, q * 8 + 5, none⟩)) (by go_simp) (fun V hV => by go_simp) ?_
      go_simp
      refine headT_read rfl (.int .i64 u.load) (by go_simp) (fun V hV => by obtain ⟨hX, hU⟩ := hV; obtain ⟨x0, x1, x2, x3, x4, x5, x6, x7, x8⟩ := hX.cells; obtain ⟨y0, y1, y2, y3, y4, y5, y6, y7⟩ := hU; go_simp) ?_
      go_simp
      refine headT_read rfl (.bool true) (by go_simp) (fun V hV => by go_simp) ?_
      go_simp
      refine headT_read rfl (.bool true) (by go_simp) (fun V hV => by go_simp) ?_
      go_simp
      refine headT_read rfl (.slice pk ks.length qk) (by go_simp) (fun V hV => by go_simp) ?_
      go_simp
      refine headT_read rfl (.agg #[.int .i64 Y.turn, .int .i64 Y.next, .int .i64 Y.wide, .int .i64 Y.high, .slice a1 Y.gs.length h1, .slice a2 Y.os.length h2, .slice (some ⟨gs, 0, none⟩) Y.gold.length h3, .slice (some ⟨gu, 0, none⟩) Y.us.length h4, .slice a5 Y.qs.length h5]) (by go_simp) (fun V hV => by obtain ⟨hX, hU⟩ := hV; obtain ⟨x0, x1, x2, x3, x4, x5, x6, x7, x8⟩ := hX.cells; obtain ⟨y0, y1, y2, y3, y4, y5, y6, y7⟩ := hU; go_simp) ?_
      go_simp
      refine headT_read rfl (.pointer (some ⟨gu, q * 8, none⟩)) (by go_simp) (fun V hV => by go_simp) ?_
      go_simp
      refine headT_read rfl (.pointer (some ⟨gu, q * 8, none⟩)) (by go_simp) (fun V hV => by obtain ⟨hX, hU⟩ := hV; obtain ⟨x0, x1, x2, x3, x4, x5, x6, x7, x8⟩ := hX.cells; obtain ⟨y0, y1, y2, y3, y4, y5, y6, y7⟩ := hU; go_simp) ?_
      go_simp
      refine headT_read rfl (.agg #[.int .i64 u.id, .int .i64 u.player, .int .i64 u.kind, .int .i64 u.at_, .int .i64 u.life, .int .i64 u.load, .int .i64 u.task, .int .i64 u.goal]) (by go_simp) (fun V hV => by obtain ⟨hX, hU⟩ := hV; obtain ⟨x0, x1, x2, x3, x4, x5, x6, x7, x8⟩ := hX.cells; obtain ⟨y0, y1, y2, y3, y4, y5, y6, y7⟩ := hU; go_simp) ?_
      go_simp
      refine headT_call rfl 45 #[.slice pk ks.length qk, .agg #[.int .i64 Y.turn, .int .i64 Y.next, .int .i64 Y.wide, .int .i64 Y.high, .slice a1 Y.gs.length h1, .slice a2 Y.os.length h2, .slice (some ⟨gs, 0, none⟩) Y.gold.length h3, .slice (some ⟨gu, 0, none⟩) Y.us.length h4, .slice a5 Y.qs.length h5], .agg #[.int .i64 u.id, .int .i64 u.player, .int .i64 u.kind, .int .i64 u.at_, .int .i64 u.life, .int .i64 u.load, .int .i64 u.task, .int .i64 u.goal]] (by go_simp) (by go_simp) ?_
      have T6 : Hid (BrS ks Y Z es b1 (z + 1) w1 (.slice a1 Y.gs.length h1) (.slice a2 Y.os.length h2) (.slice (some ⟨gs, 0, none⟩) Y.gold.length h3) (.slice (some ⟨gu, 0, none⟩) Y.us.length h4) (.slice a5 Y.qs.length h5) (.slice ea es.length ec) w6) := TQ.out.below D5.out
      refine Calls.mono (ishome_any _ _ ks Z u Wn Hn an w6 (KV'.out _ D5.out) T6.out.wl T6.out.f (by rw [TQ.out.k.2.2.1]; exact WH.out.1) (by rw [TQ.out.k.2.2.2.1]; exact WH.out.2.1) (by rw [TQ.out.k.2.2.2.2.1, TQ.out.k.2.2.2.2.2.1]; exact WH.out.2.2.1) UU.out.2.2.2.1 UU.out.2.2.2.2 (SV.out _ D5.out)) ?_
      rintro e w7 ⟨rfl, b7⟩
      have D7 : Hid (Below wr.heap.size wr w7) := D5.out.trans (b7.mono D5.out.size)
      refine ⟨_, rfl, CV.out _ D7.out, ?_⟩
      have BR : Hid (brings ks Wn Hn Z u = homeB ks Wn Hn an Z u) := by unfold Hid brings; rw [decide_eq_true hld, UU.out.2.2.2.1, Int.toNat_natCast]; rfl
      obtain ⟨hh, hhh⟩ : ∃ b, homeB ks Wn Hn an Z u = b := ⟨_, rfl⟩
      rw [hhh] at BR ⊢
      clear b7 hhh T6
      go_simp
      refine sched_value rfl (.bool hh) w7 (by go_simp) (by go_simp) trivial ?_
      go_simp
      unfold wpSched
      have T7 : Hid (BrS ks Y Z es b1 (z + 1) w1 (.slice a1 Y.gs.length h1) (.slice a2 Y.os.length h2) (.slice (some ⟨gs, 0, none⟩) Y.gold.length h3) (.slice (some ⟨gu, 0, none⟩) Y.us.length h4) (.slice a5 Y.qs.length h5) (.slice ea es.length ec) w7) := TQ.out.below D7.out
      have X7 : Hid (Wx w7 z (.int .i64 Y.turn) (.int .i64 Y.next) (.int .i64 Y.wide) (.int .i64 Y.high) (.slice a1 Y.gs.length h1) (.slice a2 Y.os.length h2) (.slice (some ⟨gs, 0, none⟩) Y.gold.length h3) (.slice (some ⟨gu, 0, none⟩) Y.us.length h4) (.slice a5 Y.qs.length h5)) := XQ.out.below D7.out XQ.out.lt
      cases hh with
      | false =>
        have NX : Hid (br ks Wn Hn Y (q + 1) = (Z, es)) := by
          have h9 := br_no (ks := ks) (Wn := Wn) (Hn := Hn) (Y := Y) (q := q) (u := u) (by rw [HQ.out.1]; exact UU.out.1) (by rw [HQ.out.1]; exact BR.out)
          unfold Hid
          rw [h9, ← HQ.out.1, ← HQ.out.2]
        go_wp2
        go_round
        case rel => exact ⟨q + 1, by omega, by go_num, X7.out, by rw [NX.out]; exact T7.out⟩
        case measure => simp [intOf]; omega
      | true =>
        have NX : Hid (br ks Wn Hn Y (q + 1) = (bringW Z q u, es ++ [⟨5, u.id, u.load⟩])) := by
          have h9 := br_yes (ks := ks) (Wn := Wn) (Hn := Hn) (Y := Y) (q := q) (u := u) (by rw [HQ.out.1]; exact UU.out.1) (by rw [HQ.out.1]; exact BR.out)
          unfold Hid
          rw [h9, HQ.out.1, HQ.out.2]
        obtain ⟨mg, hmg⟩ : ∃ m, min (x + u.load) 1000000 = m := ⟨_, rfl⟩
        have HM : Hid (min (x + u.load) 1000000 = mg) := hmg
        have wr1 : IntKind.i64.wrap (x + u.load) = x + u.load := by rw [IntKind.wrap_i64]; omega
        have C7 : Hid (∀ V, Below w7.heap.size w7 V → Wx V z (.int .i64 Y.turn) (.int .i64 Y.next) (.int .i64 Y.wide) (.int .i64 Y.high) (.slice a1 Y.gs.length h1) (.slice a2 Y.os.length h2) (.slice (some ⟨gs, 0, none⟩) Y.gold.length h3) (.slice (some ⟨gu, 0, none⟩) Y.us.length h4) (.slice a5 Y.qs.length h5) ∧ Unc V ⟨gu, q * 8, none⟩ u ∧ V.cell? ⟨gs, pn, none⟩ = some (.int .i64 x)) := fun V hV => ⟨X7.out.below hV X7.out.lt, (UB.out V (D7.out.trans (hV.mono D7.out.size))).unc UU.out.1, (BB.out V (D7.out.trans (hV.mono D7.out.size))).cell UU.out.2.2.1⟩
        have D8 : Hid (Below w7.heap.size w7 { w7 with drawn := w7.drawn + 1 }) := (Below.refl _ _).drew
        clear hmg
        go_upto_region 7 with fail
        refine wp_region_two [(true, 0), (true, 1), (true, 2), (true, 3), (true, 4), (true, 5), (true, 6), (true, 7), (true, 8), (true, 9), (true, 10), (true, 11), (true, 12), (true, 13), (true, 14), (true, 15), (true, 16), (true, 17), (true, 18), (true, 19), (true, 20)] [(false, 21)] (fun V => Wx V z (.int .i64 Y.turn) (.int .i64 Y.next) (.int .i64 Y.wide) (.int .i64 Y.high) (.slice a1 Y.gs.length h1) (.slice a2 Y.os.length h2) (.slice (some ⟨gs, 0, none⟩) Y.gold.length h3) (.slice (some ⟨gu, 0, none⟩) Y.us.length h4) (.slice a5 Y.qs.length h5) ∧ Unc V ⟨gu, q * 8, none⟩ u ∧ V.cell? ⟨gs, pn, none⟩ = some (.int .i64 x)) (by kernel_rfl) (by kernel_rfl) (by kernel_rfl) (by decide +kernel) (by decide +kernel) (C7.out _ D8.out) ?_
        generalize ({ w7 with drawn := w7.drawn + 1 } : World) = w8 at *
        refine headT_read rfl (.pointer (some ⟨z, 6, none⟩)) (by go_simp) (fun V hV => by go_simp) ?_
        go_simp
        refine headT_read rfl (.slice (some ⟨gs, 0, none⟩) Y.gold.length h3) (by go_simp) (fun V hV => by obtain ⟨hX, hU, hG⟩ := hV; obtain ⟨x0, x1, x2, x3, x4, x5, x6, x7, x8⟩ := hX.cells; obtain ⟨y0, y1, y2, y3, y4, y5, y6, y7⟩ := hU; rw [UU.out.2.1] at y1; go_simp) ?_
        go_simp
        refine headT_read rfl (.pointer (some ⟨gu, q * 8, none⟩)) (by go_simp) (fun V hV => by go_simp) ?_
        go_simp
        refine headT_read rfl (.pointer (some ⟨gu, q * 8, none⟩)) (by go_simp) (fun V hV => by obtain ⟨hX, hU, hG⟩ := hV; obtain ⟨x0, x1, x2, x3, x4, x5, x6, x7, x8⟩ := hX.cells; obtain ⟨y0, y1, y2, y3, y4, y5, y6, y7⟩ := hU; rw [UU.out.2.1] at y1; go_simp) ?_
        go_simp
        refine headT_read rfl (.pointer (some ⟨gu, q * 8 + 1, none⟩)) (by go_simp) (fun V hV => by go_simp) ?_
        go_simp
        refine headT_read rfl (.int .i64 (pn : Nat)) (by go_simp) (fun V hV => by obtain ⟨hX, hU, hG⟩ := hV; obtain ⟨x0, x1, x2, x3, x4, x5, x6, x7, x8⟩ := hX.cells; obtain ⟨y0, y1, y2, y3, y4, y5, y6, y7⟩ := hU; rw [UU.out.2.1] at y1; go_simp) ?_
        go_simp
        refine headT_read rfl (.pointer (some ⟨z, 6, none⟩)) (by go_simp) (fun V hV => by go_simp) ?_
        go_simp
        refine headT_read rfl (.slice (some ⟨gs, 0, none⟩) Y.gold.length h3) (by go_simp) (fun V hV => by obtain ⟨hX, hU, hG⟩ := hV; obtain ⟨x0, x1, x2, x3, x4, x5, x6, x7, x8⟩ := hX.cells; obtain ⟨y0, y1, y2, y3, y4, y5, y6, y7⟩ := hU; rw [UU.out.2.1] at y1; go_simp) ?_
        go_simp
        refine headT_read rfl (.pointer (some ⟨gu, q * 8, none⟩)) (by go_simp) (fun V hV => by go_simp) ?_
        go_simp
        refine headT_read rfl (.pointer (some ⟨gu, q * 8, none⟩)) (by go_simp) (fun V hV => by obtain ⟨hX, hU, hG⟩ := hV; obtain ⟨x0, x1, x2, x3, x4, x5, x6, x7, x8⟩ := hX.cells; obtain ⟨y0, y1, y2, y3, y4, y5, y6, y7⟩ := hU; rw [UU.out.2.1] at y1; go_simp) ?_
        go_simp
        refine headT_read rfl (.pointer (some ⟨gu, q * 8 + 1, none⟩)) (by go_simp) (fun V hV => by go_simp) ?_
        go_simp
        refine headT_read rfl (.int .i64 (pn : Nat)) (by go_simp) (fun V hV => by obtain ⟨hX, hU, hG⟩ := hV; obtain ⟨x0, x1, x2, x3, x4, x5, x6, x7, x8⟩ := hX.cells; obtain ⟨y0, y1, y2, y3, y4, y5, y6, y7⟩ := hU; rw [UU.out.2.1] at y1; go_simp) ?_
        go_simp
        refine headT_read rfl (.pointer (some ⟨gs, pn, none⟩)) (by go_simp) (fun V hV => by go_simp) ?_
        go_simp
        refine headT_read rfl (.int .i64 x) (by go_simp) (fun V hV => by obtain ⟨hX, hU, hG⟩ := hV; obtain ⟨x0, x1, x2, x3, x4, x5, x6, x7, x8⟩ := hX.cells; obtain ⟨y0, y1, y2, y3, y4, y5, y6, y7⟩ := hU; rw [UU.out.2.1] at y1; go_simp) ?_
        go_simp
        refine headT_read rfl (.pointer (some ⟨gu, q * 8, none⟩)) (by go_simp) (fun V hV => by go_simp) ?_
        go_simp
        refine headT_read rfl (.pointer (some ⟨gu, q * 8, none⟩)) (by go_simp) (fun V hV => by obtain ⟨hX, hU, hG⟩ := hV; obtain ⟨x0, x1, x2, x3, x4, x5, x6, x7, x8⟩ := hX.cells; obtain ⟨y0, y1, y2, y3, y4, y5, y6, y7⟩ := hU; rw [UU.out.2.1] at y1; go_simp) ?_
        go_simp
        refine headT_read rfl (.pointer (some ⟨gu, q * 8 + 5, none⟩)) (by go_simp) (fun V hV => by go_simp) ?_
        go_simp
        refine headT_read rfl (.int .i64 u.load) (by go_simp) (fun V hV => by obtain ⟨hX, hU, hG⟩ := hV; obtain ⟨x0, x1, x2, x3, x4, x5, x6, x7, x8⟩ := hX.cells; obtain ⟨y0, y1, y2, y3, y4, y5, y6, y7⟩ := hU; rw [UU.out.2.1] at y1; go_simp) ?_
        go_simp
        refine headT_read rfl (.int .i64 (x + u.load)) (by go_simp) (fun V hV => by go_simp) ?_
        go_simp
        refine headT_read rfl (.int .i64 mg) (by go_simp) (fun V hV => by have h9 := HM.out; first | (go_simp; done) | (go_simp; rw [h9]) | (simp [h9]; go_simp)) ?_
        go_simp
        refine headT_read rfl (.pointer (some ⟨gs, pn, none⟩)) (by go_simp) (fun V hV => by go_simp) ?_
        go_simp
        unfold wpHeadT
        have D78 : Hid (Below wr.heap.size wr w8) := D7.out.trans (D8.out.mono D7.out.size)
        have X8 : Hid (Wx w8 z (.int .i64 Y.turn) (.int .i64 Y.next) (.int .i64 Y.wide) (.int .i64 Y.high) (.slice a1 Y.gs.length h1) (.slice a2 Y.os.length h2) (.slice (some ⟨gs, 0, none⟩) Y.gold.length h3) (.slice (some ⟨gu, 0, none⟩) Y.us.length h4) (.slice a5 Y.qs.length h5)) := XQ.out.below D78.out XQ.out.lt
        have T8 : Hid (BrS ks Y Z es b1 (z + 1) w1 (.slice a1 Y.gs.length h1) (.slice a2 Y.os.length h2) (.slice (some ⟨gs, 0, none⟩) Y.gold.length h3) (.slice (some ⟨gu, 0, none⟩) Y.us.length h4) (.slice a5 Y.qs.length h5) (.slice ea es.length ec) w8) := TQ.out.below D78.out
        have B8 : Hid (Bk w8 gs Z.gold sr) := BB.out _ D78.out
        have U8 : Hid (Ub w8 gu Z.us ur) := UB.out _ D78.out
        have tz := B8.out.thaw pn
        have cz := B8.out.cell UU.out.2.2.1
        refine sched_skip rfl (w8.setCell ⟨gs, pn, none⟩ (.int .i64 mg)) (by go_simp) (by go_simp) trivial ?_
        go_simp
        unfold wpSched
        have K9 : Hid (Kp gs w8 (w8.setCell ⟨gs, pn, none⟩ (.int .i64 mg))) := Kp.set _ _ _
        have B9 : Hid (Bk (w8.setCell ⟨gs, pn, none⟩ (.int .i64 mg)) gs (Z.gold.set pn mg) sr) := B8.out.set pn _ (List.getElem?_eq_some_iff.1 UU.out.2.2.1).1
        clear tz cz C7 wr1
        generalize (w8.setCell ⟨gs, pn, none⟩ (.int .i64 mg)) = w9 at *
        have F9 : Hid (Fr (fun q => q = gs) w8 w9) := Fr.kp K9.out rfl
        have X9 : Hid (Wx w9 z (.int .i64 Y.turn) (.int .i64 Y.next) (.int .i64 Y.wide) (.int .i64 Y.high) (.slice a1 Y.gs.length h1) (.slice a2 Y.os.length h2) (.slice (some ⟨gs, 0, none⟩) Y.gold.length h3) (.slice (some ⟨gu, 0, none⟩) Y.us.length h4) (.slice a5 Y.qs.length h5)) := F9.out.wx X8.out (by have := GL.out.2.1; omega)
        have U9 : Hid (Ub w9 gu Z.us ur) := (F9.out.block gu U8.out.lt (by have := GL.out.2.2; omega)).trans U8.out
        have E9 : Hid (Evo w9 (z + 1) (.slice ea es.length ec) es) := F9.out.own T8.out.e (fun b hb e => by have h9 := (T8.out.e.block b hb).1; have h8 := GL.out; omega)
        clear K9 X8 U8 B8
        go_upto_region 8 with fail
        have DE : Hid (Below w9.heap.size w9 { w9 with drawn := w9.drawn + 1 }) := (Below.refl _ _).drew
        have CE : Hid (∀ V, Below w9.heap.size w9 V → Unc V ⟨gu, q * 8, none⟩ u) := fun V hV => (U9.out.below hV U9.out.lt).unc UU.out.1
        refine wp_region_two [(true, 0), (true, 1), (true, 2), (true, 3), (true, 4), (true, 5), (true, 6), (true, 7), (true, 8), (true, 9), (false, 10), (false, 11)] [(false, 12)] (fun V => Unc V ⟨gu, q * 8, none⟩ u) (by kernel_rfl) (by kernel_rfl) (by kernel_rfl) (by decide +kernel) (by decide +kernel) (CE.out _ DE.out) ?_
        generalize ({ w9 with drawn := w9.drawn + 1 } : World) = wa at *
        refine headT_read rfl (.slice ea es.length ec) (by go_simp) (fun V hV => by go_simp) ?_
        go_simp
        refine headT_read rfl (.pointer (some ⟨gu, q * 8, none⟩)) (by go_simp) (fun V hV => by go_simp) ?_
        go_simp
        refine headT_read rfl (.pointer (some ⟨gu, q * 8, none⟩)) (by go_simp) (fun V hV => by obtain ⟨y0, y1, y2, y3, y4, y5, y6, y7⟩ := hV; go_simp) ?_
        go_simp
        refine headT_read rfl (.pointer (some ⟨gu, q * 8, none⟩)) (by go_simp) (fun V hV => by go_simp) ?_
        go_simp
        refine headT_read rfl (.int .i64 u.id) (by go_simp) (fun V hV => by obtain ⟨y0, y1, y2, y3, y4, y5, y6, y7⟩ := hV; go_simp) ?_
        go_simp
        refine headT_read rfl (.pointer (some ⟨gu, q * 8, none⟩)) (by go_simp) (fun V hV => by go_simp) ?_
        go_simp
        refine headT_read rfl (.pointer (some ⟨gu, q * 8, none⟩)) (by go_simp) (fun V hV => by obtain ⟨y0, y1, y2, y3, y4, y5, y6, y7⟩ := hV; go_simp) ?_
        go_simp
        refine headT_read rfl (.pointer (some ⟨gu, q * 8 + 5, none⟩)) (by go_simp) (fun V hV => by go_simp) ?_
        go_simp
        refine headT_read rfl (.int .i64 u.load) (by go_simp) (fun V hV => by obtain ⟨y0, y1, y2, y3, y4, y5, y6, y7⟩ := hV; go_simp) ?_
        go_simp
        refine headT_read rfl (.agg #[.int .i64 5, .int .i64 u.id, .int .i64 u.load]) (by go_simp) (fun V hV => by go_simp) ?_
        go_simp
        have BA : Hid (Below wa.heap.size wa (wa.alloc (Obj.cells #[.int .i64 5, .int .i64 u.id, .int .i64 u.load] 41))) := (Below.refl _ _).alloc (Nat.le_refl _) _
        have BAA : Hid (Below w9.heap.size w9 (wa.alloc (Obj.cells #[.int .i64 5, .int .i64 u.id, .int .i64 u.load] 41))) := DE.out.trans (BA.out.mono DE.out.size)
        have RC : Hid (Evc (wa.alloc (Obj.cells #[.int .i64 5, .int .i64 u.id, .int .i64 u.load] 41)) ⟨wa.heap.size, 0, none⟩ ⟨5, u.id, u.load⟩) := Evc.mk' (w := wa) ⟨5, u.id, u.load⟩ rfl
        refine headT_value rfl (.slice (some ⟨wa.heap.size, 0, none⟩) 1 1) (wa.alloc (Obj.cells #[.int .i64 5, .int .i64 u.id, .int .i64 u.load] 41)) (by go_simp) (by go_simp) (CE.out _ BAA.out) ?_
        go_simp
        generalize wa.alloc (Obj.cells #[.int .i64 5, .int .i64 u.id, .int .i64 u.load] 41) = wb at *
        have EB : Hid (Evo wb (z + 1) (.slice ea es.length ec) es) := E9.out.below BAA.out
        have SB : Hid (z + 1 ≤ wb.heap.size) := Nat.le_trans X9.out.lt BAA.out.size
        obtain ⟨gg, gc, wE, hr, ho8, hg8, -, -⟩ := run_ev wb 34 (z + 1) _ es EB.out _ _ RC.out (by have := EL.out; omega) SB.out
        have EO : Hid (Evo wE (z + 1) (.slice (some ⟨gg, 0, none⟩) (es.length + 1) gc) (es ++ [⟨5, u.id, u.load⟩])) := ho8
        have FE : Hid (Fr (fun q => (.slice ea es.length ec : Value).ownBlock = some q) w9 wE) := (Fr.below BAA.out).trans (Fr.gb hg8 (fun k hk => hk))
        have NE : Hid (∀ k, k ≤ z → ¬ (.slice ea es.length ec : Value).ownBlock = some k) := fun k hk e => by have := (E9.out.block k e).1; omega
        have UE : Hid (Ub wE gu Z.us ur) := (FE.out.block gu U9.out.lt (NE.out gu (by have := GL.out.1; omega))).trans U9.out
        have BK : Hid (Bk wE gs (Z.gold.set pn mg) sr) := (FE.out.block gs B9.out.lt (NE.out gs (by have := GL.out.2.1; omega))).trans B9.out
        have XE : Hid (Wx wE z (.int .i64 Y.turn) (.int .i64 Y.next) (.int .i64 Y.wide) (.int .i64 Y.high) (.slice a1 Y.gs.length h1) (.slice a2 Y.os.length h2) (.slice (some ⟨gs, 0, none⟩) Y.gold.length h3) (.slice (some ⟨gu, 0, none⟩) Y.us.length h4) (.slice a5 Y.qs.length h5)) := FE.out.wx X9.out (NE.out z (Nat.le_refl _))
        refine headT_value rfl (.slice (some ⟨gg, 0, none⟩) (es.length + 1) gc) wE (by go_simp) (exec_append _ _ _ _ rfl _ _ (by go_simp) (by go_simp) hr) (UE.out.unc UU.out.1) ?_
        clear hr ho8 hg8
        go_simp
        unfold wpHeadT
        refine sched_value rfl (.slice (some ⟨gg, 0, none⟩) (es.length + 1) gc) wE (by go_simp) (by go_simp) trivial ?_
        go_simp
        unfold wpSched
        obtain ⟨y0, y1, y2, y3, y4, y5, y6, y7⟩ := UE.out.unc UU.out.1
        have t5 := UE.out.thaw (q * 8 + 5)
        have UF : Hid (Ub (wE.setCell ⟨gu, q * 8 + 5, none⟩ (.int .i64 0)) gu (Z.us.set q (loadU u 0)) ur) := UE.out.set5 UU.out.1 0
        have KF : Hid (Kp gu wE (wE.setCell ⟨gu, q * 8 + 5, none⟩ (.int .i64 0))) := Kp.set _ _ _
        have BF : Hid (Bk (wE.setCell ⟨gu, q * 8 + 5, none⟩ (.int .i64 0)) gs (Z.gold.set pn mg) sr) := BK.out.other (by have := GL.out.2.2; omega) _ _
        go_upto_region 10 with fail
        clear y0 y1 y2 y3 y4 y5 y6 y7 t5
        generalize wE.setCell ⟨gu, q * 8 + 5, none⟩ (.int .i64 0) = wF at *
        have FF : Hid (Fr (fun q => q = gu) wE wF) := Fr.kp KF.out rfl
        have XF : Hid (Wx wF z (.int .i64 Y.turn) (.int .i64 Y.next) (.int .i64 Y.wide) (.int .i64 Y.high) (.slice a1 Y.gs.length h1) (.slice a2 Y.os.length h2) (.slice (some ⟨gs, 0, none⟩) Y.gold.length h3) (.slice (some ⟨gu, 0, none⟩) Y.us.length h4) (.slice a5 Y.qs.length h5)) := FF.out.wx XE.out (by have := GL.out.1; omega)
        have EF : Hid (Evo wF (z + 1) (.slice (some ⟨gg, 0, none⟩) (es.length + 1) gc) (es ++ [⟨5, u.id, u.load⟩])) := FF.out.own EO.out (fun b hb e => by have h9 := (EO.out.block b hb).1; have h8 := GL.out; omega)
        have FA : Hid (Fr (fun q => q = gu ∨ q = gs ∨ (.slice ea es.length ec : Value).ownBlock = some q) w8 wF) := ((F9.out.mono (fun k hk => .inr (.inl hk))).trans (FE.out.mono (fun k hk => .inr (.inr hk)))).trans (FF.out.mono (fun k hk => .inl hk))
        have EW : Hid ((bringW Z q u).gold = Z.gold.set pn mg) := by
          unfold Hid bringW
          simp only [UU.out.2.1, Int.toNat_natCast, List.getD_eq_getElem?_getD, UU.out.2.2.1, Option.getD_some, HM.out]
        have TE : Hid (BrS ks Y (bringW Z q u) (es ++ [⟨5, u.id, u.load⟩]) b1 (z + 1) w1 (.slice a1 Y.gs.length h1) (.slice a2 Y.os.length h2) (.slice (some ⟨gs, 0, none⟩) Y.gold.length h3) (.slice (some ⟨gu, 0, none⟩) Y.us.length h4) (.slice a5 Y.qs.length h5) (.slice (some ⟨gg, 0, none⟩) (es.length + 1) gc) wF) :=
          T8.out.bring (V' := wF) (i := q) (u := u) (ur := ur) (gr := sr) (ev' := .slice (some ⟨gg, 0, none⟩) (es.length + 1) gc) S1.out (fun y hy k hk => by have := LW.out y hy k hk; have := HZ.out; omega) GB.out.1 GB.out.2.1 GB.out.2.2.1 GB.out.2.2.2.1 GB.out.2.2.2.2.1 GB.out.2.2.2.2.2.1 GB.out.2.2.2.2.2.2.1 GB.out.2.2.2.2.2.2.2 UU.out.1 UF.out (by rw [EW.out]; exact BF.out) EF.out FA.out
        go_wp2
        go_round
        case rel => exact ⟨q + 1, by omega, by go_num, XF.out, by rw [NX.out]; exact TE.out⟩
        case measure => simp [intOf]; omega
end Go.Proofs.YtolmfekefjnggaaDoor

namespace Go.Proofs.YtolmfekefjnggaaDoor
open Go.RowKit
set_option linter.unusedVariables false

theorem len_ev (ks : List EvV) : (ks.flatMap EvV.cs).length = ks.length * 3 := by
  induction ks with
  | nil => rfl
  | cons x l ih => rw [List.flatMap_cons, List.length_append, ih, List.length_cons, Nat.succ_mul, Nat.add_comm]; rfl
theorem cell_ev {w : World} {y : Addr} {ks : List EvV} (hc : ∀ (i : Nat) k, ks[i]? = some k → Evc w (y.add (i * 3)) k) (j : Nat) (u : Value) (hj : (ks.flatMap EvV.cs)[j]? = some u) : w.cell? (y.add j) = some u := by
  have hjl : j < ks.length * 3 := by rw [← len_ev]; exact (List.getElem?_eq_some_iff.1 hj).1
  obtain ⟨i, r, hr, rfl⟩ : ∃ i r, r < 3 ∧ j = i * 3 + r := ⟨j / 3, j % 3, Nat.mod_lt _ (by decide), by omega⟩
  have hi : i < ks.length := by omega
  obtain ⟨k, hk⟩ : ∃ k, ks[i]? = some k := ⟨_, List.getElem?_eq_getElem hi⟩
  rw [flat_ev ks i r k hk hr] at hj
  have h := hc i k hk
  rcases Nat.eq_zero_or_pos r with rfl | hr0
  · simp [EvV.cs] at hj
    subst hj
    exact h.c0
  · have ea : y.add (i * 3 + r) = ⟨(y.add (i * 3)).block, (y.add (i * 3)).off + r, none⟩ := by
      unfold Addr.add
      rw [if_neg (by omega)]
      split <;> simp <;> omega
    rw [ea]
    match r, hr, hr0, hj with
    | 1, _, _, hj => simp [EvV.cs] at hj; subst hj; exact h.c1
    | 2, _, _, hj => simp [EvV.cs] at hj; subst hj; exact h.c2
theorem run_evs (w : World) (ty : TypeId) (base : Nat) (v : Value) (ks : List EvV) (hown : Evo w base v ks) (u : Value) (ys : List EvV) (hu : Evl w u ys) (hl : ks.length + ys.length ≤ 1000000) (hbase : base ≤ w.heap.size) :
    ∃ v' w', (Builtin.append_ #[34, 34] ty #[v, u]).run Tryd.prog w = .ok v' w' ∧ Evo w' base v' (ks ++ ys) ∧ w.grownBy w' v.ownBlock := by
  obtain ⟨i0, hi, hz0, hz1, hz2⟩ := info_parts info_ev
  obtain ⟨ad, c, rfl, h1, h2, h3⟩ := hu
  by_cases hn : ys = []
  · subst hn
    exact ⟨v, w, run_append_no (P := Tryd.prog) (w := w) base 34 ty 41 i0 3 Tryd.underlying34 hi v ks.length _ hown ad c, by simpa using hown, World.grownBy.refl _ _⟩
  · obtain ⟨y, rfl, hy, hc⟩ := h3 hn
    obtain ⟨g, cap, w6, hr, ho6, hg6, -, -⟩ := run_append_lies (P := Tryd.prog) w 34 34 base 41 i0 _ 3 24 Tryd.underlying34 hi hz0 hz1 hz2 rfl (by decide) v ks.length _ hown y ys.length c (ys.flatMap EvV.cs) (len_ev ys) (cell_ev hc) (fun u hu => by
      obtain ⟨k, -, hk⟩ := List.mem_flatMap.1 hu
      simp [EvV.cs] at hk
      rcases hk with rfl | rfl | rfl <;> rfl) (List.length_pos_iff.2 hn) (by unfold maxLen; omega) (by omega) hbase _ rfl
    refine ⟨_, w6, hr, ?_, hg6⟩
    unfold Evo
    rw [List.length_append, List.flatMap_append]
    exact ho6
end Go.Proofs.YtolmfekefjnggaaDoor

namespace Go.Proofs.YtolmfekefjnggaaDoor
open Go.RowKit
set_option linter.unusedVariables false

theorem len_jb (ks : List JbV) : (ks.flatMap JbV.cs).length = ks.length * 4 := by
  induction ks with
  | nil => rfl
  | cons x l ih => rw [List.flatMap_cons, List.length_append, ih, List.length_cons, Nat.succ_mul, Nat.add_comm]; rfl
theorem cell_jb {w : World} {y : Addr} {ks : List JbV} (hc : ∀ (i : Nat) k, ks[i]? = some k → Jbc w (y.add (i * 4)) k) (j : Nat) (u : Value) (hj : (ks.flatMap JbV.cs)[j]? = some u) : w.cell? (y.add j) = some u := by
  have hjl : j < ks.length * 4 := by rw [← len_jb]; exact (List.getElem?_eq_some_iff.1 hj).1
  obtain ⟨i, r, hr, rfl⟩ : ∃ i r, r < 4 ∧ j = i * 4 + r := ⟨j / 4, j % 4, Nat.mod_lt _ (by decide), by omega⟩
  have hi : i < ks.length := by omega
  obtain ⟨k, hk⟩ : ∃ k, ks[i]? = some k := ⟨_, List.getElem?_eq_getElem hi⟩
  rw [flat_jb ks i r k hk hr] at hj
  have h := hc i k hk
  rcases Nat.eq_zero_or_pos r with rfl | hr0
  · simp [JbV.cs] at hj
    subst hj
    exact h.c0
  · have ea : y.add (i * 4 + r) = ⟨(y.add (i * 4)).block, (y.add (i * 4)).off + r, none⟩ := by
      unfold Addr.add
      rw [if_neg (by omega)]
      split <;> simp <;> omega
    rw [ea]
    match r, hr, hr0, hj with
    | 1, _, _, hj => simp [JbV.cs] at hj; subst hj; exact h.c1
    | 2, _, _, hj => simp [JbV.cs] at hj; subst hj; exact h.c2
    | 3, _, _, hj => simp [JbV.cs] at hj; subst hj; exact h.c3

theorem app_jbs {ops : Array Oper} {rest : List Oper} {o : Oper} {a : Act} {Q : Exit → Act → World → Prop} (w : World) (hgd : o.guard = none) (s x : Operand)
    (ho : o.op = .call { callee := .builtin .append, args := #[s, x], argTypes := #[27, 27] }) (base : Nat) (v : Value) (ks : List JbV) (hs : a.eval s = v) (hown : Jbo w base v ks)
    (u : Value) (ys : List JbV) (hx : a.eval x = u) (hu : Jbl w u ys) (hl : ks.length + ys.length ≤ 100000000) (hbase : base ≤ w.heap.size)
    (h : ∀ v' w', Jbo w' base v' (ks ++ ys) → w.grownBy w' v.ownBlock → (v'.ownBlock = v.ownBlock ∨ v'.ownBlock = some w.heap.size) → wpList Tryd.prog ops Q rest (a.put o.dst v') w') :
    wpList Tryd.prog ops Q (o :: rest) a w := by
  obtain ⟨i0, hi, hz0, hz1, hz2⟩ := info_parts info_jb
  obtain ⟨ad, c, rfl, h1, h2, h3⟩ := hu
  by_cases hn : ys = []
  · subst hn
    refine wpList_plain hgd fun K hK => ?_
    have hrun := run_append_no (P := Tryd.prog) (w := w) base 27 o.type 63 i0 4 Tryd.underlying27 hi v ks.length _ hown ad c
    have hx' : a.eval x = .slice ad 0 c := hx
    unfold Oper.wp
    simp [execOp, ho, resolve, invoke, builtin, hs, hx', hrun, Result.andThen]
    exact hK _ _ (h v w (by simpa using hown) (World.grownBy.refl _ _) (.inl rfl))
  · obtain ⟨y, rfl, hy, hc⟩ := h3 hn
    refine wpList_append_lies w hgd s x 27 ho base 63 i0 _ 4 32 Tryd.underlying27 hi hz0 hz1 hz2 rfl (by decide) v ks.length _ hs hown y ys.length c (ys.flatMap JbV.cs) hx (len_jb ys) (cell_jb hc) ?_ (List.length_pos_iff.2 hn) (by unfold maxLen; omega) (by omega) hbase _ rfl ?_
    · intro u hu
      obtain ⟨k, -, hk⟩ := List.mem_flatMap.1 hu
      simp [JbV.cs] at hk
      rcases hk with rfl | rfl | rfl | rfl <;> rfl
    · intro g cap w' k1 k2 k3 _
      refine h _ w' ?_ k2 ?_
      · unfold Jbo
        rw [List.length_append, List.flatMap_append]
        exact k1
      · rcases k3 with k3 | k3
        · exact .inl k3.symm
        · exact .inr (by rw [k3]; rfl)
end Go.Proofs.YtolmfekefjnggaaDoor

namespace Go.Proofs.YtolmfekefjnggaaDoor
open Go.RowKit
set_option linter.unusedVariables false

set_option maxHeartbeats 1000000 in
theorem fresh_ints (v : Value) (xs : List Int) (w : World) (h : Ro w v xs) (hl : xs.length ≤ 100000000) :
    Calls Tryd.prog 41 #[v] w fun e w' => ∃ u, e = .returned u ∧ Ow w' w.heap.size u xs ∧ Below w.heap.size w w' := by
  have H : Hid (Ro w v xs) := h
  clear h
  go_enter Tryd.func41, Tryd.ntmps41
  go_wp2_with (at_builtin; refine app_row _ rfl _ _ rfl w.heap.size _ [] rfl (Ow.nil _ _) _ xs rfl H.out (by simpa using Nat.le_trans hl (by decide)) (Nat.le_refl _) ?_)
  intro u w1 o1 g1 _
  have F : Hid (Ow w1 w.heap.size u xs ∧ Below w.heap.size w w1) := ⟨o1, (Below.refl _ _).grown g1 (Nat.le_refl _) (fun k hk => by cases hk)⟩
  clear o1 g1
  go_wp2
  go_ret
  exact ⟨_, rfl, F.out.1, F.out.2⟩
set_option maxHeartbeats 1000000 in
theorem fresh_uns (v : Value) (xs : List UnV) (w : World) (h : Unl w v xs) (hl : xs.length ≤ 100000000) :
    Calls Tryd.prog 42 #[v] w fun e w' => ∃ u, e = .returned u ∧ Uno w' w.heap.size u xs ∧ Below w.heap.size w w' := by
  have H : Hid (Unl w v xs) := h
  clear h
  go_enter Tryd.func42, Tryd.ntmps42
  go_wp2_with (at_builtin; refine app_uns _ rfl _ _ rfl w.heap.size _ [] rfl (Uno.nil _ _) _ xs rfl H.out (by simpa using Nat.le_trans hl (by decide)) (Nat.le_refl _) ?_)
  intro u w1 o1 g1 _
  have F : Hid (Uno w1 w.heap.size u xs ∧ Below w.heap.size w w1) := ⟨o1, (Below.refl _ _).grown g1 (Nat.le_refl _) (fun k hk => by cases hk)⟩
  clear o1 g1
  go_wp2
  go_ret
  exact ⟨_, rfl, F.out.1, F.out.2⟩
set_option maxHeartbeats 1000000 in
theorem fresh_jbs (v : Value) (xs : List JbV) (w : World) (h : Jbl w v xs) (hl : xs.length ≤ 100000000) :
    Calls Tryd.prog 43 #[v] w fun e w' => ∃ u, e = .returned u ∧ Jbo w' w.heap.size u xs ∧ Below w.heap.size w w' := by
  have H : Hid (Jbl w v xs) := h
  clear h
  go_enter Tryd.func43, Tryd.ntmps43
  go_wp2_with (at_builtin; refine app_jbs _ rfl _ _ rfl w.heap.size _ [] rfl (Jbo.nil _ _) _ xs rfl H.out (by simpa using Nat.le_trans hl (by decide)) (Nat.le_refl _) ?_)
  intro u w1 o1 g1 _
  have F : Hid (Jbo w1 w.heap.size u xs ∧ Below w.heap.size w w1) := ⟨o1, (Below.refl _ _).grown g1 (Nat.le_refl _) (fun k hk => by cases hk)⟩
  clear o1 g1
  go_wp2
  go_ret
  exact ⟨_, rfl, F.out.1, F.out.2⟩
set_option maxRecDepth 100000 in
set_option maxHeartbeats 4000000 in
theorem copy_any (v : Value) (W : WV) (w : World) (h : Wl w v W) (hl : WLen W) :
    Calls Tryd.prog 22 #[v] w fun e w' => ∃ u, e = .returned u ∧ Wi w' w.heap.size u W ∧ Below w.heap.size w w' := by
  have H : Hid (Wl w v W) := h
  have L : Hid (WLen W) := hl
  obtain ⟨u1, u2, u3, u4, u5, rfl, -, -, -, -, -⟩ := h
  clear hl
  go_enter Tryd.func22, Tryd.ntmps22
  go_upto_region 1 with fail
  have B0 : Hid (Below w.heap.size w ((w.alloc (.cells #[.int .i64 W.turn, .int .i64 W.next, .int .i64 W.wide, .int .i64 W.high, u1, u2, u3, u4, u5] 29)).alloc (.cells #[.int .i64 0, .int .i64 0, .int .i64 0, .int .i64 0, .slice none 0 0, .slice none 0 0, .slice none 0 0, .slice none 0 0, .slice none 0 0] 29))) := ((Below.refl _ _).alloc (Nat.le_refl _) _).alloc (by simp) _
  have X0 : Hid (Wx ((w.alloc (.cells #[.int .i64 W.turn, .int .i64 W.next, .int .i64 W.wide, .int .i64 W.high, u1, u2, u3, u4, u5] 29)).alloc (.cells #[.int .i64 0, .int .i64 0, .int .i64 0, .int .i64 0, .slice none 0 0, .slice none 0 0, .slice none 0 0, .slice none 0 0, .slice none 0 0] 29)) w.heap.size (.int .i64 W.turn) (.int .i64 W.next) (.int .i64 W.wide) (.int .i64 W.high) u1 u2 u3 u4 u5) := (Wx.new (w := w) _ _ _ _ _ _ _ _ _ rfl).below ((Below.refl _ _).alloc (Nat.le_refl _) _) (by simp)
  have Z0 : Hid (Wx ((w.alloc (.cells #[.int .i64 W.turn, .int .i64 W.next, .int .i64 W.wide, .int .i64 W.high, u1, u2, u3, u4, u5] 29)).alloc (.cells #[.int .i64 0, .int .i64 0, .int .i64 0, .int .i64 0, .slice none 0 0, .slice none 0 0, .slice none 0 0, .slice none 0 0, .slice none 0 0] 29)) (w.heap.size + 1) (.int .i64 0) (.int .i64 0) (.int .i64 0) (.int .i64 0) (.slice none 0 0) (.slice none 0 0) (.slice none 0 0) (.slice none 0 0) (.slice none 0 0)) := Wx.new _ _ _ _ _ _ _ _ _ (by simp)
  have S0 : Hid (w.heap.size + 2 ≤ ((w.alloc (.cells #[.int .i64 W.turn, .int .i64 W.next, .int .i64 W.wide, .int .i64 W.high, u1, u2, u3, u4, u5] 29)).alloc (.cells #[.int .i64 0, .int .i64 0, .int .i64 0, .int .i64 0, .slice none 0 0, .slice none 0 0, .slice none 0 0, .slice none 0 0, .slice none 0 0] 29)).heap.size) := by unfold Hid; simp
  generalize ((w.alloc (.cells #[.int .i64 W.turn, .int .i64 W.next, .int .i64 W.wide, .int .i64 W.high, u1, u2, u3, u4, u5] 29)).alloc (.cells #[.int .i64 0, .int .i64 0, .int .i64 0, .int .i64 0, .slice none 0 0, .slice none 0 0, .slice none 0 0, .slice none 0 0, .slice none 0 0] 29)) = w0 at *
  obtain ⟨x0, x1, x2, x3, x4, x5, x6, x7, x8⟩ := X0.out.cells
  go_wp2_with fail
  refine (fresh_ints _ W.gs w0 ((H.out.below B0.out).slices.1) L.out.g).mono ?_
  rintro e a1 ⟨v1, rfl, ho, hb⟩
  clear x0 x1 x2 x3 x4 x5 x6 x7 x8
  have BA : Hid (Below w.heap.size w a1) := B0.out.trans (hb.mono B0.out.size)
  have SA : Hid (w.heap.size + 2 ≤ a1.heap.size) := Nat.le_trans S0.out hb.size
  have XA : Hid (Wx a1 w.heap.size (.int .i64 W.turn) (.int .i64 W.next) (.int .i64 W.wide) (.int .i64 W.high) u1 u2 u3 u4 u5) := X0.out.below hb X0.out.lt
  have ZA : Hid (Wx a1 (w.heap.size + 1) (.int .i64 0) (.int .i64 0) (.int .i64 0) (.int .i64 0) (.slice none 0 0) (.slice none 0 0) (.slice none 0 0) (.slice none 0 0) (.slice none 0 0)) := Z0.out.below hb Z0.out.lt
  have OA : Hid (Ow a1 (w.heap.size + 2) v1 W.gs) := ho.mono S0.out
  obtain ⟨p1, q1, rfl⟩ := ho.len
  have t := XA.out.thaw 4
  obtain ⟨-, -, -, -, x, -, -, -, -⟩ := XA.out.cells
  clear hb ho 
  go_upto_region 2 with fail
  have KW : Hid (Kp w.heap.size a1 (a1.setCell ⟨w.heap.size, 4, none⟩ (.slice p1 W.gs.length q1))) := Kp.set _ _ _
  have X1 : Hid (Wx (a1.setCell ⟨w.heap.size, 4, none⟩ (.slice p1 W.gs.length q1)) w.heap.size (.int .i64 W.turn) (.int .i64 W.next) (.int .i64 W.wide) (.int .i64 W.high) (.slice p1 W.gs.length q1) u2 u3 u4 u5) := XA.out.set4 _
  clear t x XA X0 Z0
  generalize (a1.setCell ⟨w.heap.size, 4, none⟩ (.slice p1 W.gs.length q1)) = w1 at *
  have B1 : Hid (Below w.heap.size w w1) := KW.out.below BA.out BA.out.size (Nat.le_refl _)
  have S1 : Hid (w.heap.size + 2 ≤ w1.heap.size) := Nat.le_trans SA.out KW.out.size
  have Z1 : Hid (Wx w1 (w.heap.size + 1) (.int .i64 0) (.int .i64 0) (.int .i64 0) (.int .i64 0) (.slice none 0 0) (.slice none 0 0) (.slice none 0 0) (.slice none 0 0) (.slice none 0 0)) := ZA.out.kp KW.out (by omega)
  have P1_1 : Hid (Ow w1 (w.heap.size + 2) (.slice p1 W.gs.length q1) W.gs) := OA.out.kp KW.out (by omega)
  clear BA SA ZA OA KW 
  obtain ⟨x0, x1, x2, x3, x4, x5, x6, x7, x8⟩ := X1.out.cells
  go_wp2_with fail
  refine (fresh_ints _ W.os w1 ((H.out.below B1.out).slices.2.1) L.out.o).mono ?_
  rintro e a2 ⟨v2, rfl, ho, hb⟩
  clear x0 x1 x2 x3 x4 x5 x6 x7 x8
  have BA : Hid (Below w.heap.size w a2) := B1.out.trans (hb.mono B1.out.size)
  have SA : Hid (w.heap.size + 2 ≤ a2.heap.size) := Nat.le_trans S1.out hb.size
  have XA : Hid (Wx a2 w.heap.size (.int .i64 W.turn) (.int .i64 W.next) (.int .i64 W.wide) (.int .i64 W.high) (.slice p1 W.gs.length q1) u2 u3 u4 u5) := X1.out.below hb X1.out.lt
  have ZA : Hid (Wx a2 (w.heap.size + 1) (.int .i64 0) (.int .i64 0) (.int .i64 0) (.int .i64 0) (.slice none 0 0) (.slice none 0 0) (.slice none 0 0) (.slice none 0 0) (.slice none 0 0)) := Z1.out.below hb Z1.out.lt
  have OA : Hid (Ow a2 (w.heap.size + 2) v2 W.os) := ho.mono S1.out
  have PA1 : Hid (Ow a2 (w.heap.size + 2) (.slice p1 W.gs.length q1) W.gs) := P1_1.out.below hb
  have D1_2 : Hid (Dif (.slice p1 W.gs.length q1) v2) := Dif.of (fun k hk => (P1_1.out.block k hk).2) (fun k hk => (ho.block k hk).1)
  obtain ⟨p2, q2, rfl⟩ := ho.len
  have t := XA.out.thaw 5
  obtain ⟨-, -, -, -, -, x, -, -, -⟩ := XA.out.cells
  clear hb ho P1_1
  go_upto_region 3 with fail
  have KW : Hid (Kp w.heap.size a2 (a2.setCell ⟨w.heap.size, 5, none⟩ (.slice p2 W.os.length q2))) := Kp.set _ _ _
  have X2 : Hid (Wx (a2.setCell ⟨w.heap.size, 5, none⟩ (.slice p2 W.os.length q2)) w.heap.size (.int .i64 W.turn) (.int .i64 W.next) (.int .i64 W.wide) (.int .i64 W.high) (.slice p1 W.gs.length q1) (.slice p2 W.os.length q2) u3 u4 u5) := XA.out.set5 _
  clear t x XA X1 Z1
  generalize (a2.setCell ⟨w.heap.size, 5, none⟩ (.slice p2 W.os.length q2)) = w2 at *
  have B2 : Hid (Below w.heap.size w w2) := KW.out.below BA.out BA.out.size (Nat.le_refl _)
  have S2 : Hid (w.heap.size + 2 ≤ w2.heap.size) := Nat.le_trans SA.out KW.out.size
  have Z2 : Hid (Wx w2 (w.heap.size + 1) (.int .i64 0) (.int .i64 0) (.int .i64 0) (.int .i64 0) (.slice none 0 0) (.slice none 0 0) (.slice none 0 0) (.slice none 0 0) (.slice none 0 0)) := ZA.out.kp KW.out (by omega)
  have P2_2 : Hid (Ow w2 (w.heap.size + 2) (.slice p2 W.os.length q2) W.os) := OA.out.kp KW.out (by omega)
  have P1_2 : Hid (Ow w2 (w.heap.size + 2) (.slice p1 W.gs.length q1) W.gs) := PA1.out.kp KW.out (by omega)
  clear BA SA ZA OA KW PA1
  obtain ⟨x0, x1, x2, x3, x4, x5, x6, x7, x8⟩ := X2.out.cells
  go_wp2_with fail
  refine (fresh_ints _ W.gold w2 ((H.out.below B2.out).slices.2.2.1) L.out.p).mono ?_
  rintro e a3 ⟨v3, rfl, ho, hb⟩
  clear x0 x1 x2 x3 x4 x5 x6 x7 x8
  have BA : Hid (Below w.heap.size w a3) := B2.out.trans (hb.mono B2.out.size)
  have SA : Hid (w.heap.size + 2 ≤ a3.heap.size) := Nat.le_trans S2.out hb.size
  have XA : Hid (Wx a3 w.heap.size (.int .i64 W.turn) (.int .i64 W.next) (.int .i64 W.wide) (.int .i64 W.high) (.slice p1 W.gs.length q1) (.slice p2 W.os.length q2) u3 u4 u5) := X2.out.below hb X2.out.lt
  have ZA : Hid (Wx a3 (w.heap.size + 1) (.int .i64 0) (.int .i64 0) (.int .i64 0) (.int .i64 0) (.slice none 0 0) (.slice none 0 0) (.slice none 0 0) (.slice none 0 0) (.slice none 0 0)) := Z2.out.below hb Z2.out.lt
  have OA : Hid (Ow a3 (w.heap.size + 2) v3 W.gold) := ho.mono S2.out
  have PA1 : Hid (Ow a3 (w.heap.size + 2) (.slice p1 W.gs.length q1) W.gs) := P1_2.out.below hb
  have PA2 : Hid (Ow a3 (w.heap.size + 2) (.slice p2 W.os.length q2) W.os) := P2_2.out.below hb
  have D1_3 : Hid (Dif (.slice p1 W.gs.length q1) v3) := Dif.of (fun k hk => (P1_2.out.block k hk).2) (fun k hk => (ho.block k hk).1)
  have D2_3 : Hid (Dif (.slice p2 W.os.length q2) v3) := Dif.of (fun k hk => (P2_2.out.block k hk).2) (fun k hk => (ho.block k hk).1)
  obtain ⟨p3, q3, rfl⟩ := ho.len
  have t := XA.out.thaw 6
  obtain ⟨-, -, -, -, -, -, x, -, -⟩ := XA.out.cells
  clear hb ho P1_2 P2_2
  go_upto_region 4 with fail
  have KW : Hid (Kp w.heap.size a3 (a3.setCell ⟨w.heap.size, 6, none⟩ (.slice p3 W.gold.length q3))) := Kp.set _ _ _
  have X3 : Hid (Wx (a3.setCell ⟨w.heap.size, 6, none⟩ (.slice p3 W.gold.length q3)) w.heap.size (.int .i64 W.turn) (.int .i64 W.next) (.int .i64 W.wide) (.int .i64 W.high) (.slice p1 W.gs.length q1) (.slice p2 W.os.length q2) (.slice p3 W.gold.length q3) u4 u5) := XA.out.set6 _
  clear t x XA X2 Z2
  generalize (a3.setCell ⟨w.heap.size, 6, none⟩ (.slice p3 W.gold.length q3)) = w3 at *
  have B3 : Hid (Below w.heap.size w w3) := KW.out.below BA.out BA.out.size (Nat.le_refl _)
  have S3 : Hid (w.heap.size + 2 ≤ w3.heap.size) := Nat.le_trans SA.out KW.out.size
  have Z3 : Hid (Wx w3 (w.heap.size + 1) (.int .i64 0) (.int .i64 0) (.int .i64 0) (.int .i64 0) (.slice none 0 0) (.slice none 0 0) (.slice none 0 0) (.slice none 0 0) (.slice none 0 0)) := ZA.out.kp KW.out (by omega)
  have P3_3 : Hid (Ow w3 (w.heap.size + 2) (.slice p3 W.gold.length q3) W.gold) := OA.out.kp KW.out (by omega)
  have P1_3 : Hid (Ow w3 (w.heap.size + 2) (.slice p1 W.gs.length q1) W.gs) := PA1.out.kp KW.out (by omega)
  have P2_3 : Hid (Ow w3 (w.heap.size + 2) (.slice p2 W.os.length q2) W.os) := PA2.out.kp KW.out (by omega)
  clear BA SA ZA OA KW PA1 PA2
  obtain ⟨x0, x1, x2, x3, x4, x5, x6, x7, x8⟩ := X3.out.cells
  go_wp2_with fail
  refine (fresh_uns _ W.us w3 ((H.out.below B3.out).slices.2.2.2.1) L.out.u).mono ?_
  rintro e a4 ⟨v4, rfl, ho, hb⟩
  clear x0 x1 x2 x3 x4 x5 x6 x7 x8
  have BA : Hid (Below w.heap.size w a4) := B3.out.trans (hb.mono B3.out.size)
  have SA : Hid (w.heap.size + 2 ≤ a4.heap.size) := Nat.le_trans S3.out hb.size
  have XA : Hid (Wx a4 w.heap.size (.int .i64 W.turn) (.int .i64 W.next) (.int .i64 W.wide) (.int .i64 W.high) (.slice p1 W.gs.length q1) (.slice p2 W.os.length q2) (.slice p3 W.gold.length q3) u4 u5) := X3.out.below hb X3.out.lt
  have ZA : Hid (Wx a4 (w.heap.size + 1) (.int .i64 0) (.int .i64 0) (.int .i64 0) (.int .i64 0) (.slice none 0 0) (.slice none 0 0) (.slice none 0 0) (.slice none 0 0) (.slice none 0 0)) := Z3.out.below hb Z3.out.lt
  have OA : Hid (Uno a4 (w.heap.size + 2) v4 W.us) := ho.mono S3.out
  have PA1 : Hid (Ow a4 (w.heap.size + 2) (.slice p1 W.gs.length q1) W.gs) := P1_3.out.below hb
  have PA2 : Hid (Ow a4 (w.heap.size + 2) (.slice p2 W.os.length q2) W.os) := P2_3.out.below hb
  have PA3 : Hid (Ow a4 (w.heap.size + 2) (.slice p3 W.gold.length q3) W.gold) := P3_3.out.below hb
  have D1_4 : Hid (Dif (.slice p1 W.gs.length q1) v4) := Dif.of (fun k hk => (P1_3.out.block k hk).2) (fun k hk => (ho.block k hk).1)
  have D2_4 : Hid (Dif (.slice p2 W.os.length q2) v4) := Dif.of (fun k hk => (P2_3.out.block k hk).2) (fun k hk => (ho.block k hk).1)
  have D3_4 : Hid (Dif (.slice p3 W.gold.length q3) v4) := Dif.of (fun k hk => (P3_3.out.block k hk).2) (fun k hk => (ho.block k hk).1)
  obtain ⟨p4, q4, rfl⟩ := ho.len
  have t := XA.out.thaw 7
  obtain ⟨-, -, -, -, -, -, -, x, -⟩ := XA.out.cells
  clear hb ho P1_3 P2_3 P3_3
  go_upto_region 5 with fail
  have KW : Hid (Kp w.heap.size a4 (a4.setCell ⟨w.heap.size, 7, none⟩ (.slice p4 W.us.length q4))) := Kp.set _ _ _
  have X4 : Hid (Wx (a4.setCell ⟨w.heap.size, 7, none⟩ (.slice p4 W.us.length q4)) w.heap.size (.int .i64 W.turn) (.int .i64 W.next) (.int .i64 W.wide) (.int .i64 W.high) (.slice p1 W.gs.length q1) (.slice p2 W.os.length q2) (.slice p3 W.gold.length q3) (.slice p4 W.us.length q4) u5) := XA.out.set7 _
  clear t x XA X3 Z3
  generalize (a4.setCell ⟨w.heap.size, 7, none⟩ (.slice p4 W.us.length q4)) = w4 at *
  have B4 : Hid (Below w.heap.size w w4) := KW.out.below BA.out BA.out.size (Nat.le_refl _)
  have S4 : Hid (w.heap.size + 2 ≤ w4.heap.size) := Nat.le_trans SA.out KW.out.size
  have Z4 : Hid (Wx w4 (w.heap.size + 1) (.int .i64 0) (.int .i64 0) (.int .i64 0) (.int .i64 0) (.slice none 0 0) (.slice none 0 0) (.slice none 0 0) (.slice none 0 0) (.slice none 0 0)) := ZA.out.kp KW.out (by omega)
  have P4_4 : Hid (Uno w4 (w.heap.size + 2) (.slice p4 W.us.length q4) W.us) := OA.out.kp KW.out (by omega)
  have P1_4 : Hid (Ow w4 (w.heap.size + 2) (.slice p1 W.gs.length q1) W.gs) := PA1.out.kp KW.out (by omega)
  have P2_4 : Hid (Ow w4 (w.heap.size + 2) (.slice p2 W.os.length q2) W.os) := PA2.out.kp KW.out (by omega)
  have P3_4 : Hid (Ow w4 (w.heap.size + 2) (.slice p3 W.gold.length q3) W.gold) := PA3.out.kp KW.out (by omega)
  clear BA SA ZA OA KW PA1 PA2 PA3
  obtain ⟨x0, x1, x2, x3, x4, x5, x6, x7, x8⟩ := X4.out.cells
  go_wp2_with fail
  refine (fresh_jbs _ W.qs w4 ((H.out.below B4.out).slices.2.2.2.2) L.out.q).mono ?_
  rintro e a5 ⟨v5, rfl, ho, hb⟩
  clear x0 x1 x2 x3 x4 x5 x6 x7 x8
  have BA : Hid (Below w.heap.size w a5) := B4.out.trans (hb.mono B4.out.size)
  have SA : Hid (w.heap.size + 2 ≤ a5.heap.size) := Nat.le_trans S4.out hb.size
  have XA : Hid (Wx a5 w.heap.size (.int .i64 W.turn) (.int .i64 W.next) (.int .i64 W.wide) (.int .i64 W.high) (.slice p1 W.gs.length q1) (.slice p2 W.os.length q2) (.slice p3 W.gold.length q3) (.slice p4 W.us.length q4) u5) := X4.out.below hb X4.out.lt
  have ZA : Hid (Wx a5 (w.heap.size + 1) (.int .i64 0) (.int .i64 0) (.int .i64 0) (.int .i64 0) (.slice none 0 0) (.slice none 0 0) (.slice none 0 0) (.slice none 0 0) (.slice none 0 0)) := Z4.out.below hb Z4.out.lt
  have OA : Hid (Jbo a5 (w.heap.size + 2) v5 W.qs) := ho.mono S4.out
  have PA1 : Hid (Ow a5 (w.heap.size + 2) (.slice p1 W.gs.length q1) W.gs) := P1_4.out.below hb
  have PA2 : Hid (Ow a5 (w.heap.size + 2) (.slice p2 W.os.length q2) W.os) := P2_4.out.below hb
  have PA3 : Hid (Ow a5 (w.heap.size + 2) (.slice p3 W.gold.length q3) W.gold) := P3_4.out.below hb
  have PA4 : Hid (Uno a5 (w.heap.size + 2) (.slice p4 W.us.length q4) W.us) := P4_4.out.below hb
  have D1_5 : Hid (Dif (.slice p1 W.gs.length q1) v5) := Dif.of (fun k hk => (P1_4.out.block k hk).2) (fun k hk => (ho.block k hk).1)
  have D2_5 : Hid (Dif (.slice p2 W.os.length q2) v5) := Dif.of (fun k hk => (P2_4.out.block k hk).2) (fun k hk => (ho.block k hk).1)
  have D3_5 : Hid (Dif (.slice p3 W.gold.length q3) v5) := Dif.of (fun k hk => (P3_4.out.block k hk).2) (fun k hk => (ho.block k hk).1)
  have D4_5 : Hid (Dif (.slice p4 W.us.length q4) v5) := Dif.of (fun k hk => (P4_4.out.block k hk).2) (fun k hk => (ho.block k hk).1)
  obtain ⟨p5, q5, rfl⟩ := ho.len
  have t := XA.out.thaw 8
  obtain ⟨-, -, -, -, -, -, -, -, x⟩ := XA.out.cells
  clear hb ho P1_4 P2_4 P3_4 P4_4
  go_upto_region 6 with fail
  have KW : Hid (Kp w.heap.size a5 (a5.setCell ⟨w.heap.size, 8, none⟩ (.slice p5 W.qs.length q5))) := Kp.set _ _ _
  have X5 : Hid (Wx (a5.setCell ⟨w.heap.size, 8, none⟩ (.slice p5 W.qs.length q5)) w.heap.size (.int .i64 W.turn) (.int .i64 W.next) (.int .i64 W.wide) (.int .i64 W.high) (.slice p1 W.gs.length q1) (.slice p2 W.os.length q2) (.slice p3 W.gold.length q3) (.slice p4 W.us.length q4) (.slice p5 W.qs.length q5)) := XA.out.set8 _
  clear t x XA X4 Z4
  generalize (a5.setCell ⟨w.heap.size, 8, none⟩ (.slice p5 W.qs.length q5)) = w5 at *
  have B5 : Hid (Below w.heap.size w w5) := KW.out.below BA.out BA.out.size (Nat.le_refl _)
  have S5 : Hid (w.heap.size + 2 ≤ w5.heap.size) := Nat.le_trans SA.out KW.out.size
  have Z5 : Hid (Wx w5 (w.heap.size + 1) (.int .i64 0) (.int .i64 0) (.int .i64 0) (.int .i64 0) (.slice none 0 0) (.slice none 0 0) (.slice none 0 0) (.slice none 0 0) (.slice none 0 0)) := ZA.out.kp KW.out (by omega)
  have P5_5 : Hid (Jbo w5 (w.heap.size + 2) (.slice p5 W.qs.length q5) W.qs) := OA.out.kp KW.out (by omega)
  have P1_5 : Hid (Ow w5 (w.heap.size + 2) (.slice p1 W.gs.length q1) W.gs) := PA1.out.kp KW.out (by omega)
  have P2_5 : Hid (Ow w5 (w.heap.size + 2) (.slice p2 W.os.length q2) W.os) := PA2.out.kp KW.out (by omega)
  have P3_5 : Hid (Ow w5 (w.heap.size + 2) (.slice p3 W.gold.length q3) W.gold) := PA3.out.kp KW.out (by omega)
  have P4_5 : Hid (Uno w5 (w.heap.size + 2) (.slice p4 W.us.length q4) W.us) := PA4.out.kp KW.out (by omega)
  clear BA SA ZA OA KW PA1 PA2 PA3 PA4
  obtain ⟨x0, x1, x2, x3, x4, x5, x6, x7, x8⟩ := X5.out.cells
  obtain ⟨z0, z1, z2, z3, z4, z5, z6, z7, z8⟩ := Z5.out.cells
  obtain ⟨t0, t1, t2, t3, t4, t5, t6, t7, t8⟩ := Z5.out.thaws
  have KZ : Hid (Kp (w.heap.size + 1) w5 (((((((((w5.setCell ⟨w.heap.size + 1, 0, none⟩ (.int .i64 W.turn)).setCell ⟨w.heap.size + 1, 1, none⟩ (.int .i64 W.next)).setCell ⟨w.heap.size + 1, 2, none⟩ (.int .i64 W.wide)).setCell ⟨w.heap.size + 1, 3, none⟩ (.int .i64 W.high)).setCell ⟨w.heap.size + 1, 4, none⟩ (.slice p1 W.gs.length q1)).setCell ⟨w.heap.size + 1, 5, none⟩ (.slice p2 W.os.length q2)).setCell ⟨w.heap.size + 1, 6, none⟩ (.slice p3 W.gold.length q3)).setCell ⟨w.heap.size + 1, 7, none⟩ (.slice p4 W.us.length q4)).setCell ⟨w.heap.size + 1, 8, none⟩ (.slice p5 W.qs.length q5))) := put_kp _ _ _ _ _ _ _ _ _ _ _
  obtain ⟨y0, y1, y2, y3, y4, y5, y6, y7, y8⟩ := (Z5.out.put (.int .i64 W.turn) (.int .i64 W.next) (.int .i64 W.wide) (.int .i64 W.high) (.slice p1 W.gs.length q1) (.slice p2 W.os.length q2) (.slice p3 W.gold.length q3) (.slice p4 W.us.length q4) (.slice p5 W.qs.length q5)).cells
  go_wp2
  clear x0 x1 x2 x3 x4 x5 x6 x7 x8 z0 z1 z2 z3 z4 z5 z6 z7 z8 t0 t1 t2 t3 t4 t5 t6 t7 t8
  have s0 := S5.out
  generalize (((((((((w5.setCell ⟨w.heap.size + 1, 0, none⟩ (.int .i64 W.turn)).setCell ⟨w.heap.size + 1, 1, none⟩ (.int .i64 W.next)).setCell ⟨w.heap.size + 1, 2, none⟩ (.int .i64 W.wide)).setCell ⟨w.heap.size + 1, 3, none⟩ (.int .i64 W.high)).setCell ⟨w.heap.size + 1, 4, none⟩ (.slice p1 W.gs.length q1)).setCell ⟨w.heap.size + 1, 5, none⟩ (.slice p2 W.os.length q2)).setCell ⟨w.heap.size + 1, 6, none⟩ (.slice p3 W.gold.length q3)).setCell ⟨w.heap.size + 1, 7, none⟩ (.slice p4 W.us.length q4)).setCell ⟨w.heap.size + 1, 8, none⟩ (.slice p5 W.qs.length q5)) = w9 at *
  refine bodyPost_ret (v := .agg #[.int .i64 W.turn, .int .i64 W.next, .int .i64 W.wide, .int .i64 W.high, .slice p1 W.gs.length q1, .slice p2 W.os.length q2, .slice p3 W.gold.length q3, .slice p4 W.us.length q4, .slice p5 W.qs.length q5]) (by simp [results, Tryd.results22, go_sem, y0, y1, y2, y3, y4, y5, y6, y7, y8]) rfl ⟨_, rfl, ⟨_, _, _, _, _, rfl, ⟨(P1_5.out.kp KZ.out (by omega)).mono (by omega), (P2_5.out.kp KZ.out (by omega)).mono (by omega), (P3_5.out.kp KZ.out (by omega)).mono (by omega), (P4_5.out.kp KZ.out (by omega)).mono (by omega), (P5_5.out.kp KZ.out (by omega)).mono (by omega)⟩, D1_2.out, D1_3.out, D1_4.out, D1_5.out, D2_3.out, D2_4.out, D2_5.out, D3_4.out, D3_5.out, D4_5.out⟩, KZ.out.below B5.out B5.out.size (by omega)⟩
end Go.Proofs.YtolmfekefjnggaaDoor

namespace Go.Proofs.YtolmfekefjnggaaDoor
open Go.RowKit
set_option linter.unusedVariables false

theorem Evo.kp9 {w w' : World} {base z : Nat} {v : Value} {ks : List EvV} (h : Evo w base v ks) (k : Kp z w w') (hz : z < base) : Evo w' base v ks := owns_kp h k hz
end Go.Proofs.YtolmfekefjnggaaDoor

namespace Go.Proofs.YtolmfekefjnggaaDoor
open Go.RowKit
set_option linter.unusedVariables false

/-- the world behind digging; what happened. -/
def dug (ks : List KV) (Wn Hn : Nat) (X : WV) : WV := (br ks Wn Hn (tk ks X X.us.length).1 (tk ks X X.us.length).1.us.length).1
def dugEv (ks : List KV) (Wn Hn : Nat) (X : WV) : List EvV := (tk ks X X.us.length).2 ++ (br ks Wn Hn (tk ks X X.us.length).1 (tk ks X X.us.length).1.us.length).2
/-- what Dig tells. -/
def DigSays (ks : List KV) (X : WV) (w w' : World) (v ev : Value) : Prop :=
  (Wd.wfault ks X ≠ 0 ∧ v = .agg #[.int .i64 0, .int .i64 0, .int .i64 0, .int .i64 0, .slice none 0 0, .slice none 0 0, .slice none 0 0, .slice none 0 0, .slice none 0 0] ∧ ev = .slice none 0 0)
  ∨ (Wd.wfault ks X = 0 ∧ ∃ Wn Hn : Nat, X.wide = (Wn : Nat) ∧ X.high = (Hn : Nat) ∧ Fd.Good Wn Hn X.gs X.os ∧ Wo w' w.heap.size v (dug ks Wn Hn X) ∧ Evo w' w.heap.size ev (dugEv ks Wn Hn X))
set_option maxRecDepth 100000 in
set_option maxHeartbeats 16000000 in
theorem Dig_any (vk vw : Value) (ks : List KV) (X : WV) (w : World) (hk : Kl w vk ks) (hb : ∀ k ∈ ks, k.b.size ≤ 9223372036854775807) (hw : Wl w vw X) (hs : Sd w) :
    Calls Tryd.prog 6 #[vk, vw] w fun e w' => ∃ v ev r, e = .returned (.tuple #[v, ev, r]) ∧ Er r (Wd.wfault ks X) ∧ DigSays ks X w w' v ev ∧ Below w.heap.size w w' := by
  have K : Hid (Kl w vk ks ∧ ∀ k ∈ ks, k.b.size ≤ 9223372036854775807) := ⟨hk, hb⟩
  have H : Hid (Wl w vw X) := hw
  have SD : Hid (Sd w) := hs
  clear hs
  obtain ⟨p1, q1, p2, q2, p3, q3, p4, q4, p5, q5, rfl⟩ := wl_shape9 hw
  obtain ⟨pk, qk, rfl, ck1, ck2, kc⟩ := hk
  clear hb hw kc
  go_enter Tryd.func6, Tryd.ntmps6
  go_upto_region 1 with fail
  have B0 : Hid (Below w.heap.size w ((w.alloc (Obj.cells #[.int .i64 X.turn, .int .i64 X.next, .int .i64 X.wide, .int .i64 X.high, .slice p1 X.gs.length q1, .slice p2 X.os.length q2, .slice p3 X.gold.length q3, .slice p4 X.us.length q4, .slice p5 X.qs.length q5] 29)).alloc (Obj.cells #[.int .i64 0, .int .i64 0, .int .i64 0, .int .i64 0, .slice none 0 0, .slice none 0 0, .slice none 0 0, .slice none 0 0, .slice none 0 0] 29))) := ((Below.refl _ _).alloc (Nat.le_refl _) _).alloc (by simp) _
  have X0 : Hid (Wx ((w.alloc (Obj.cells #[.int .i64 X.turn, .int .i64 X.next, .int .i64 X.wide, .int .i64 X.high, .slice p1 X.gs.length q1, .slice p2 X.os.length q2, .slice p3 X.gold.length q3, .slice p4 X.us.length q4, .slice p5 X.qs.length q5] 29)).alloc (Obj.cells #[.int .i64 0, .int .i64 0, .int .i64 0, .int .i64 0, .slice none 0 0, .slice none 0 0, .slice none 0 0, .slice none 0 0, .slice none 0 0] 29)) (w.heap.size) (.int .i64 X.turn) (.int .i64 X.next) (.int .i64 X.wide) (.int .i64 X.high) (.slice p1 X.gs.length q1) (.slice p2 X.os.length q2) (.slice p3 X.gold.length q3) (.slice p4 X.us.length q4) (.slice p5 X.qs.length q5)) := (Wx.new (.int .i64 X.turn) (.int .i64 X.next) (.int .i64 X.wide) (.int .i64 X.high) (.slice p1 X.gs.length q1) (.slice p2 X.os.length q2) (.slice p3 X.gold.length q3) (.slice p4 X.us.length q4) (.slice p5 X.qs.length q5) rfl).below ((Below.refl _ _).alloc (Nat.le_refl _) _) (by simp)
  have Z0 : Hid (Wx ((w.alloc (Obj.cells #[.int .i64 X.turn, .int .i64 X.next, .int .i64 X.wide, .int .i64 X.high, .slice p1 X.gs.length q1, .slice p2 X.os.length q2, .slice p3 X.gold.length q3, .slice p4 X.us.length q4, .slice p5 X.qs.length q5] 29)).alloc (Obj.cells #[.int .i64 0, .int .i64 0, .int .i64 0, .int .i64 0, .slice none 0 0, .slice none 0 0, .slice none 0 0, .slice none 0 0, .slice none 0 0] 29)) (w.heap.size + 1) (.int .i64 0) (.int .i64 0) (.int .i64 0) (.int .i64 0) (.slice none 0 0) (.slice none 0 0) (.slice none 0 0) (.slice none 0 0) (.slice none 0 0)) := Wx.new (.int .i64 0) (.int .i64 0) (.int .i64 0) (.int .i64 0) (.slice none 0 0) (.slice none 0 0) (.slice none 0 0) (.slice none 0 0) (.slice none 0 0) (by simp)
  generalize ((w.alloc (Obj.cells #[.int .i64 X.turn, .int .i64 X.next, .int .i64 X.wide, .int .i64 X.high, .slice p1 X.gs.length q1, .slice p2 X.os.length q2, .slice p3 X.gold.length q3, .slice p4 X.us.length q4, .slice p5 X.qs.length q5] 29)).alloc (Obj.cells #[.int .i64 0, .int .i64 0, .int .i64 0, .int .i64 0, .slice none 0 0, .slice none 0 0, .slice none 0 0, .slice none 0 0, .slice none 0 0] 29)) = w0 at *
  obtain ⟨x0, x1, x2, x3, x4, x5, x6, x7, x8⟩ := X0.out.cells
  go_wp2_with fail
  refine (wcheck_any _ _ ks X w0 (K.out.1.below B0.out) K.out.2 (H.out.below B0.out)).mono ?_
  rintro e w1 ⟨r, rfl, hr, hb⟩
  obtain ⟨fw, hfw⟩ : ∃ f, Wd.wfault ks X = f := ⟨_, rfl⟩
  have FW : Hid (Wd.wfault ks X = fw) := hfw
  rw [hfw] at hr
  have B1 : Hid (Below w.heap.size w w1) := B0.out.trans (hb.mono B0.out.size)
  have X1 : Hid (Wx w1 (w.heap.size) (.int .i64 X.turn) (.int .i64 X.next) (.int .i64 X.wide) (.int .i64 X.high) (.slice p1 X.gs.length q1) (.slice p2 X.os.length q2) (.slice p3 X.gold.length q3) (.slice p4 X.us.length q4) (.slice p5 X.qs.length q5)) := X0.out.below hb X0.out.lt
  have Z1 : Hid (Wx w1 (w.heap.size + 1) (.int .i64 0) (.int .i64 0) (.int .i64 0) (.int .i64 0) (.slice none 0 0) (.slice none 0 0) (.slice none 0 0) (.slice none 0 0) (.slice none 0 0)) := Z0.out.below hb Z0.out.lt
  clear hb hfw x0 x1 x2 x3 x4 x5 x6 x7 x8 X0 B0 Z0
  rcases hr with ⟨rfl, rfl⟩ | ⟨hf, rfl⟩
  case inr =>
    have HF : Hid (fw ≠ 0) := hf
    clear hf
    obtain ⟨z0, z1, z2, z3, z4, z5, z6, z7, z8⟩ := Z1.out.cells
    obtain ⟨t0, t1, t2, t3, t4, t5, t6, t7, t8⟩ := Z1.out.thaws
    have KZ : Hid (Kp (w.heap.size + 1) w1 (((((((((w1.setCell ⟨w.heap.size + 1, 0, none⟩ (.int .i64 0)).setCell ⟨w.heap.size + 1, 1, none⟩ (.int .i64 0)).setCell ⟨w.heap.size + 1, 2, none⟩ (.int .i64 0)).setCell ⟨w.heap.size + 1, 3, none⟩ (.int .i64 0)).setCell ⟨w.heap.size + 1, 4, none⟩ (.slice none 0 0)).setCell ⟨w.heap.size + 1, 5, none⟩ (.slice none 0 0)).setCell ⟨w.heap.size + 1, 6, none⟩ (.slice none 0 0)).setCell ⟨w.heap.size + 1, 7, none⟩ (.slice none 0 0)).setCell ⟨w.heap.size + 1, 8, none⟩ (.slice none 0 0))) := put_kp _ _ _ _ _ _ _ _ _ _ _
    obtain ⟨y0, y1, y2, y3, y4, y5, y6, y7, y8⟩ := (Z1.out.put (.int .i64 0) (.int .i64 0) (.int .i64 0) (.int .i64 0) (.slice none 0 0) (.slice none 0 0) (.slice none 0 0) (.slice none 0 0) (.slice none 0 0)).cells
    go_wp2
    clear z0 z1 z2 z3 z4 z5 z6 z7 z8 t0 t1 t2 t3 t4 t5 t6 t7 t8
    generalize (((((((((w1.setCell ⟨w.heap.size + 1, 0, none⟩ (.int .i64 0)).setCell ⟨w.heap.size + 1, 1, none⟩ (.int .i64 0)).setCell ⟨w.heap.size + 1, 2, none⟩ (.int .i64 0)).setCell ⟨w.heap.size + 1, 3, none⟩ (.int .i64 0)).setCell ⟨w.heap.size + 1, 4, none⟩ (.slice none 0 0)).setCell ⟨w.heap.size + 1, 5, none⟩ (.slice none 0 0)).setCell ⟨w.heap.size + 1, 6, none⟩ (.slice none 0 0)).setCell ⟨w.heap.size + 1, 7, none⟩ (.slice none 0 0)).setCell ⟨w.heap.size + 1, 8, none⟩ (.slice none 0 0)) = w9 at *
    refine bodyPost_ret (v := .tuple #[.agg #[.int .i64 0, .int .i64 0, .int .i64 0, .int .i64 0, .slice none 0 0, .slice none 0 0, .slice none 0 0, .slice none 0 0, .slice none 0 0], .slice none 0 0, .iface 69 (.int .i64 fw)]) (by simp [results, Tryd.results6, go_sem, y0, y1, y2, y3, y4, y5, y6, y7, y8]) rfl ⟨_, _, _, rfl, by rw [FW.out]; exact Er.no HF.out, .inl ⟨by rw [FW.out]; exact HF.out, rfl, rfl⟩, KZ.out.below B1.out B1.out.size (by omega)⟩
  have WR : Hid (WRight ks X) := wright_of FW.out
  obtain ⟨Wn, Hn, e1, e2, G⟩ := WR.out.good
  have GD : Hid (X.wide = (Wn : Nat) ∧ X.high = (Hn : Nat) ∧ Fd.Good Wn Hn X.gs X.os) := ⟨e1, e2, G⟩
  clear e1 e2 G
  obtain ⟨x0, x1, x2, x3, x4, x5, x6, x7, x8⟩ := X1.out.cells
  go_wp2_with fail
  refine (copy_any _ X w1 (H.out.below B1.out) WR.out.len).mono ?_
  rintro e w2 ⟨cu, rfl, ⟨k1, k2, k3, k4, k5, rfl, ⟨o1, o2, o3, o4, o5⟩, d12, d13, d14, d15, d23, d24, d25, d34, d35, d45⟩, hb⟩
  obtain ⟨a1, r1, rfl⟩ := o1.len
  obtain ⟨a2, r2, rfl⟩ := o2.len
  obtain ⟨a3, r3, rfl⟩ := o3.len
  obtain ⟨a4, r4, rfl⟩ := o4.len
  obtain ⟨a5, r5, rfl⟩ := o5.len
  obtain ⟨b1, hb1⟩ : ∃ z, w1.heap.size = z := ⟨_, rfl⟩
  rw [hb1] at o1 o2 o3 o4 o5
  have BS : Hid (w.heap.size + 1 < b1 ∧ b1 ≤ w2.heap.size) := ⟨by rw [← hb1]; exact Z1.out.lt, by rw [← hb1]; exact hb.size⟩
  have X2 : Hid (Wx w2 (w.heap.size) (.int .i64 X.turn) (.int .i64 X.next) (.int .i64 X.wide) (.int .i64 X.high) (.slice p1 X.gs.length q1) (.slice p2 X.os.length q2) (.slice p3 X.gold.length q3) (.slice p4 X.us.length q4) (.slice p5 X.qs.length q5)) := X1.out.below hb X1.out.lt
  have Z2 : Hid (Wx w2 (w.heap.size + 1) (.int .i64 0) (.int .i64 0) (.int .i64 0) (.int .i64 0) (.slice none 0 0) (.slice none 0 0) (.slice none 0 0) (.slice none 0 0) (.slice none 0 0)) := Z1.out.below hb Z1.out.lt
  have B2 : Hid (Below w.heap.size w w2) := B1.out.trans (hb.mono B1.out.size)
  have O2 : Hid (Ow w2 b1 (Value.slice a1 X.gs.length r1) X.gs ∧ Ow w2 b1 (Value.slice a2 X.os.length r2) X.os ∧ Ow w2 b1 (Value.slice a3 X.gold.length r3) X.gold ∧ Uno w2 b1 (Value.slice a4 X.us.length r4) X.us ∧ Jbo w2 b1 (Value.slice a5 X.qs.length r5) X.qs) := ⟨o1, o2, o3, o4, o5⟩
  have DD : Hid ([Value.slice a1 X.gs.length r1, Value.slice a2 X.os.length r2, Value.slice a3 X.gold.length r3, Value.slice a4 X.us.length r4, Value.slice a5 X.qs.length r5].Pairwise Dif) := by
    unfold Hid
    simp only [List.pairwise_cons, List.mem_cons, List.not_mem_nil, or_false, forall_eq_or_imp, forall_eq, List.Pairwise.nil, and_true, false_imp_iff, implies_true]
    exact ⟨⟨d12, d13, d14, d15⟩, ⟨d23, d24, d25⟩, ⟨d34, d35⟩, d45⟩
  clear hb hb1 x0 x1 x2 x3 x4 x5 x6 x7 x8 o1 o2 o3 o4 o5 d12 d13 d14 d15 d23 d24 d25 d34 d35 d45 X1 Z1 B1
  obtain ⟨z0, z1, z2, z3, z4, z5, z6, z7, z8⟩ := X2.out.cells
  obtain ⟨t0, t1, t2, t3, t4, t5, t6, t7, t8⟩ := X2.out.thaws
  have KZ : Hid (Kp (w.heap.size) w2 (((((((((w2.setCell ⟨w.heap.size, 0, none⟩ (.int .i64 X.turn)).setCell ⟨w.heap.size, 1, none⟩ (.int .i64 X.next)).setCell ⟨w.heap.size, 2, none⟩ (.int .i64 X.wide)).setCell ⟨w.heap.size, 3, none⟩ (.int .i64 X.high)).setCell ⟨w.heap.size, 4, none⟩ (Value.slice a1 X.gs.length r1)).setCell ⟨w.heap.size, 5, none⟩ (Value.slice a2 X.os.length r2)).setCell ⟨w.heap.size, 6, none⟩ (Value.slice a3 X.gold.length r3)).setCell ⟨w.heap.size, 7, none⟩ (Value.slice a4 X.us.length r4)).setCell ⟨w.heap.size, 8, none⟩ (Value.slice a5 X.qs.length r5))) := put_kp _ _ _ _ _ _ _ _ _ _ _
  have X3 : Hid (Wx (((((((((w2.setCell ⟨w.heap.size, 0, none⟩ (.int .i64 X.turn)).setCell ⟨w.heap.size, 1, none⟩ (.int .i64 X.next)).setCell ⟨w.heap.size, 2, none⟩ (.int .i64 X.wide)).setCell ⟨w.heap.size, 3, none⟩ (.int .i64 X.high)).setCell ⟨w.heap.size, 4, none⟩ (Value.slice a1 X.gs.length r1)).setCell ⟨w.heap.size, 5, none⟩ (Value.slice a2 X.os.length r2)).setCell ⟨w.heap.size, 6, none⟩ (Value.slice a3 X.gold.length r3)).setCell ⟨w.heap.size, 7, none⟩ (Value.slice a4 X.us.length r4)).setCell ⟨w.heap.size, 8, none⟩ (Value.slice a5 X.qs.length r5)) (w.heap.size) (.int .i64 X.turn) (.int .i64 X.next) (.int .i64 X.wide) (.int .i64 X.high) (Value.slice a1 X.gs.length r1) (Value.slice a2 X.os.length r2) (Value.slice a3 X.gold.length r3) (Value.slice a4 X.us.length r4) (Value.slice a5 X.qs.length r5)) := X2.out.put (.int .i64 X.turn) (.int .i64 X.next) (.int .i64 X.wide) (.int .i64 X.high) (Value.slice a1 X.gs.length r1) (Value.slice a2 X.os.length r2) (Value.slice a3 X.gold.length r3) (Value.slice a4 X.us.length r4) (Value.slice a5 X.qs.length r5)
  go_upto_region 5 with fail
  clear z0 z1 z2 z3 z4 z5 z6 z7 z8 t0 t1 t2 t3 t4 t5 t6 t7 t8
  generalize (((((((((w2.setCell ⟨w.heap.size, 0, none⟩ (.int .i64 X.turn)).setCell ⟨w.heap.size, 1, none⟩ (.int .i64 X.next)).setCell ⟨w.heap.size, 2, none⟩ (.int .i64 X.wide)).setCell ⟨w.heap.size, 3, none⟩ (.int .i64 X.high)).setCell ⟨w.heap.size, 4, none⟩ (Value.slice a1 X.gs.length r1)).setCell ⟨w.heap.size, 5, none⟩ (Value.slice a2 X.os.length r2)).setCell ⟨w.heap.size, 6, none⟩ (Value.slice a3 X.gold.length r3)).setCell ⟨w.heap.size, 7, none⟩ (Value.slice a4 X.us.length r4)).setCell ⟨w.heap.size, 8, none⟩ (Value.slice a5 X.qs.length r5)) = w3 at *
  have Z3 : Hid (Wx w3 (w.heap.size + 1) (.int .i64 0) (.int .i64 0) (.int .i64 0) (.int .i64 0) (.slice none 0 0) (.slice none 0 0) (.slice none 0 0) (.slice none 0 0) (.slice none 0 0)) := Z2.out.kp KZ.out (by omega)
  have B3 : Hid (Below w.heap.size w w3) := KZ.out.below B2.out B2.out.size (Nat.le_refl _)
  have O3 : Hid (Ow w3 b1 (Value.slice a1 X.gs.length r1) X.gs ∧ Ow w3 b1 (Value.slice a2 X.os.length r2) X.os ∧ Ow w3 b1 (Value.slice a3 X.gold.length r3) X.gold ∧ Uno w3 b1 (Value.slice a4 X.us.length r4) X.us ∧ Jbo w3 b1 (Value.slice a5 X.qs.length r5) X.qs) := by
    have h := BS.out.1
    exact ⟨O2.out.1.kp KZ.out (by omega), O2.out.2.1.kp KZ.out (by omega), O2.out.2.2.1.kp KZ.out (by omega), O2.out.2.2.2.1.kp KZ.out (by omega), O2.out.2.2.2.2.kp KZ.out (by omega)⟩
  obtain ⟨b3, hb3⟩ : ∃ z, w3.heap.size = z := ⟨_, rfl⟩
  have S3 : Hid (b1 ≤ b3 ∧ w3.heap.size = b3) := ⟨by rw [← hb3]; exact Nat.le_trans BS.out.2 KZ.out.size, hb3⟩
  have L3 : Hid (Wl w3 (.agg #[.int .i64 X.turn, .int .i64 X.next, .int .i64 X.wide, .int .i64 X.high, Value.slice a1 X.gs.length r1, Value.slice a2 X.os.length r2, Value.slice a3 X.gold.length r3, Value.slice a4 X.us.length r4, Value.slice a5 X.qs.length r5]) X) := ⟨(Value.slice a1 X.gs.length r1), (Value.slice a2 X.os.length r2), (Value.slice a3 X.gold.length r3), (Value.slice a4 X.us.length r4), (Value.slice a5 X.qs.length r5), rfl, O3.out.1.ro, O3.out.2.1.ro, O3.out.2.2.1.ro, O3.out.2.2.2.1.l, O3.out.2.2.2.2.l⟩
  clear hb3 KZ X2 Z2 B2 O2
  obtain ⟨x0, x1, x2, x3, x4, x5, x6, x7, x8⟩ := X3.out.cells
  go_wp2_with fail
  refine (take_any _ ks X (Value.slice a1 X.gs.length r1) (Value.slice a2 X.os.length r2) (Value.slice a3 X.gold.length r3) (Value.slice a4 X.us.length r4) (Value.slice a5 X.qs.length r5) b1 w w3 K.out.1 B3.out (by have := BS.out.1; omega) O3.out.1 O3.out.2.1 O3.out.2.2.1 O3.out.2.2.2.1 O3.out.2.2.2.2 DD.out WR.out.dfit).mono ?_
  rintro e w4 ⟨ev, rfl, ht⟩
  obtain ⟨Z, hZ⟩ : ∃ Z, (tk ks X X.us.length).1 = Z := ⟨_, rfl⟩
  obtain ⟨es, hE⟩ : ∃ es, (tk ks X X.us.length).2 = es := ⟨_, rfl⟩
  have HZ : Hid ((tk ks X X.us.length).1 = Z ∧ (tk ks X X.us.length).2 = es) := ⟨hZ, hE⟩
  have EL : Hid (es.length ≤ 40) := by have h9 := tk_evs (ks := ks) (Y := X) X.us.length; rw [hE] at h9; have := WR.out.ul; unfold Hid; omega
  rw [hZ, hE] at ht
  have T4 : Hid (TkS ks X Z es b1 w3.heap.size w3 (Value.slice a1 X.gs.length r1) (Value.slice a2 X.os.length r2) (Value.slice a3 X.gold.length r3) (Value.slice a4 X.us.length r4) (Value.slice a5 X.qs.length r5) ev w4) := ht
  clear ht hZ hE
  have LB : Hid (w.heap.size + 1 < b1 ∧ b1 ≤ w3.heap.size) := ⟨BS.out.1, by have := S3.out; omega⟩
  have N4 : Hid (∀ k, k < b1 → ¬ ((Value.slice a2 X.os.length r2).ownBlock = some k ∨ (Value.slice a4 X.us.length r4).ownBlock = some k)) := fun k hk h => by
    rcases h with h | h
    · have := (O3.out.2.1.block k h).1; omega
    · have := (O3.out.2.2.2.1.block k h).1; omega
  have B34 : Hid (Below b1 w3 w4) := T4.out.fr.low LB.out.2 (fun k hk => by
    rcases Nat.lt_or_ge k b1 with h | h
    · exact absurd hk (N4.out k h)
    · exact h)
  have B4 : Hid (Below w.heap.size w w4) := B3.out.trans (B34.out.mono (by have := LB.out; omega))
  have X4 : Hid (Wx w4 w.heap.size (.int .i64 X.turn) (.int .i64 X.next) (.int .i64 X.wide) (.int .i64 X.high) (Value.slice a1 X.gs.length r1) (Value.slice a2 X.os.length r2) (Value.slice a3 X.gold.length r3) (Value.slice a4 X.us.length r4) (Value.slice a5 X.qs.length r5)) := X3.out.below B34.out (by have := LB.out; omega)
  have Z4 : Hid (Wx w4 (w.heap.size + 1) (.int .i64 0) (.int .i64 0) (.int .i64 0) (.int .i64 0) (.slice none 0 0) (.slice none 0 0) (.slice none 0 0) (.slice none 0 0) (.slice none 0 0)) := Z3.out.below B34.out (by have := LB.out; omega)
  clear x0 x1 x2 x3 x4 x5 x6 x7 x8
  go_upto_region 6 with fail
  have D5 : Hid (Below w4.heap.size w4 { w4 with drawn := w4.drawn + 1 }) := (Below.refl _ _).drew
  have CV : Hid (∀ V, Below b1 w4 V → Wx V w.heap.size (.int .i64 X.turn) (.int .i64 X.next) (.int .i64 X.wide) (.int .i64 X.high) (Value.slice a1 X.gs.length r1) (Value.slice a2 X.os.length r2) (Value.slice a3 X.gold.length r3) (Value.slice a4 X.us.length r4) (Value.slice a5 X.qs.length r5) ∧ Wx V (w.heap.size + 1) (.int .i64 0) (.int .i64 0) (.int .i64 0) (.int .i64 0) (.slice none 0 0) (.slice none 0 0) (.slice none 0 0) (.slice none 0 0) (.slice none 0 0)) := fun V hV => ⟨X4.out.below hV (by have := LB.out; omega), Z4.out.below hV (by have := LB.out; omega)⟩
  have S4 : Hid (b1 ≤ w4.heap.size) := Nat.le_trans LB.out.2 T4.out.fr.size
  refine wp_region_two [(true, 0), (true, 1), (true, 2), (true, 3), (false, 4), (false, 5)] [(false, 6), (false, 7), (false, 8)] (fun V => Wx V w.heap.size (.int .i64 X.turn) (.int .i64 X.next) (.int .i64 X.wide) (.int .i64 X.high) (Value.slice a1 X.gs.length r1) (Value.slice a2 X.os.length r2) (Value.slice a3 X.gold.length r3) (Value.slice a4 X.us.length r4) (Value.slice a5 X.qs.length r5) ∧ Wx V (w.heap.size + 1) (.int .i64 0) (.int .i64 0) (.int .i64 0) (.int .i64 0) (.slice none 0 0) (.slice none 0 0) (.slice none 0 0) (.slice none 0 0) (.slice none 0 0)) (by kernel_rfl) (by kernel_rfl) (by kernel_rfl) (by decide +kernel) (by decide +kernel) (CV.out _ (D5.out.mono S4.out)) ?_
  generalize ({ w4 with drawn := w4.drawn + 1 } : World) = w5 at *
  refine headT_read rfl (.agg #[.int .i64 X.turn, .int .i64 X.next, .int .i64 X.wide, .int .i64 X.high, Value.slice a1 X.gs.length r1, Value.slice a2 X.os.length r2, Value.slice a3 X.gold.length r3, Value.slice a4 X.us.length r4, Value.slice a5 X.qs.length r5]) (by go_simp) (fun V hV => by obtain ⟨x0, x1, x2, x3, x4, x5, x6, x7, x8⟩ := hV.1.cells; go_simp) ?_
  go_simp
  refine headT_read rfl (ev) (by go_simp) (fun V hV => by go_simp) ?_
  go_simp
  refine headT_read rfl (.slice pk ks.length qk) (by go_simp) (fun V hV => by go_simp) ?_
  go_simp
  refine headT_read rfl (.agg #[.int .i64 X.turn, .int .i64 X.next, .int .i64 X.wide, .int .i64 X.high, Value.slice a1 X.gs.length r1, Value.slice a2 X.os.length r2, Value.slice a3 X.gold.length r3, Value.slice a4 X.us.length r4, Value.slice a5 X.qs.length r5]) (by go_simp) (fun V hV => by obtain ⟨x0, x1, x2, x3, x4, x5, x6, x7, x8⟩ := hV.1.cells; go_simp) ?_
  go_simp
  refine headT_call rfl 24 #[.slice pk ks.length qk, .agg #[.int .i64 X.turn, .int .i64 X.next, .int .i64 X.wide, .int .i64 X.high, Value.slice a1 X.gs.length r1, Value.slice a2 X.os.length r2, Value.slice a3 X.gold.length r3, Value.slice a4 X.us.length r4, Value.slice a5 X.qs.length r5]] (by go_simp) (by go_simp) ?_
  have T5 : Hid (TkS ks X Z es b1 w3.heap.size w3 (Value.slice a1 X.gs.length r1) (Value.slice a2 X.os.length r2) (Value.slice a3 X.gold.length r3) (Value.slice a4 X.us.length r4) (Value.slice a5 X.qs.length r5) ev w5) := T4.out.below D5.out
  have B5 : Hid (Below w.heap.size w w5) := B4.out.trans (D5.out.mono B4.out.size)
  have G5 : Hid (Z.wide = (Wn : Nat) ∧ Z.high = (Hn : Nat) ∧ Fd.Good Wn Hn Z.gs Z.os) := by
    obtain ⟨W', H', e1, e2, G⟩ := T5.out.f.wide
    have k := T5.out.k
    have f1 := GD.out.1
    have f2 := GD.out.2.1
    rw [k.2.2.1, f1] at e1
    rw [k.2.2.2.1, f2] at e2
    have g1 : Wn = W' := by omega
    have g2 : Hn = H' := by omega
    subst g1 g2
    exact ⟨by rw [k.2.2.1, f1], by rw [k.2.2.2.1, f2], G⟩
  have BA := bring_any (.slice pk ks.length qk) ks Z (Value.slice a1 X.gs.length r1) (Value.slice a2 X.os.length r2) (Value.slice a3 X.gold.length r3) (Value.slice a4 X.us.length r4) (Value.slice a5 X.qs.length r5) b1 w w5 K.out.1 B5.out (by have := LB.out; omega) T5.out.o1 T5.out.o2 T5.out.o3 T5.out.o4 T5.out.o5 T5.out.d T5.out.f Wn Hn G5.out.1 G5.out.2.1 G5.out.2.2 SD.out
  rw [T5.out.k.1, T5.out.k.2.1, T5.out.k.2.2.1, T5.out.k.2.2.2.1] at BA
  refine Calls.mono BA ?_
  clear BA
  rintro e w6 ⟨ev2, rfl, hb⟩
  obtain ⟨Q, hQ⟩ : ∃ Q, (br ks Wn Hn Z Z.us.length).1 = Q := ⟨_, rfl⟩
  obtain ⟨fs, hF⟩ : ∃ fs, (br ks Wn Hn Z Z.us.length).2 = fs := ⟨_, rfl⟩
  have HQ : Hid ((br ks Wn Hn Z Z.us.length).1 = Q ∧ (br ks Wn Hn Z Z.us.length).2 = fs) := ⟨hQ, hF⟩
  have FL : Hid (fs.length ≤ 40) := by have h9 := br_evs (ks := ks) (Wn := Wn) (Hn := Hn) (Y := Z) Z.us.length; rw [hF] at h9; have := T5.out.f.ul; unfold Hid; omega
  rw [hQ, hF] at hb
  have R6 : Hid (BrS ks Z Q fs b1 w5.heap.size w5 (Value.slice a1 X.gs.length r1) (Value.slice a2 X.os.length r2) (Value.slice a3 X.gold.length r3) (Value.slice a4 X.us.length r4) (Value.slice a5 X.qs.length r5) ev2 w6) := hb
  clear hb hQ hF
  have L34 : Hid (∀ k, ((Value.slice a3 X.gold.length r3).ownBlock = some k ∨ (Value.slice a4 X.us.length r4).ownBlock = some k) → b1 ≤ k ∧ k < w3.heap.size) := fun k h => by
    rcases h with h | h
    · exact O3.out.2.2.1.block k h
    · exact O3.out.2.2.2.1.block k h
  have B56 : Hid (Below b1 w5 w6) := R6.out.fr.low (Nat.le_trans S4.out D5.out.size) (fun k hk => (L34.out k hk).1)
  have B46 : Hid (Below b1 w4 w6) := (D5.out.mono S4.out).trans B56.out
  refine ⟨_, rfl, CV.out _ B46.out, ?_⟩
  go_simp
  have E6 : Hid (Evo w6 w3.heap.size ev es) := R6.out.fr.own T5.out.e (fun b hb h => by have h1 := (T5.out.e.block b hb).1; have h2 := (L34.out b h).2; omega)
  have S6 : Hid (w3.heap.size ≤ w6.heap.size) := Nat.le_trans T4.out.fr.size (Nat.le_trans D5.out.size R6.out.fr.size)
  obtain ⟨v', w7, hr, ho7, hg7⟩ := run_evs w6 34 w3.heap.size ev es E6.out ev2 fs R6.out.e.l (by have := EL.out; have := FL.out; omega) S6.out
  have BG : Hid (Below b1 w6 w7) := (Below.refl _ _).grown hg7 (Nat.le_trans LB.out.2 S6.out) (fun k hk => Nat.le_trans LB.out.2 (E6.out.block k hk).1)
  have B47 : Hid (Below b1 w4 w7) := B46.out.trans BG.out
  have E7 : Hid (Evo w7 w3.heap.size v' (es ++ fs)) := ho7
  have N7 : Hid (∀ x ∈ [Value.slice a1 X.gs.length r1, Value.slice a2 X.os.length r2, Value.slice a3 X.gold.length r3, Value.slice a4 X.us.length r4, Value.slice a5 X.qs.length r5], ∀ k, x.ownBlock = some k → ¬ ev.ownBlock = some k) := fun x hx k hk h => by
    have h1 := (E6.out.block k h).1
    simp only [List.mem_cons, List.not_mem_nil, or_false] at hx
    rcases hx with rfl | rfl | rfl | rfl | rfl
    · have := (O3.out.1.block k hk).2; omega
    · have := (O3.out.2.1.block k hk).2; omega
    · have := (O3.out.2.2.1.block k hk).2; omega
    · have := (O3.out.2.2.2.1.block k hk).2; omega
    · have := (O3.out.2.2.2.2.block k hk).2; omega
  have O7 : Hid (Ow w7 b1 (Value.slice a1 X.gs.length r1) Q.gs ∧ Ow w7 b1 (Value.slice a2 X.os.length r2) Q.os ∧ Ow w7 b1 (Value.slice a3 X.gold.length r3) Q.gold ∧ Uno w7 b1 (Value.slice a4 X.us.length r4) Q.us ∧ Jbo w7 b1 (Value.slice a5 X.qs.length r5) Q.qs) :=
    ⟨own_gb R6.out.o1 hg7 (N7.out _ (by simp)), own_gb R6.out.o2 hg7 (N7.out _ (by simp)), own_gb R6.out.o3 hg7 (N7.out _ (by simp)), own_gb R6.out.o4 hg7 (N7.out _ (by simp)), own_gb R6.out.o5 hg7 (N7.out _ (by simp))⟩
  refine headT_value rfl v' w7 (by go_simp) (exec_append _ _ _ _ rfl _ _ (by go_simp) (by go_simp) hr) (CV.out _ B47.out) ?_
  clear hr ho7 hg7
  go_simp
  unfold wpHeadT
  obtain ⟨X7, Z7⟩ := CV.out _ B47.out
  have B7 : Hid (Below w.heap.size w w7) := B4.out.trans (B47.out.mono (by have := LB.out; omega))
  obtain ⟨z0, z1, z2, z3, z4, z5, z6, z7, z8⟩ := Z7.cells
  obtain ⟨t0, t1, t2, t3, t4, t5, t6, t7, t8⟩ := Z7.thaws
  have KZ : Hid (Kp (w.heap.size + 1) w7 (((((((((w7.setCell ⟨w.heap.size + 1, 0, none⟩ (.int .i64 X.turn)).setCell ⟨w.heap.size + 1, 1, none⟩ (.int .i64 X.next)).setCell ⟨w.heap.size + 1, 2, none⟩ (.int .i64 X.wide)).setCell ⟨w.heap.size + 1, 3, none⟩ (.int .i64 X.high)).setCell ⟨w.heap.size + 1, 4, none⟩ (Value.slice a1 X.gs.length r1)).setCell ⟨w.heap.size + 1, 5, none⟩ (Value.slice a2 X.os.length r2)).setCell ⟨w.heap.size + 1, 6, none⟩ (Value.slice a3 X.gold.length r3)).setCell ⟨w.heap.size + 1, 7, none⟩ (Value.slice a4 X.us.length r4)).setCell ⟨w.heap.size + 1, 8, none⟩ (Value.slice a5 X.qs.length r5))) := put_kp _ _ _ _ _ _ _ _ _ _ _
  obtain ⟨y0, y1, y2, y3, y4, y5, y6, y7, y8⟩ := (Z7.put (.int .i64 X.turn) (.int .i64 X.next) (.int .i64 X.wide) (.int .i64 X.high) (Value.slice a1 X.gs.length r1) (Value.slice a2 X.os.length r2) (Value.slice a3 X.gold.length r3) (Value.slice a4 X.us.length r4) (Value.slice a5 X.qs.length r5)).cells
  refine sched_skip rfl (((((((((w7.setCell ⟨w.heap.size + 1, 0, none⟩ (.int .i64 X.turn)).setCell ⟨w.heap.size + 1, 1, none⟩ (.int .i64 X.next)).setCell ⟨w.heap.size + 1, 2, none⟩ (.int .i64 X.wide)).setCell ⟨w.heap.size + 1, 3, none⟩ (.int .i64 X.high)).setCell ⟨w.heap.size + 1, 4, none⟩ (Value.slice a1 X.gs.length r1)).setCell ⟨w.heap.size + 1, 5, none⟩ (Value.slice a2 X.os.length r2)).setCell ⟨w.heap.size + 1, 6, none⟩ (Value.slice a3 X.gold.length r3)).setCell ⟨w.heap.size + 1, 7, none⟩ (Value.slice a4 X.us.length r4)).setCell ⟨w.heap.size + 1, 8, none⟩ (Value.slice a5 X.qs.length r5)) (by go_simp) (by go_simp) trivial ?_
  clear z0 z1 z2 z3 z4 z5 z6 z7 z8 t0 t1 t2 t3 t4 t5 t6 t7 t8
  generalize (((((((((w7.setCell ⟨w.heap.size + 1, 0, none⟩ (.int .i64 X.turn)).setCell ⟨w.heap.size + 1, 1, none⟩ (.int .i64 X.next)).setCell ⟨w.heap.size + 1, 2, none⟩ (.int .i64 X.wide)).setCell ⟨w.heap.size + 1, 3, none⟩ (.int .i64 X.high)).setCell ⟨w.heap.size + 1, 4, none⟩ (Value.slice a1 X.gs.length r1)).setCell ⟨w.heap.size + 1, 5, none⟩ (Value.slice a2 X.os.length r2)).setCell ⟨w.heap.size + 1, 6, none⟩ (Value.slice a3 X.gold.length r3)).setCell ⟨w.heap.size + 1, 7, none⟩ (Value.slice a4 X.us.length r4)).setCell ⟨w.heap.size + 1, 8, none⟩ (Value.slice a5 X.qs.length r5)) = w8 at *
  go_simp
  refine sched_value rfl v' w8 (by go_simp) (by go_simp) trivial ?_
  go_simp
  refine sched_value rfl .nilIface w8 (by go_simp) (by go_simp) trivial ?_
  go_simp
  unfold wpSched
  go_wp2
  have QK : Hid (Q.turn = X.turn ∧ Q.next = X.next ∧ Q.wide = X.wide ∧ Q.high = X.high) := by
    obtain ⟨a1, a2, a3, a4, -⟩ := R6.out.k
    obtain ⟨c1, c2, c3, c4, -⟩ := T5.out.k
    exact ⟨by rw [a1, c1], by rw [a2, c2], by rw [a3, c3], by rw [a4, c4]⟩
  refine bodyPost_ret (v := .tuple #[.agg #[.int .i64 X.turn, .int .i64 X.next, .int .i64 X.wide, .int .i64 X.high, Value.slice a1 X.gs.length r1, Value.slice a2 X.os.length r2, Value.slice a3 X.gold.length r3, Value.slice a4 X.us.length r4, Value.slice a5 X.qs.length r5], v', .nilIface]) (by simp [results, Tryd.results6, go_sem, y0, y1, y2, y3, y4, y5, y6, y7, y8]) rfl ⟨_, _, _, rfl, by rw [FW.out]; exact Er.nil, .inr ⟨FW.out, Wn, Hn, GD.out.1, GD.out.2.1, GD.out.2.2, ?_, ?_⟩, KZ.out.below B7.out B7.out.size (by omega)⟩
  · have e : dug ks Wn Hn X = Q := by unfold dug; rw [HZ.out.1, HQ.out.1]
    rw [e]
    have h := LB.out
    refine ⟨_, _, _, _, _, by rw [QK.out.1, QK.out.2.1, QK.out.2.2.1, QK.out.2.2.2], (O7.out.1.kp KZ.out (by omega)).mono (by omega), (O7.out.2.1.kp KZ.out (by omega)).mono (by omega), (O7.out.2.2.1.kp KZ.out (by omega)).mono (by omega), (O7.out.2.2.2.1.kp KZ.out (by omega)).mono (by omega), (O7.out.2.2.2.2.kp KZ.out (by omega)).mono (by omega)⟩
  · have e : dugEv ks Wn Hn X = es ++ fs := by unfold dugEv; rw [HZ.out.1, HZ.out.2, HQ.out.2]
    rw [e]
    have h := LB.out
    exact (E7.out.kp9 KZ.out (by omega)).mono (by omega)
end Go.Proofs.YtolmfekefjnggaaDoor

namespace Go.Proofs.YtolmfekefjnggaaDoor
set_option linter.unusedVariables false

def ers (u : UnV) : UnV := loadU u 0
theorem ers_load (u : UnV) (n : Int) : ers (loadU u n) = ers u := rfl
theorem ers_set {l : List UnV} {i : Nat} {u : UnV} (h : l[i]? = some u) (n : Int) : (l.set i (loadU u n)).map ers = l.map ers := by
  apply List.ext_getElem?
  intro j
  rw [List.getElem?_map, List.getElem?_map, List.getElem?_set]
  split
  · rename_i e
    subst e
    split
    · rw [h]; rfl
    · rename_i h2
      rw [List.getElem?_eq_none (by omega)]
  · rfl
theorem tk_ers {ks : List KV} {Y : WV} : ∀ q, (tk ks Y q).1.us.map ers = Y.us.map ers
  | 0 => rfl
  | q + 1 => by
    have ih := tk_ers (ks := ks) (Y := Y) q
    cases hu : (tk ks Y q).1.us[q]? with
    | none => rw [tk]; simp only [hu]; exact ih
    | some u =>
      by_cases h : 0 < yieldN ks (tk ks Y q).1 u
      · rw [tk_yes hu h]
        show ((tk ks Y q).1.us.set q (loadU u _)).map ers = _
        rw [ers_set hu, ih]
      · rw [tk_no hu h]; exact ih
theorem br_keep {ks : List KV} {Wn Hn : Nat} {Y : WV} (hf : DFit ks Y) : ∀ q, BrK Y (br ks Wn Hn Y q).1 ∧ DFit ks (br ks Wn Hn Y q).1 ∧ (br ks Wn Hn Y q).1.us.map ers = Y.us.map ers
  | 0 => ⟨⟨rfl, rfl, rfl, rfl, rfl, rfl, rfl, rfl, rfl⟩, hf, rfl⟩
  | q + 1 => by
    obtain ⟨ih, i2, i3⟩ := br_keep (Wn := Wn) (Hn := Hn) hf q
    cases hu : (br ks Wn Hn Y q).1.us[q]? with
    | none => rw [br]; simp only [hu]; exact ⟨ih, i2, i3⟩
    | some u =>
      cases h : brings ks Wn Hn (br ks Wn Hn Y q).1 u with
      | true =>
        rw [br_yes hu h]
        obtain ⟨a1, a2, a3, a4, a5, a6, a7, a8, a9⟩ := ih
        refine ⟨⟨a1, a2, a3, a4, a5, a6, a7, by simpa [bringW] using a8, by simpa [bringW] using a9⟩, i2.bring hu, ?_⟩
        show ((br ks Wn Hn Y q).1.us.set q (loadU u 0)).map ers = _
        rw [ers_set hu, i3]
      | false => rw [br_no hu h]; exact ⟨ih, i2, i3⟩
theorem ers_at {l m : List UnV} (h : l.map ers = m.map ers) {i : Nat} {u : UnV} (hu : l[i]? = some u) : ∃ v, m[i]? = some v ∧ ers u = ers v := by
  have : (l.map ers)[i]? = some (ers u) := by rw [List.getElem?_map, hu]; rfl
  rw [h, List.getElem?_map] at this
  cases hv : m[i]? with
  | none => rw [hv] at this; cases this
  | some v =>
    rw [hv] at this
    injection this with this
    exact ⟨v, rfl, this.symm⟩
theorem ers_eq {u v : UnV} (h : ers u = ers v) : u.id = v.id ∧ u.player = v.player ∧ u.kind = v.kind ∧ u.at_ = v.at_ ∧ u.life = v.life ∧ u.task = v.task ∧ u.goal = v.goal := by
  unfold ers loadU at h
  injection h with h1 h2 h3 h4 h5 h6 h7 h8
  exact ⟨h1, h2, h3, h4, h5, h7, h8⟩
theorem ers_take {l m : List UnV} (h : l.map ers = m.map ers) (i : Nat) : (l.take i).map ers = (m.take i).map ers := by rw [List.map_take, List.map_take, h]
theorem ers_find {l m : List UnV} (h : l.map ers = m.map ers) (n : Int) : (l.find? (fun u => u.id == n)).map ers = (m.find? (fun u => u.id == n)).map ers := by
  induction l generalizing m with
  | nil =>
    cases m with
    | nil => rfl
    | cons _ _ => simp at h
  | cons u l ih =>
    cases m with
    | nil => simp at h
    | cons v m =>
      rw [List.map_cons, List.map_cons] at h
      injection h with h1 h2
      have e := (ers_eq h1).1
      rw [List.find?_cons, List.find?_cons, e]
      cases hh : (v.id == n) with
      | true => simp [h1]
      | false => exact ih h2
theorem right_ers {ks : List KV} {X Z : WV} (h : WRight ks X) (f : DFit ks Z) (k1 : Z.turn = X.turn) (k2 : Z.next = X.next) (k3 : Z.wide = X.wide) (k4 : Z.high = X.high) (k5 : Z.gs = X.gs) (k6 : Z.qs = X.qs) (k7 : Z.gold.length = X.gold.length) (e : Z.us.map ers = X.us.map ers) : Wd.wfault ks Z = 0 := by
  have hl : Z.us.length = X.us.length := by have := congrArg List.length e; simpa using this
  refine Wd.wfault_zero h.kinds ?_ ?_ (by rw [hl]; exact h.ul) ?_ (by rw [k6]; exact h.ql) ?_
  · obtain ⟨Wn, Hn, e1, e2, G⟩ := f.wide
    rw [e1, e2]
    exact Fd.fault_good G
  · have hn := h.nums
    unfold Wd.numsBad at hn ⊢
    rw [k1, k2, k7]
    simp only [Bool.or_eq_false_iff] at hn ⊢
    refine ⟨hn.1, hn.2.1, hn.2.2.1, ?_⟩
    rw [List.any_eq_false]
    intro g hg
    have := f.gold g hg
    unfold Wd.off
    simp
    omega
  · intro i u hu
    obtain ⟨v, hv, ev⟩ := ers_at e hu
    obtain ⟨q1, q2, q3, q4, q5, q6, q7⟩ := ers_eq ev
    obtain ⟨k, F⟩ := h.fine hv
    obtain ⟨⟨kn, k', e1, e2, l1, l2, l3⟩, -⟩ := f.units u (List.mem_of_getElem? hu)
    have ek : k' = k := by
      have h9 := F.kk
      rw [← q3, e1, Int.toNat_natCast, e2] at h9
      injection h9
    subst ek
    refine ⟨k', by rw [q1]; exact F.id1, by rw [q1, k2]; exact F.id2, ?_, by rw [q2, k7]; exact F.p, by rw [q3]; exact F.k0, by rw [q3]; exact F.kk, by rw [q5]; exact F.life, ⟨l1, l2⟩, by rw [q6]; exact F.task, by rw [q4, k5]; exact F.at_, by rw [q7, k5]; exact F.goal, ?_, by rw [q6, q7]; exact F.rest⟩
    · have hup := F.up
      cases i with
      | zero => rfl
      | succ i =>
        have hil : i < Z.us.length := by have := (List.getElem?_eq_some_iff.1 hu).1; omega
        obtain ⟨p, hp⟩ : ∃ p, Z.us[i]? = some p := ⟨_, List.getElem?_eq_getElem hil⟩
        obtain ⟨p', hp', ep⟩ := ers_at e hp
        simp only [Wd.notAbove, hp', decide_eq_false_iff_not] at hup
        simp only [Wd.notAbove, hp, decide_eq_false_iff_not]
        rw [q1, (ers_eq ep).1]
        exact hup
    · have ho := F.opn
      unfold Wd.open_ at ho ⊢
      rw [Bool.and_eq_true] at ho ⊢
      refine ⟨by rw [q4, k5]; exact ho.1, ?_⟩
      have h1 := ho.2
      rw [Bool.not_eq_true', List.any_eq_false] at h1 ⊢
      intro p hp
      obtain ⟨i', hi'⟩ := List.mem_iff_getElem?.1 hp
      obtain ⟨p', hp', ep⟩ := ers_at (ers_take e i) hi'
      rw [(ers_eq ep).2.2.2.1, q4]
      exact h1 p' (List.mem_of_getElem? hp')
  · intro j hj
    rw [k6] at hj
    have h1 := h.job hj
    unfold Wd.jobFault at h1 ⊢
    have h2 := ers_find e j.unit
    cases hz : Z.us.find? (fun u => u.id == j.unit) with
    | none =>
      rw [hz] at h2
      cases hx : X.us.find? (fun u => u.id == j.unit) with
      | none => rw [hx] at h1; exact h1
      | some v => rw [hx] at h2; cases h2
    | some u =>
      rw [hz] at h2
      cases hx : X.us.find? (fun u => u.id == j.unit) with
      | none => rw [hx] at h2; cases h2
      | some v =>
        rw [hx] at h2 h1
        injection h2 with h2
        obtain ⟨-, q2, q3, -⟩ := ers_eq h2
        simp only at h1 ⊢
        rw [q2, q3]
        exact h1
/-- behind digging a world is right. -/
theorem dug_keep {ks : List KV} {Wn Hn : Nat} {X : WV} (h : WRight ks X) : let Z := (tk ks X X.us.length).1; let Q := (br ks Wn Hn Z Z.us.length).1; Wd.wfault ks Q = 0 ∧ Q.turn = X.turn ∧ Q.next = X.next ∧ Q.wide = X.wide ∧ Q.high = X.high ∧ Q.gs = X.gs ∧ Q.qs = X.qs ∧ Q.gold.length = X.gold.length ∧ Q.us.length = X.us.length ∧ Q.os.length = X.os.length ∧ Q.us.map ers = X.us.map ers := by
  intro Z Q
  obtain ⟨a1, a2, a3, a4, a5, a6, a7, a8, a9⟩ := tk_keep (ks := ks) (Y := X) X.us.length
  obtain ⟨⟨b1, b2, b3, b4, b5, b6, b7, b8, b9⟩, f, e⟩ := br_keep (Wn := Wn) (Hn := Hn) (tk_fit h.dfit X.us.length) Z.us.length
  have eX : Q.us.map ers = X.us.map ers := e.trans (tk_ers X.us.length)
  have g : Q.gold.length = X.gold.length := by rw [b9, a6]
  refine ⟨right_ers h f (b1.trans a1) (b2.trans a2) (b3.trans a3) (b4.trans a4) (b5.trans a5) (b7.trans a7) g eX, b1.trans a1, b2.trans a2, b3.trans a3, b4.trans a4, b5.trans a5, b7.trans a7, g, b8.trans a8, by rw [b6]; exact a9, eX⟩
end Go.Proofs.YtolmfekefjnggaaDoor

namespace Go.Proofs.YtolmfekefjnggaaDoor
set_option linter.unusedVariables false

def sm : List Int → Int
  | [] => 0
  | x :: l => x + sm l
theorem sm_append (a b : List Int) : sm (a ++ b) = sm a + sm b := by
  induction a with
  | nil => simp [sm]
  | cons x l ih => simp only [List.cons_append, sm, ih]; omega
theorem sm_next {l : List Int} {n : Nat} {x : Int} (h : l[n]? = some x) : sm (l.take (n + 1)) = sm (l.take n) + x := by
  rw [List.take_add_one, h, sm_append]
  simp [sm]
theorem sm_set : ∀ (l : List Int) (i : Nat) (x y : Int), l[i]? = some x → sm (l.set i y) = sm l - x + y
  | [], i, x, y, h => by simp at h
  | a :: l, 0, x, y, h => by
    simp at h
    subst h
    simp only [List.set_cons_zero, sm]
    omega
  | a :: l, i + 1, x, y, h => by
    have h' : l[i]? = some x := by simpa using h
    simp only [List.set_cons_succ, sm, sm_set l i x y h']
    omega
theorem sm_le {B : Int} (hB : 0 ≤ B) : ∀ (l : List Int), (∀ x ∈ l, 0 ≤ x ∧ x ≤ B) → 0 ≤ sm l ∧ sm l ≤ B * (l.length : Int)
  | [], _ => by simp [sm]
  | x :: l, h => by
    have ih := sm_le hB l (fun y hy => h y (List.mem_cons_of_mem _ hy))
    have hx := h x (by simp)
    simp only [sm, List.length_cons]
    have e : B * ((l.length + 1 : Nat) : Int) = B * (l.length : Int) + B := by rw [Int.natCast_add, Int.mul_add]; simp
    rw [e]
    omega
def loads (Z : WV) : List Int := Z.us.map UnV.load
def tot (Z : WV) : Int := sm Z.os + sm (loads Z) + sm Z.gold
theorem loads_set {l : List UnV} {i : Nat} (u : UnV) (n : Int) : (l.set i (loadU u n)).map UnV.load = (l.map UnV.load).set i n := by rw [List.map_set]; rfl
theorem tot_take {ks : List KV} {Z : WV} (f : DFit ks Z) {i : Nat} {u : UnV} (hu : Z.us[i]? = some u) (n : Int) : tot (takeW Z i u n) = tot Z := by
  obtain ⟨-, ⟨an, ha, hal⟩, -⟩ := f.units u (List.mem_of_getElem? hu)
  obtain ⟨x, hx⟩ : ∃ x, Z.os[an]? = some x := ⟨_, List.getElem?_eq_getElem hal⟩
  unfold tot loads takeW
  simp only
  rw [loads_set, ha, Int.toNat_natCast, List.getD_eq_getElem?_getD, hx, Option.getD_some, sm_set Z.os an x _ hx, sm_set (Z.us.map UnV.load) i u.load _ (by rw [List.getElem?_map, hu]; rfl)]
  omega
/-- some Gold has come to its end. -/
def Full (Z : WV) : Prop := ∃ g ∈ Z.gold, g = 1000000
theorem tot_bring {ks : List KV} {Z : WV} (f : DFit ks Z) {i : Nat} {u : UnV} (hu : Z.us[i]? = some u) : tot (bringW Z i u) ≤ tot Z ∧ (tot (bringW Z i u) = tot Z ∨ Full (bringW Z i u)) ∧ (Full Z → Full (bringW Z i u)) := by
  obtain ⟨⟨kn, k, -, -, l1, -⟩, -, pn, hp, hpl⟩ := f.units u (List.mem_of_getElem? hu)
  obtain ⟨x, hx⟩ : ∃ x, Z.gold[pn]? = some x := ⟨_, List.getElem?_eq_getElem hpl⟩
  have e : tot (bringW Z i u) = tot Z - u.load - x + min (x + u.load) 1000000 := by
    unfold tot loads bringW
    simp only
    rw [loads_set, hp, Int.toNat_natCast, List.getD_eq_getElem?_getD, hx, Option.getD_some, sm_set Z.gold pn x _ hx, sm_set (Z.us.map UnV.load) i u.load _ (by rw [List.getElem?_map, hu]; rfl)]
    omega
  have eg : (bringW Z i u).gold = Z.gold.set pn (min (x + u.load) 1000000) := by
    unfold bringW
    simp only
    rw [hp, Int.toNat_natCast, List.getD_eq_getElem?_getD, hx, Option.getD_some]
  have gx := f.gold x (List.mem_of_getElem? hx)
  have at_ : (Z.gold.set pn (min (x + u.load) 1000000))[pn]? = some (min (x + u.load) 1000000) := List.getElem?_set_self hpl
  refine ⟨by rw [e]; omega, ?_, ?_⟩
  · by_cases h : x + u.load ≤ 1000000
    · left; rw [e]; omega
    · right
      exact ⟨_, by rw [eg]; exact List.mem_of_getElem? at_, by omega⟩
  · rintro ⟨g, hg, rfl⟩
    obtain ⟨q, hq⟩ := List.mem_iff_getElem?.1 hg
    by_cases h : q = pn
    · subst h
      rw [hx] at hq
      injection hq with hq
      subst hq
      exact ⟨_, by rw [eg]; exact List.mem_of_getElem? at_, by omega⟩
    · exact ⟨1000000, by rw [eg]; exact List.mem_of_getElem? (i := q) (by rw [List.getElem?_set_ne (fun e => h e.symm)]; exact hq), rfl⟩
theorem tk_tot {ks : List KV} {Y : WV} (hf : DFit ks Y) : ∀ q, tot (tk ks Y q).1 = tot Y ∧ ∀ e ∈ (tk ks Y q).2, 1 ≤ e.arg ∧ e.what = 4
  | 0 => ⟨rfl, by intro e he; cases he⟩
  | q + 1 => by
    obtain ⟨i1, i2⟩ := tk_tot hf q
    cases hu : (tk ks Y q).1.us[q]? with
    | none => rw [tk]; simp only [hu]; exact ⟨i1, i2⟩
    | some u =>
      by_cases h : 0 < yieldN ks (tk ks Y q).1 u
      · rw [tk_yes hu h]
        refine ⟨by rw [tot_take (tk_fit hf q) hu]; exact i1, fun e he => ?_⟩
        rcases List.mem_append.1 he with he | he
        · exact i2 e he
        · simp only [List.mem_singleton] at he
          subst he
          exact ⟨by show 1 ≤ yieldN ks _ u; omega, rfl⟩
      · rw [tk_no hu h]; exact ⟨i1, i2⟩
theorem br_tot {ks : List KV} {Wn Hn : Nat} {Y : WV} (hf : DFit ks Y) : ∀ q, tot (br ks Wn Hn Y q).1 ≤ tot Y ∧ (tot (br ks Wn Hn Y q).1 = tot Y ∨ Full (br ks Wn Hn Y q).1) ∧ ∀ e ∈ (br ks Wn Hn Y q).2, 1 ≤ e.arg ∧ e.what = 5
  | 0 => ⟨Int.le_refl _, .inl rfl, by intro e he; cases he⟩
  | q + 1 => by
    obtain ⟨i1, i2, i3⟩ := br_tot (Wn := Wn) (Hn := Hn) hf q
    have f := (br_keep (Wn := Wn) (Hn := Hn) hf q).2.1
    cases hu : (br ks Wn Hn Y q).1.us[q]? with
    | none => rw [br]; simp only [hu]; exact ⟨i1, i2, i3⟩
    | some u =>
      cases h : brings ks Wn Hn (br ks Wn Hn Y q).1 u with
      | true =>
        rw [br_yes hu h]
        obtain ⟨t1, t2, t3⟩ := tot_bring f hu
        refine ⟨Int.le_trans t1 i1, ?_, fun e he => ?_⟩
        · rcases i2 with i2 | i2
          · rcases t2 with t2 | t2
            · exact .inl (t2.trans i2)
            · exact .inr t2
          · exact .inr (t3 i2)
        · rcases List.mem_append.1 he with he | he
          · exact i3 e he
          · simp only [List.mem_singleton] at he
            subst he
            unfold brings at h
            rw [Bool.and_eq_true] at h
            have := of_decide_eq_true h.1
            exact ⟨by show 1 ≤ u.load; omega, rfl⟩
      | false => rw [br_no hu h]; exact ⟨i1, i2, i3⟩
end Go.Proofs.YtolmfekefjnggaaDoor

namespace Go.Proofs.YtolmfekefjnggaaDoor
set_option linter.unusedVariables false

/-- what sums of a right world may come to. -/
structure SB (Z : WV) : Prop where
  os : ∀ n, 0 ≤ sm (Z.os.take n) ∧ sm (Z.os.take n) ≤ 144000000
  ls : ∀ n, 0 ≤ sm ((loads Z).take n) ∧ sm ((loads Z).take n) ≤ 40000
  gs : ∀ n, 0 ≤ sm (Z.gold.take n) ∧ sm (Z.gold.take n) ≤ 4000000
  o1 : ∀ x ∈ Z.os, 0 ≤ x ∧ x ≤ 1000000
  l1 : ∀ x ∈ loads Z, 0 ≤ x ∧ x ≤ 1000
  g1 : ∀ x ∈ Z.gold, 0 ≤ x ∧ x ≤ 1000000
  ol : Z.os.length ≤ 144
  ul : Z.us.length ≤ 40
  gl : Z.gold.length ≤ 4
  ql : Z.qs.length ≤ 12
theorem sm_part {B : Int} {l : List Int} {m : Nat} (hB : 0 ≤ B) (h : ∀ x ∈ l, 0 ≤ x ∧ x ≤ B) (hl : l.length ≤ m) (n : Nat) : 0 ≤ sm (l.take n) ∧ sm (l.take n) ≤ B * (m : Int) := by
  have h1 := sm_le hB (l.take n) (fun x hx => h x (List.mem_of_mem_take hx))
  have h2 : (l.take n).length ≤ m := by rw [List.length_take]; omega
  have h3 : B * ((l.take n).length : Int) ≤ B * (m : Int) := Int.mul_le_mul_of_nonneg_left (by omega) hB
  omega
theorem sb_of {ks : List KV} {Z : WV} (h : WRight ks Z) : SB Z := by
  have f := h.dfit
  obtain ⟨Wn, Hn, e1, e2, G⟩ := f.wide
  have ol : Z.os.length ≤ 144 := by
    rw [G.ol]
    have h1 : Wn * Hn ≤ 12 * 12 := Nat.mul_le_mul G.w2 G.h2
    omega
  have o1 : ∀ x ∈ Z.os, 0 ≤ x ∧ x ≤ 1000000 := fun x hx => by
    obtain ⟨i, hi⟩ := List.mem_iff_getElem?.1 hx
    exact f.ore hi
  have l1 : ∀ x ∈ loads Z, 0 ≤ x ∧ x ≤ 1000 := fun x hx => by
    obtain ⟨u, hu, rfl⟩ := List.mem_map.1 hx
    obtain ⟨⟨kn, k, -, -, a, b, c⟩, -⟩ := f.units u hu
    omega
  have gl : Z.gold.length ≤ 4 := by
    have n := h.nums
    unfold Wd.numsBad at n
    simp only [Bool.or_eq_false_iff, Bool.not_eq_false', decide_eq_true_eq] at n
    obtain ⟨-, -, ⟨g1, g2⟩, -⟩ := n
    omega
  have ll : (loads Z).length ≤ 40 := by unfold loads; rw [List.length_map]; exact h.ul
  exact ⟨fun n => by have := sm_part (B := 1000000) (m := 144) (by decide) o1 ol n; omega, fun n => by have := sm_part (B := 1000) (m := 40) (by decide) l1 ll n; omega, fun n => by have := sm_part (B := 1000000) (m := 4) (by decide) f.gold gl n; omega, o1, l1, f.gold, ol, h.ul, gl, h.ql⟩
/-- what Dig leaves, all together. -/
structure DugF (ks : List KV) (X Y : WV) (es : List EvV) : Prop where
  r : WRight ks Y
  ul : Y.us.length = X.us.length
  ol : Y.os.length = X.os.length
  gl : Y.gold.length = X.gold.length
  le : tot Y ≤ tot X
  eq : tot Y = tot X ∨ Full Y
  ev : ∀ e ∈ es, 1 ≤ e.arg ∧ (e.what = 4 ∨ e.what = 5)
  el : es.length ≤ 80
end Go.Proofs.YtolmfekefjnggaaDoor

namespace Go.Proofs.YtolmfekefjnggaaDoor
open Go.RowKit
set_option linter.unusedVariables false
set_option maxRecDepth 100000

theorem im_law : Maps.Keyed Tryd.prog 3 := Maps.int_keyed Tryd.underlying3
theorem im_key {p : Int} (hp : (Lit.int .i64 p).wf = true) : ∃ kl, keyOf Tryd.prog 3 (.int .i64 p) = some kl := ⟨_, Maps.keyOf_int_mk Tryd.underlying3 hp⟩
theorem im_zero (w : World) : (zeroValue 3).run Tryd.prog w = .ok (.int .i64 0) w := by kernel_rfl
theorem wfi64 {n : Int} (h0 : -9223372036854775808 ≤ n) (h1 : n ≤ 9223372036854775807) : (Lit.int .i64 n).wf = true := WalkArith.wf_i64 (by omega)
/-- block b is a map: f tells what stands at each number. -/
def Im (w : World) (b n : Nat) (f : Int → Int) : Prop := ∃ D : DataW Unit, w.ownsMap Tryd.prog 3 (plainElem Tryd.prog 3) b n D ∧ Maps.IsMap D ∧ ∀ p kl, keyOf Tryd.prog 3 (.int .i64 p) = some kl → D.atKey kl (.lit (.int .i64 0)) = .lit (.int .i64 (f p))
def updI (f : Int → Int) (p v : Int) : Int → Int := fun p' => if p' = p then v else f p'
theorem im_made (w : World) : Im (w.alloc (.map #[] 0)) w.heap.size 0 (fun _ => 0) :=
  ⟨.map [], World.ownsMap_made _ _ _ _, Maps.isMap_empty, fun p kl _ => Maps.atKey_of_not_has rfl _⟩
theorem Im.lt {w : World} {b n : Nat} {f : Int → Int} (h : Im w b n f) : b < w.heap.size := by
  obtain ⟨D, h1, -⟩ := h
  exact h1.lt
theorem Im.gb {w w' : World} {b n : Nat} {f : Int → Int} {r : Option Nat} (h : Im w b n f) (g : w.grownBy w' r) (hr : some b ≠ r) : Im w' b n f := by
  obtain ⟨D, h1, h2⟩ := h
  exact ⟨D, h1.kept g hr, h2⟩
theorem Im.below {w w' : World} {b n : Nat} {f : Int → Int} (h : Im w b n f) (g : Below w.heap.size w w') : Im w' b n f :=
  h.gb (r := none) ⟨g.os, g.tape, g.output, g.size, fun k hk _ => g.block k hk⟩ (by simp)
theorem Im.put {w : World} {b n : Nat} {f : Int → Int} (h : Im w b n f) (hn : n < maxLen) {p v : Int} (hp : (Lit.int .i64 p).wf = true) (hv : (Lit.int .i64 v).wf = true) :
    ∃ w', (Instr.mapUpdate 61 (.map (some b)) (.int .i64 p) (.int .i64 v)).run Tryd.prog w = .ok () w' ∧ Im w' b (n + 1) (updI f p v) ∧ w.grownBy w' (some b) := by
  obtain ⟨D, h1, hD, h2⟩ := h
  obtain ⟨kl, hk⟩ := im_key hp
  obtain ⟨w', r, o, g⟩ := World.ownsMap.update h1 im_law Tryd.underlying61 hn hk (plainElem_int Tryd.underlying3 hv)
  refine ⟨w', r, ⟨_, o, hD.put _ _, fun p' kl' hk' => ?_⟩, g⟩
  unfold updI
  by_cases e : kl' = kl
  · subst e
    have ei := im_law.inj hk hk'
    simp only [Value.int.injEq, true_and] at ei
    rw [if_pos ei.symm]
    exact Maps.atKey_put_same hD (im_law.key hk) _ _
  · rw [Maps.atKey_put_other e, if_neg, h2 p' kl' hk']
    rintro rfl
    exact e (Option.some.inj (hk'.symm.trans hk))
theorem Im.look {w : World} {b n : Nat} {f : Int → Int} (h : Im w b n f) {p : Int} (hp : (Lit.int .i64 p).wf = true) :
    (Instr.lookup 61 (.map (some b)) (.int .i64 p) false).run Tryd.prog w = .ok (.int .i64 (f p)) w := by
  obtain ⟨D, h1, hD, h2⟩ := h
  obtain ⟨kl, hk⟩ := im_key hp
  obtain ⟨c, hr, hat, -⟩ := h1.lookup_int im_law Tryd.underlying61 Tryd.underlying3 (im_zero w) hk
  rw [h2 p kl hk] at hat
  injection hat with e
  injection e with _ e
  rw [e]
  exact hr
end Go.Proofs.YtolmfekefjnggaaDoor

namespace Go.Proofs.YtolmfekefjnggaaDoor
open Go.RowKit
set_option linter.unusedVariables false

set_option maxRecDepth 100000 in
set_option maxHeartbeats 4000000 in
theorem isfirst_any (j : JbV) (bc bm n : Nat) (f : Int → Int) (w : World) (hc : w.cell? ⟨bc, 0, none⟩ = some (.map (some bm))) (hm : Im w bm n f) (hne : bc ≠ bm) (hn : n ≤ 1000) (hf : 0 ≤ f j.unit ∧ f j.unit ≤ 1000) (hu : (Lit.int .i64 j.unit).wf = true) :
    Calls Tryd.prog 25 #[j.val, .pointer (some ⟨bc, 0, none⟩)] w fun e w' => ∃ b : Bool, b = (f j.unit == 0) ∧ e = .returned (.bool b) ∧ Im w' bm (n + 1) (updI f j.unit (f j.unit + 1)) ∧ Fr (fun q => q = bm) w w' := by
  have HC : Hid (w.cell? ⟨bc, 0, none⟩ = some (.map (some bm))) := hc
  have HM : Hid (Im w bm n f) := hm
  have WF : Hid ((Lit.int .i64 j.unit).wf = true ∧ (Lit.int .i64 (f j.unit + 1)).wf = true) := ⟨hu, wfi64 (by omega) (by omega)⟩
  obtain ⟨fu, hfu⟩ : ∃ x, f j.unit = x := ⟨_, rfl⟩
  have FU : Hid (f j.unit = fu) := hfu
  rw [hfu] at hf
  clear hc hm hu hfu
  unfold JbV.val
  go_enter Tryd.func25, Tryd.ntmps25
  go_upto_region 1 with fail
  have B1 : Hid (Below w.heap.size w (w.alloc (Obj.cells #[.int .i64 j.player, .int .i64 j.unit, .int .i64 j.kind, .int .i64 j.left] 63))) := (Below.refl _ _).alloc (Nat.le_refl _) _
  obtain ⟨z, hz⟩ : ∃ z, w.heap.size = z := ⟨_, rfl⟩
  have X1 : Hid (Jbc (w.alloc (Obj.cells #[.int .i64 j.player, .int .i64 j.unit, .int .i64 j.kind, .int .i64 j.left] 63)) ⟨z, 0, none⟩ j) := Jbc.mk' (w := w) j hz
  have ZM : Hid (bm < z ∧ bc < z) := by unfold Hid; rw [← hz]; exact ⟨HM.out.lt, cell_lt HC.out⟩
  rw [hz]
  clear hz
  generalize w.alloc (Obj.cells #[.int .i64 j.player, .int .i64 j.unit, .int .i64 j.kind, .int .i64 j.left] 63) = w1 at *
  have c1 : w1.cell? ⟨bc, 0, none⟩ = some (.map (some bm)) := by rw [B1.out.cell (p := ⟨bc, 0, none⟩) (cell_lt HC.out)]; exact HC.out
  have m1 := HM.out.below B1.out
  have j1 : w1.cell? ⟨z, 1, none⟩ = some (.int .i64 j.unit) := X1.out.c1
  have l1 := m1.look WF.out.1
  rw [FU.out] at l1
  obtain ⟨w2, u2, o2, g2⟩ := m1.put (by unfold maxLen; omega) WF.out.1 WF.out.2
  rw [FU.out] at u2
  have M2 : Hid (Im w2 bm (n + 1) (updI f j.unit (f j.unit + 1))) := o2
  have G2 : Hid (w1.grownBy w2 (some bm)) := g2
  have L2 := o2.look WF.out.1
  have e2 : updI f j.unit (f j.unit + 1) j.unit = fu + 1 := by unfold updI; rw [if_pos rfl, FU.out]
  rw [e2] at L2
  have c2 : w2.cell? ⟨bc, 0, none⟩ = some (.map (some bm)) := by
    have := G2.out.block bc (Nat.lt_trans ZM.out.2 X1.out.lt) (by simp; omega)
    unfold World.cell? at c1 ⊢
    rw [this]
    exact c1
  have j2 : w2.cell? ⟨z, 1, none⟩ = some (.int .i64 j.unit) := by
    have := G2.out.block z X1.out.lt (by simp; have := ZM.out; omega)
    unfold World.cell? at j1 ⊢
    rw [this]
    exact j1
  have wf1 : IntKind.i64.wrap (fu + 1) = fu + 1 := by rw [IntKind.wrap_i64]; omega
  have FR : Hid (Fr (fun q => q = bm) w w2) := (Fr.below B1.out).trans (Fr.gb G2.out (fun k hk => by injection hk with hk; exact hk.symm))
  clear m1 o2 g2 e2
  by_cases h0 : fu = 0
  · subst h0
    simp only [Int.zero_add] at u2 L2 wf1
    go_wp2
    go_ret
    exact ⟨true, by rw [FU.out]; rfl, rfl, by rw [FU.out] at M2; rw [FU.out]; exact M2.out, FR.out⟩
  · have h1 : (fu + 1 == 1) = false := by rw [beq_eq_false_iff_ne]; omega
    have h1' : ¬ fu + 1 = 1 := by omega
    go_wp2
    go_ret
    exact ⟨false, by rw [FU.out]; exact (beq_eq_false_iff_ne.2 h0).symm, rfl, by rw [FU.out] at M2; rw [FU.out]; exact M2.out, FR.out⟩
end Go.Proofs.YtolmfekefjnggaaDoor

namespace Go.Proofs.YtolmfekefjnggaaDoor
open Go.RowKit
set_option linter.unusedVariables false

/-- v is a slice of n lists: the i-th is nb i. -/
def Bs (w : World) (v : Value) (n : Nat) (nb : Nat → List Int) : Prop := ∃ x c, v = .slice (some x) n c ∧ n ≤ c ∧ c ≤ 9223372036854775807 ∧ ∀ i, i < n → ∃ u, w.cell? (x.add i) = some u ∧ Ro w u (nb i)
theorem Bs.below {w w' : World} {v : Value} {n : Nat} {nb : Nat → List Int} (h : Bs w v n nb) (hb : Below w.heap.size w w') : Bs w' v n nb := by
  obtain ⟨x, c, h1, h2, h3, h4⟩ := h
  refine ⟨x, c, h1, h2, h3, fun i hi => ?_⟩
  obtain ⟨u, hu, hr⟩ := h4 i hi
  have := cell_lt hu
  exact ⟨u, by rw [hb.cell (p := x.add i) this]; exact hu, hr.below hb⟩
/-- v is a land. -/
def Ld (w : World) (v : Value) (n : Nat) (nb : Nat → List Int) (ss : List Int) : Prop := ∃ u1 u2, v = .agg #[u1, u2] ∧ Bs w u1 n nb ∧ Ro w u2 ss ∧ ss.length = n
theorem Ld.below {w w' : World} {v : Value} {n : Nat} {nb : Nat → List Int} {ss : List Int} (h : Ld w v n nb ss) (hb : Below w.heap.size w w') : Ld w' v n nb ss := by
  obtain ⟨u1, u2, h1, h2, h3, h4⟩ := h
  exact ⟨u1, u2, h1, h2.below hb, h3.below hb, h4⟩

/-- a land in a box. -/
structure Bl (w : World) (z : Nat) (u1 u2 : Value) : Prop where
  c0 : w.cell? ⟨z, 0, none⟩ = some u1
  c1 : w.cell? ⟨z, 1, none⟩ = some u2
theorem Bl.lt {w : World} {z : Nat} {u1 u2 : Value} (h : Bl w z u1 u2) : z < w.heap.size := cell_lt h.c0
theorem Bl.mk' {w : World} {z : Nat} (u1 u2 : Value) (hz : w.heap.size = z) : Bl (w.alloc (.cells #[u1, u2] 164)) z u1 u2 := by
  subst hz
  exact ⟨by simp, by simp⟩
theorem Bl.below {w w' : World} {z B : Nat} {u1 u2 : Value} (h : Bl w z u1 u2) (hb : Below B w w') (hz : z < B) : Bl w' z u1 u2 :=
  ⟨by rw [hb.cell (p := ⟨z, 0, none⟩) hz]; exact h.c0, by rw [hb.cell (p := ⟨z, 1, none⟩) hz]; exact h.c1⟩
theorem Bl.kp {w w' : World} {z b : Nat} {u1 u2 : Value} (h : Bl w z u1 u2) (hk : Kp b w w') (hz : z ≠ b) : Bl w' z u1 u2 := by
  have e := hk.block z h.lt hz
  exact ⟨by rw [World.cell?_of_block (w := w) (a := ⟨z, 0, none⟩) e]; exact h.c0, by rw [World.cell?_of_block (w := w) (a := ⟨z, 1, none⟩) e]; exact h.c1⟩
end Go.Proofs.YtolmfekefjnggaaDoor

namespace Go.Proofs.YtolmfekefjnggaaDoor
open Go.RowKit
set_option linter.unusedVariables false

theorem info_ints : (Tryd.prog.info? 23).map (fun i => (i.zero, i.size, i.bytes)) = some (some (.slice none 0 0), 1, 24) := by kernel_rfl

/-- one more list. -/
theorem app_list {ops : Array Oper} {rest : List Oper} {o : Oper} {a : Act} {Q : Exit → Act → World → Prop} (w : World) (hgd : o.guard = none) (s x : Operand)
    (ho : o.op = .call { callee := .builtin .append, args := #[s, x], argTypes := #[162, 162] }) (base : Nat) (v : Value) (us : List Value) (hs : a.eval s = v) (hown : w.ownsRow base 23 1 v us.length us)
    (ad : Addr) (u : Value) (hx : a.eval x = .slice (some ad) 1 1) (hd : w.cell? ad = some u) (hu : u.oneCell' = true) (hl : us.length ≤ 1000000) (hbase : base ≤ w.heap.size)
    (h : ∀ g cap w', w'.ownsRow base 23 1 (.slice (some ⟨g, 0, none⟩) (us.length + 1) cap) (us.length + 1) (us ++ [u]) → w.grownBy w' v.ownBlock → (v.ownBlock = some g ∨ g = w.heap.size) → g < w'.heap.size → wpList Tryd.prog ops Q rest (a.put o.dst (.slice (some ⟨g, 0, none⟩) (us.length + 1) cap)) w') :
    wpList Tryd.prog ops Q (o :: rest) a w := by
  obtain ⟨i0, hi, hz0, hz1, hz2⟩ := info_parts info_ints
  refine wpList_append_lies w hgd s x 162 ho base 23 i0 (.slice none 0 0) 1 24 Tryd.underlying162 hi hz0 hz1 hz2 rfl (by decide) v us.length _ hs hown ad 1 1 [u] hx rfl ?_ ?_ (by decide) (by unfold maxLen; omega) (by omega) hbase _ rfl ?_
  · intro j e hj
    match j, hj with
    | 0, hj => simp at hj; subst hj; exact hd
  · intro e he
    simp at he
    subst he
    exact hu
  · intro g cap w' h1 h2 h3 h4
    exact h g cap w' h1 h2 h3 h4

/-- u lies elsewhere than v. -/
def Apart (u v : Value) : Prop := u.ownBlock = none ∨ u.ownBlock ≠ v.ownBlock
theorem Apart.app {u v : Value} {z g n cap : Nat} (h : Apart u v) (hu : ∀ k, u.ownBlock = some k → k < z) (hg : v.ownBlock = some g ∨ g = z) : Apart u (.slice (some ⟨g, 0, none⟩) n cap) := by
  rcases h with h | h
  · exact .inl h
  · cases hb : u.ownBlock with
    | none => exact .inl hb
    | some k =>
      refine .inr ?_
      intro e
      rw [hb] at e
      simp only [Value.ownBlock, Option.some.injEq] at e
      rcases hg with hg | hg
      · exact h (by rw [hg, hb, e])
      · have := hu k hb
        omega
/-- what is new lies elsewhere. -/
theorem Apart.fresh {w' : World} {u v : Value} {xs : List Int} {z : Nat} (hu : Ow w' z u xs) (hv : ∀ k, v.ownBlock = some k → k < z) : Apart u v := by
  cases hb : u.ownBlock with
  | none => exact .inl hb
  | some k =>
    refine .inr fun e => ?_
    have h1 := (hu.block k hb).1
    rw [hb] at e
    have h2 := hv k e.symm
    omega

/-- of the first k cells. -/
structure Wds (w : World) (base : Nat) (v4 v5 : Value) (us : List Value) (nb : Nat → List Int) (ss : List Int) : Prop where
  o4 : w.ownsRow base 23 1 v4 us.length us
  o5 : Ow w base v5 ss
  e45 : Apart v5 v4
  e54 : Apart v4 v5
  each : ∀ i u, us[i]? = some u → Ow w base u (nb i) ∧ Apart u v4 ∧ Apart u v5

theorem Wds.below {w w' : World} {base : Nat} {v4 v5 : Value} {us : List Value} {nb : Nat → List Int} {ss : List Int} (h : Wds w base v4 v5 us nb ss) (hb : Below w.heap.size w w') : Wds w' base v4 v5 us nb ss :=
  ⟨World.ownsRow.kept h.o4 (row := none) ⟨hb.os, hb.tape, hb.output, hb.size, fun k hk _ => hb.block k hk⟩ (by cases v4.ownBlock <;> simp), h.o5.below hb, h.e45, h.e54, fun i u hu => ⟨(h.each i u hu).1.below hb, (h.each i u hu).2⟩⟩
theorem Wds.kp {w w' : World} {base z : Nat} {v4 v5 : Value} {us : List Value} {nb : Nat → List Int} {ss : List Int} (h : Wds w base v4 v5 us nb ss) (hk : Kp z w w') (hz : z < base) : Wds w' base v4 v5 us nb ss := by
  have hg : w.grownBy w' (some z) := ⟨hk.os, hk.tape, hk.output, hk.size, fun k h1 h2 => hk.block k h1 (fun e => h2 (by rw [e]))⟩
  have ne : ∀ {u : Value} {xs : List Int}, Ow w base u xs → u.ownBlock = none ∨ u.ownBlock ≠ some z := fun {u} {xs} ho => by
    cases hb : u.ownBlock with
    | none => exact .inl rfl
    | some k =>
      have := (ho.block k hb).1
      exact .inr (by simp; omega)
  have ne4 : v4.ownBlock = none ∨ v4.ownBlock ≠ some z := by
    cases hb : v4.ownBlock with
    | none => exact .inl rfl
    | some k =>
      have := (World.ownsRow.lt h.o4 k hb).1
      exact .inr (by simp; omega)
  exact ⟨World.ownsRow.kept h.o4 hg ne4, h.o5.kept hg (ne h.o5), h.e45, h.e54, fun i u hu => ⟨(h.each i u hu).1.kept hg (ne (h.each i u hu).1), (h.each i u hu).2⟩⟩
theorem Wds.start (w : World) (base : Nat) (nb : Nat → List Int) : Wds w base (.slice none 0 0) (.slice none 0 0) [] nb [] :=
  ⟨World.ownsRow_nil _ _ _ _, Ow.nil _ _, .inl rfl, .inl rfl, fun i u hu => by simp at hu⟩
theorem Wds.bs {w : World} {base n : Nat} {v4 v5 : Value} {us : List Value} {nb : Nat → List Int} {ss : List Int} (h : Wds w base v4 v5 us nb ss) (hl : us.length = n) (h0 : 0 < n) : Bs w v4 n nb := by
  rcases h.o4.2 with ⟨_, e⟩ | ⟨g, cap, cur, hv, hb, hg, h1, h2, h3, h4⟩
  · omega
  · refine ⟨⟨g, 0, none⟩, cap, by rw [hv, hl], by omega, by unfold maxLen at h2; omega, fun i hi => ?_⟩
    obtain ⟨u, hu⟩ : ∃ u, us[i]? = some u := ⟨us[i]'(by omega), List.getElem?_eq_getElem _⟩
    refine ⟨u, ?_, (h.each i u hu).1.ro⟩
    rw [Addr.add_lit, Nat.zero_add]
    simp only [World.cell?, hg]
    rw [← h4, List.getElem?_take, if_pos (by omega)] at hu
    rw [← Array.getElem?_toList]
    simpa using hu
/-- one list more. -/
theorem Wds.list {w w' : World} {base g cap : Nat} {v4 v5 u : Value} {us : List Value} {nb : Nat → List Int} {ss : List Int} (h : Wds w base v4 v5 us nb ss) (hu : Ow w base u (nb us.length)) (a4 : Apart u v4) (a5 : Apart u v5)
    (ho : w'.ownsRow base 23 1 (.slice (some ⟨g, 0, none⟩) (us.length + 1) cap) (us.length + 1) (us ++ [u])) (hg : w.grownBy w' v4.ownBlock) (hat : v4.ownBlock = some g ∨ g = w.heap.size) :
    Wds w' base (.slice (some ⟨g, 0, none⟩) (us.length + 1) cap) v5 (us ++ [u]) nb ss := by
  have lt : ∀ {u : Value} {xs : List Int}, Ow w base u xs → ∀ k, u.ownBlock = some k → k < w.heap.size := fun h k hk => (h.block k hk).2
  refine ⟨by rw [List.length_append]; exact ho, h.o5.kept hg h.e45, h.e45.app (lt h.o5) hat, ?_, fun i e he => ?_⟩
  · rcases hat with hat | hat
    · rcases h.e54 with h1 | h1
      · rw [hat] at h1; cases h1
      · exact .inr (by rw [hat] at h1; exact h1)
    · refine .inr fun e => ?_
      have := (h.o5.block g (by rw [← e]; rfl)).2
      omega
  · rw [List.getElem?_append] at he
    split at he
    · have k := h.each i e he
      exact ⟨k.1.kept hg k.2.1, k.2.1.app (lt k.1) hat, k.2.2⟩
    · rename_i hi
      have hi0 : i = us.length := by
        have := (List.getElem?_eq_some_iff.1 he).1
        simp at this
        omega
      subst hi0
      simp at he
      subst he
      exact ⟨hu.kept hg a4, a4.app (lt hu) hat, a5⟩
/-- one number more. -/
theorem Wds.num {w w' : World} {base g cap : Nat} {v4 v5 : Value} {us : List Value} {nb : Nat → List Int} {ss : List Int} {d : Int} (h : Wds w base v4 v5 us nb ss)
    (ho : Ow w' base (.slice (some ⟨g, 0, none⟩) (ss.length + 1) cap) (ss ++ [d])) (hg : w.grownBy w' v5.ownBlock) (hat : v5.ownBlock = some g ∨ g = w.heap.size) :
    Wds w' base v4 (.slice (some ⟨g, 0, none⟩) (ss.length + 1) cap) us nb (ss ++ [d]) := by
  have lt : ∀ {u : Value} {xs : List Int}, Ow w base u xs → ∀ k, u.ownBlock = some k → k < w.heap.size := fun h k hk => (h.block k hk).2
  have lt4 : ∀ k, v4.ownBlock = some k → k < w.heap.size := fun k hk => (World.ownsRow.lt h.o4 k hk).2
  refine ⟨World.ownsRow.kept h.o4 hg h.e54, ho, ?_, h.e54.app lt4 hat, fun i e he => ?_⟩
  · rcases hat with hat | hat
    · rcases h.e45 with h1 | h1
      · rw [hat] at h1; cases h1
      · exact .inr (by rw [hat] at h1; exact h1)
    · refine .inr fun e => ?_
      have := lt4 g (by rw [← e]; rfl)
      omega
  · have k := h.each i e he
    exact ⟨k.1.kept hg k.2.2, k.2.1, k.2.2.app (lt k.1) hat⟩

set_option maxHeartbeats 1000000 in
theorem Ways_bad (v : Value) (W H : Int) (gs os : List Int) (F : Int) (fl : Bool) (w : World) (h : Fl w v W H gs os) (hF : Fd.fault W H gs os = F) (h0 : F ≠ 0) :
    Calls Tryd.prog 105 #[v, .bool fl] w fun e w' => e = .returned (.tuple #[.slice none 0 0, .slice none 0 0, .iface 69 (.int .i64 F)]) ∧ Below w.heap.size w w' := by
  have F0 : Hid (Fl w v W H gs os) := h
  have HF : Hid (Fd.fault W H gs os = F) := hF
  have H0 : Hid (F ≠ 0) := h0
  obtain ⟨u1, u2, rfl, ⟨a1, c, rfl, c1, c2, ca⟩, ⟨b1, d, rfl, d1, d2, cb⟩⟩ := h
  clear hF h0 ca cb
  go_enter Tryd.func105, Tryd.ntmps105
  go_wp2_with fail
  refine (check_any _ W H gs os _ (F0.out.below ((Below.refl _ _).alloc (Nat.le_refl _) _))).mono ?_
  rintro e w1 ⟨v1, rfl, hv, hb⟩
  have B1 : Hid (Below w.heap.size w w1) := ((Below.refl _ _).alloc (Nat.le_refl _) _).trans (hb.mono (by simp))
  rw [HF.out] at hv
  clear hb
  rcases hv with ⟨hz, rfl⟩ | ⟨hz, rfl⟩
  · exact absurd hz H0.out
  · clear hz
    go_wp2
    go_ret3
    exact ⟨rfl, B1⟩

set_option maxHeartbeats 2000000 in
theorem Ways_ok (v : Value) (W H : Nat) (gs os : List Int) (fl : Bool) (w : World) (h : Fl w v W H gs os) (G : Fd.Good W H gs os) (hs : Sd w) :
    Calls Tryd.prog 105 #[v, .bool fl] w fun e w' => ∃ u1 u2 us, e = .returned (.tuple #[u1, u2, .nilIface]) ∧ us.length = W * H ∧ Wds w' (w.heap.size + 1) u1 u2 us (Fd.near W H) (gs.map fun g => Fd.onto g fl) ∧ Below w.heap.size w w' := by
  have F0 : Hid (Fl w v W H gs os) := h
  have S0 : Hid (Sd w) := hs
  have G0 : Hid (Fd.Good W H gs os) := G
  obtain ⟨u1, u2, rfl, ⟨a1, c, rfl, c1, c2, ca⟩, ⟨b1, d, rfl, d1, d2, cb⟩⟩ := h
  have gl := G.gl
  have gp := G.pos
  obtain ⟨x, rfl, xl, hx⟩ := ca (by intro e; rw [e] at gl; simp at gl; omega)
  have Hx : Hid ((∀ (i : Nat) d, gs[i]? = some d → w.cell? (x.add i) = some (.int .i64 d)) ∧ x.block < w.heap.size) := ⟨hx, xl⟩
  have gl2 : gs.length ≤ 144 := by omega
  have Gl : Hid (gs.length = W * H) := gl
  clear cb ca hs hx xl G gl gp
  go_enter Tryd.func105, Tryd.ntmps105
  go_wp2_with fail
  refine (check_any _ W H gs os _ (F0.out.below ((Below.refl _ _).alloc (Nat.le_refl _) _))).mono ?_
  rintro e w1 ⟨v1, rfl, hv, hb⟩
  have B1 : Hid (Below w.heap.size w w1) := ((Below.refl _ _).alloc (Nat.le_refl _) _).trans (hb.mono (by simp))
  have X1 : Hid (Bf w1 w.heap.size W H (Value.slice (some x) gs.length c) (Value.slice b1 os.length d)) := (Bf.mk' (w := w) W H (Value.slice (some x) gs.length c) (Value.slice b1 os.length d) rfl).below hb (by simp)
  rw [Fd.fault_good G0.out] at hv
  clear hb
  rcases hv with ⟨hz, rfl⟩ | ⟨hz, rfl⟩
  · clear hz
    obtain ⟨x0, x1, x2, x3⟩ := X1.out
    go_wp2_with fail
    clear x0 x1 x2 x3
    go_loopw [4, 5, 18] (fun v4 v5 i W' => ∃ (k : Nat) (us : List Value), k ≤ gs.length ∧ i = .int .i64 (k : Nat) ∧ us.length = k ∧ Wds W' (w.heap.size + 1) v4 v5 us (Fd.near W H) ((gs.take k).map fun g => Fd.onto g fl) ∧ Bf W' w.heap.size W H (Value.slice (some x) gs.length c) (Value.slice b1 os.length d) ∧ Below w.heap.size w W') (fun _ _ i _ => gs.length - (intOf i).toNat)
    case atStart => exact ⟨0, [], Nat.zero_le _, rfl, rfl, Wds.start _ _ _, X1, B1⟩
    case round =>
      obtain ⟨k, us, hk, rfl, hl, hw, hX, hB⟩ := hrel
      clear X1 B1
      have D : Hid (Wds wr (w.heap.size + 1) u4 u5 us (Fd.near W H) ((gs.take k).map fun g => Fd.onto g fl)) := hw
      have X : Hid (Bf wr w.heap.size W H (Value.slice (some x) gs.length c) (Value.slice b1 os.length d)) := hX
      have B : Hid (Below w.heap.size w wr) := hB
      have Hl : Hid (us.length = k) := hl
      clear hw hX hB hl
      by_cases h0 : k = gs.length
      · subst h0
        go_wp2
        go_ret3
        refine ⟨_, _, us, rfl, by rw [Hl.out, Gl.out], ?_, B⟩
        have := D.out
        rw [List.take_of_length_le (Nat.le_refl _)] at this
        exact this
      · have hkl : k < gs.length := by omega
        obtain ⟨g, hg⟩ : ∃ g, gs[k]? = some g := ⟨_, List.getElem?_eq_getElem hkl⟩
        have cg : wr.cell? (x.add k) = some (.int .i64 g) := by rw [B.out.cell (p := x.add k) (by rw [add_block]; exact Hx.out.2)]; exact Hx.out.1 k g hg
        have Hg : Hid ((gs.take (k + 1)).map (fun g => Fd.onto g fl) = (gs.take k).map (fun g => Fd.onto g fl) ++ [Fd.onto g fl]) := by
          unfold Hid
          rw [List.take_succ_eq_append_getElem hkl, List.map_append]
          rw [List.getElem?_eq_getElem hkl] at hg
          injection hg with hg
          rw [hg]
          rfl
        have Lk : Hid (((gs.take k).map fun g => Fd.onto g fl).length ≤ 144) := by unfold Hid; simp; omega
        have zs : Hid (w.heap.size < wr.heap.size) := X.out.lt
        obtain ⟨x0, x1, x2, x3⟩ := X.out
        clear hg
        go_wp2_with fail
        refine (near_own _ W H gs os k _ (F0.out.below B.out) G0.out (by rw [← Gl.out]; exact hkl) (S0.out.below B.out)).mono ?_
        rintro e w2 ⟨u, rfl, hu, hb2⟩
        obtain ⟨ua, uc, hue⟩ := hu.len
        have a4 : Apart u u4 := Apart.fresh hu (fun k hk => (World.ownsRow.lt D.out.o4 k hk).2)
        have a5 : Apart u u5 := Apart.fresh hu (fun k hk => (D.out.o5.block k hk).2)
        have A45 : Hid (Apart u u4 ∧ Apart u u5) := ⟨a4, a5⟩
        have ba : Below w2.heap.size w2 (w2.alloc (Obj.cells #[u] 23)) := (Below.refl _ _).alloc (Nat.le_refl _) _
        have U3 : Hid (Ow (w2.alloc (Obj.cells #[u] 23)) (w.heap.size + 1) u (Fd.near W H k)) := (hu.mono zs.out).below ba
        have D3 : Hid (Wds (w2.alloc (Obj.cells #[u] 23)) (w.heap.size + 1) u4 u5 us (Fd.near W H) ((gs.take k).map fun g => Fd.onto g fl)) := (D.out.below hb2).below ba
        have X3 : Hid (Bf (w2.alloc (Obj.cells #[u] 23)) w.heap.size W H (Value.slice (some x) gs.length c) (Value.slice b1 os.length d)) := (X.out.below hb2 X.out.lt).below ba (Nat.lt_of_lt_of_le X.out.lt hb2.size)
        have B3 : Hid (Below w.heap.size w (w2.alloc (Obj.cells #[u] 23))) := (B.out.trans (hb2.mono B.out.size)).trans (ba.mono (Nat.le_trans B.out.size hb2.size))
        have Cd : Hid ((w2.alloc (Obj.cells #[u] 23)).cell? ⟨w2.heap.size, 0, none⟩ = some u) := by unfold Hid; simp
        have S3 : Hid (w.heap.size + 1 ≤ (w2.alloc (Obj.cells #[u] 23)).heap.size) := X3.out.lt
        clear a4 a5 ba hu hb2 D X B zs x0 x1 x2 x3 cg
        subst hue
        go_wp2_with (at_builtin; refine app_list _ rfl _ _ rfl (w.heap.size + 1) _ us rfl D3.out.o4 ⟨w2.heap.size, 0, none⟩ _ rfl Cd.out rfl (by rw [Hl.out]; omega) S3.out ?_)
        intro g4 cap4 w4 o4 gr4 at4 lt4
        have D4 : Hid (Wds w4 (w.heap.size + 1) (.slice (some ⟨g4, 0, none⟩) (us.length + 1) cap4) u5 (us ++ [.slice ua (Fd.near W H k).length uc]) (Fd.near W H) ((gs.take k).map fun g => Fd.onto g fl)) := D3.out.list (by rw [Hl.out]; exact U3.out) A45.out.1 A45.out.2 o4 gr4 (by simpa using at4)
        have b4 : Below (w.heap.size + 1) (w2.alloc (Obj.cells #[.slice ua (Fd.near W H k).length uc] 23)) w4 := (Below.refl _ _).grown gr4 S3.out (fun k hk => (World.ownsRow.lt D3.out.o4 k hk).1)
        have X4 : Hid (Bf w4 w.heap.size W H (Value.slice (some x) gs.length c) (Value.slice b1 os.length d)) := X3.out.below b4 (Nat.lt_succ_self _)
        have B4 : Hid (Below w.heap.size w w4) := B3.out.trans (b4.mono (Nat.le_succ _))
        clear o4 gr4 at4 lt4 b4 D3 X3 B3 S3 Cd U3 A45
        go_wp2_with fail
        refine (step_any g fl _).mono ?_
        rintro e w5 ⟨rfl, rfl⟩
        obtain ⟨s, hs⟩ : ∃ s, Fd.onto g fl = s := ⟨_, rfl⟩
        rw [hs] at Hg ⊢
        have ba : Below w5.heap.size w5 (w5.alloc (Obj.cells #[.int .i64 s] 3)) := (Below.refl _ _).alloc (Nat.le_refl _) _
        have D5 : Hid (Wds (w5.alloc (Obj.cells #[.int .i64 s] 3)) (w.heap.size + 1) (.slice (some ⟨g4, 0, none⟩) (us.length + 1) cap4) u5 (us ++ [.slice ua (Fd.near W H k).length uc]) (Fd.near W H) ((gs.take k).map fun g => Fd.onto g fl)) := D4.out.below ba
        have X5 : Hid (Bf (w5.alloc (Obj.cells #[.int .i64 s] 3)) w.heap.size W H (Value.slice (some x) gs.length c) (Value.slice b1 os.length d)) := X4.out.below ba X4.out.lt
        have B5 : Hid (Below w.heap.size w (w5.alloc (Obj.cells #[.int .i64 s] 3))) := B4.out.trans (ba.mono B4.out.size)
        have Cd : Hid ((w5.alloc (Obj.cells #[.int .i64 s] 3)).cell? ⟨w5.heap.size, 0, none⟩ = some (.int .i64 s)) := by unfold Hid; simp
        have S5 : Hid (w.heap.size + 1 ≤ (w5.alloc (Obj.cells #[.int .i64 s] 3)).heap.size) := X5.out.lt
        clear ba D4 X4 B4 hs
        generalize (gs.take k).map (fun g => Fd.onto g fl) = ss at *
        go_wp2_with (at_builtin; refine app_int _ rfl _ _ rfl (w.heap.size + 1) _ ss rfl D5.out.o5 ⟨w5.heap.size, 0, none⟩ s rfl Cd.out (Nat.le_trans Lk.out (by omega)) S5.out ?_)
        intro g6 cap6 w6 o6 gr6 at6 lt6
        have D6 : Hid (Wds w6 (w.heap.size + 1) (.slice (some ⟨g4, 0, none⟩) (us.length + 1) cap4) (.slice (some ⟨g6, 0, none⟩) (ss.length + 1) cap6) (us ++ [.slice ua (Fd.near W H k).length uc]) (Fd.near W H) (ss ++ [s])) := D5.out.num o6 gr6 (by simpa using at6)
        have b6 : Below (w.heap.size + 1) (w5.alloc (Obj.cells #[.int .i64 s] 3)) w6 := (Below.refl _ _).grown gr6 S5.out (fun k hk => (D5.out.o5.block k hk).1)
        have X6 : Hid (Bf w6 w.heap.size W H (Value.slice (some x) gs.length c) (Value.slice b1 os.length d)) := X5.out.below b6 (Nat.lt_succ_self _)
        have B6 : Hid (Below w.heap.size w w6) := B5.out.trans (b6.mono (Nat.le_succ _))
        clear o6 gr6 at6 lt6 b6 D5 X5 B5 S5 Cd
        go_wp2
        go_round
        case rel => exact ⟨k + 1, us ++ [.slice ua (Fd.near W H k).length uc], by omega, by go_num, by simp [Hl.out], by rw [Hg.out]; exact D6, X6, B6⟩
        case measure => simp [intOf]; omega
  · exact absurd rfl hz
end Go.Proofs.YtolmfekefjnggaaDoor

namespace Go.Proofs.YtolmfekefjnggaaDoor
open Go.RowKit
set_option linter.unusedVariables false

theorem enter_none : ∀ args w, (callFunc 106 args).run Tryd.prog w = .ok (.enter 106 args) w := by
  intro args w
  go_simp

set_option maxHeartbeats 1000000 in
theorem nocell_any (x : Int) (b n c : Nat) (a : Option Addr) (w : World) (hb : w.cell? ⟨b, 0, none⟩ = some (.slice a n c)) (hn : n ≤ 144) :
    Calls Tryd.prog 106 #[.int .i64 x, .pointer (some ⟨b, 0, none⟩)] w fun e w' => e = .returned (.bool (!decide (0 ≤ x ∧ x < n))) ∧ w' = w := by
  by_cases h1 : x < 0
  · go_enter Tryd.func106, Tryd.ntmps106
    go_wp2
    go_ret
    exact ⟨by rw [decide_eq_false (by omega)]; rfl, rfl⟩
  · by_cases h2 : (n : Int) ≤ x
    · go_enter Tryd.func106, Tryd.ntmps106
      go_wp2
      go_ret
      exact ⟨by rw [decide_eq_false (by omega)]; rfl, rfl⟩
    · go_enter Tryd.func106, Tryd.ntmps106
      go_wp2
      go_ret
      exact ⟨rfl, rfl⟩

/-- a box for a land, that may be written. -/
structure Lw (w : World) (z : Nat) (a b : Value) : Prop where
  c0 : w.cell? ⟨z, 0, none⟩ = some a
  c1 : w.cell? ⟨z, 1, none⟩ = some b
  f0 : w.frozen? ⟨z, 0, none⟩ = false
  f1 : w.frozen? ⟨z, 1, none⟩ = false
theorem Lw.mk' {w : World} {z : Nat} {a b : Value} (h : w.heap[z]? = some (.cells #[a, b] 164 (0, 0))) : Lw w z a b :=
  ⟨by simp [World.cell?, h], by simp [World.cell?, h], by simp [World.frozen?, h], by simp [World.frozen?, h]⟩

set_option maxHeartbeats 1000000 in
theorem look_bad (v u : Value) (W H : Int) (gs os : List Int) (F : Int) (fl : Bool) (w : World) (h : Fl w v W H gs os) (hF : Fd.fault W H gs os = F) (h0 : F ≠ 0) :
    Calls Tryd.prog 96 #[v, .bool fl, u] w fun e w' => e = .returned (.tuple #[.agg #[.slice none 0 0, .slice none 0 0], .iface 69 (.int .i64 F)]) ∧ Below w.heap.size w w' := by
  have F0 : Hid (Fl w v W H gs os) := h
  have HF : Hid (Fd.fault W H gs os = F) := hF
  have H0 : Hid (F ≠ 0) := h0
  obtain ⟨u1, u2, rfl, ⟨a1, c, rfl, c1, c2, ca⟩, ⟨b1, d, rfl, d1, d2, cb⟩⟩ := h
  clear hF h0 ca cb
  go_enter Tryd.func96, Tryd.ntmps96
  go_wp2_with fail
  refine (Ways_bad _ W H gs os F fl _ (F0.out.below (((Below.refl _ _).alloc (Nat.le_refl _) _).alloc (by simp) _)) HF.out H0.out).mono ?_
  rintro e w1 ⟨rfl, hb⟩
  have B1 : Hid (Below w.heap.size w w1) := (((Below.refl _ _).alloc (Nat.le_refl _) _).alloc (by simp) _).trans (hb.mono (by simp; omega))
  have blk : Hid (w1.heap[w.heap.size + 1]? = some (.cells #[.slice none 0 0, .slice none 0 0] 164 (0, 0))) := by
    unfold Hid
    rw [hb.block (w.heap.size + 1) (by simp)]
    have := heap_alloc_new (w.alloc (Obj.cells #[.int .i64 W, .int .i64 H, .slice a1 gs.length c, .slice b1 os.length d] 25)) (Obj.cells #[.slice none 0 0, .slice none 0 0] 164)
    simpa using this
  clear hb
  have blk2 : (w1.alloc (Obj.cells #[.slice none 0 0] 23)).heap[w.heap.size + 1]? = some (.cells #[.slice none 0 0, .slice none 0 0] 164 (0, 0)) := by
    rw [heap_alloc_old w1 _ (lt_of_block blk.out)]
    exact blk.out
  have B2 : Hid (Below w.heap.size w (w1.alloc (Obj.cells #[.slice none 0 0] 23))) := B1.out.alloc B1.out.size _
  go_upto_region 2 with fail
  generalize w1.alloc (Obj.cells #[.slice none 0 0] 23) = w2 at *
  obtain ⟨c0, c1, f0, f1⟩ := Lw.mk' blk2
  clear blk blk2 B1
  go_wp2
  refine bodyPost_ret (v := .tuple #[.agg #[.slice none 0 0, .slice none 0 0], .iface 69 (.int .i64 F)]) (by simp [results, Tryd.results96, go_sem, c0, c1]) rfl ?_
  exact ⟨rfl, (B2.out.setCell (Nat.le_succ _) _).setCell (Nat.le_succ _) _⟩

set_option maxHeartbeats 2000000 in
theorem look_none (v u : Value) (W H : Nat) (gs os xs : List Int) (fl : Bool) (w : World) (h : Fl w v W H gs os) (G : Fd.Good W H gs os) (hs : Sd w) (hu : Ro w u xs) (hx : xs.any (fun x => !decide (0 ≤ x ∧ x < ((W * H : Nat) : Int))) = true) :
    Calls Tryd.prog 96 #[v, .bool fl, u] w fun e w' => e = .returned (.tuple #[.agg #[.slice none 0 0, .slice none 0 0], .iface 69 (.int .i64 6)]) ∧ Below w.heap.size w w' := by
  have F0 : Hid (Fl w v W H gs os) := h
  have S0 : Hid (Sd w) := hs
  have G0 : Hid (Fd.Good W H gs os) := G
  have U0 : Hid (Ro w u xs) := hu
  have Hx : Hid (xs.any (fun x => !decide (0 ≤ x ∧ x < ((W * H : Nat) : Int))) = true) := hx
  obtain ⟨u1, u2, rfl, ⟨a1, c, rfl, c1, c2, ca⟩, ⟨b1, d, rfl, d1, d2, cb⟩⟩ := h
  clear hs hu hx ca cb
  have Gp : Hid (W * H ≤ 144) := G.pos.2
  have Gq : Hid (0 < W * H) := by have := G.pos.1; unfold Hid; omega
  have Gl : Hid (gs.length = W * H) := G.gl
  clear G
  go_enter Tryd.func96, Tryd.ntmps96
  go_wp2_with fail
  have b0 : Below w.heap.size w ((w.alloc (Obj.cells #[.int .i64 W, .int .i64 H, .slice a1 gs.length c, .slice b1 os.length d] 25)).alloc (Obj.cells #[.slice none 0 0, .slice none 0 0] 164)) := ((Below.refl _ _).alloc (Nat.le_refl _) _).alloc (by simp) _
  refine (Ways_ok _ W H gs os fl _ (F0.out.below b0) G0.out (S0.out.below b0)).mono ?_
  rintro e w1 ⟨p1, p2, us, rfl, hus, hD, hb⟩
  obtain ⟨ss, hss⟩ : ∃ ss, (gs.map fun g => Fd.onto g fl) = ss := ⟨_, rfl⟩
  have Sl : Hid (ss.length = W * H) := by unfold Hid; rw [← hss, List.length_map]; exact Gl.out
  have Hss : Hid ((gs.map fun g => Fd.onto g fl) = ss) := hss
  rw [hss] at hD
  clear hss
  have B1 : Hid (Below w.heap.size w w1) := b0.trans (hb.mono (by simp; omega))
  have blk : Hid (w1.heap[w.heap.size + 1]? = some (.cells #[.slice none 0 0, .slice none 0 0] 164 (0, 0))) := by
    unfold Hid
    rw [hb.block (w.heap.size + 1) (by simp)]
    have := heap_alloc_new (w.alloc (Obj.cells #[.int .i64 W, .int .i64 H, .slice a1 gs.length c, .slice b1 os.length d] 25)) (Obj.cells #[.slice none 0 0, .slice none 0 0] 164)
    simpa using this
  have ba : Below w1.heap.size w1 (w1.alloc (Obj.cells #[p2] 23)) := (Below.refl _ _).alloc (Nat.le_refl _) _
  have Hus : Hid (us.length = W * H) := hus
  have L2 : Hid (Wds (w1.alloc (Obj.cells #[p2] 23)) (w.heap.size + 1 + 1 + 1) p1 p2 us (Fd.near W H) ss) := by
    have := hD.below ba
    unfold Hid
    simpa using this
  have hp1 := hD.bs hus (by have := Gq.out; omega)
  have hp2 := hD.o5.ro
  clear hD hus
  have B2 : Hid (Below w.heap.size w (w1.alloc (Obj.cells #[p2] 23))) := B1.out.trans (ba.mono B1.out.size)
  have K2 : Hid ((w1.alloc (Obj.cells #[p2] 23)).heap[w.heap.size + 1]? = some (.cells #[.slice none 0 0, .slice none 0 0] 164 (0, 0))) := by
    unfold Hid
    rw [heap_alloc_old w1 _ (lt_of_block blk.out)]
    exact blk.out
  have C2 : Hid ((w1.alloc (Obj.cells #[p2] 23)).cell? ⟨w1.heap.size, 0, none⟩ = some p2) := by unfold Hid; simp
  obtain ⟨x1, e1, hp1e, -⟩ := hp1
  obtain ⟨x2, e2, hp2e, -⟩ := hp2
  subst hp1e
  subst hp2e
  clear hb ba b0 blk B1
  go_upto_region 2 with fail
  generalize w1.alloc (Obj.cells #[.slice x2 ss.length e2] 23) = w2 at *
  have U2 : Hid (Ro w2 u xs) := U0.out.below B2.out
  have c9 := C2.out
  have hc : ∀ m, ∀ x ∈ xs, Calls Tryd.prog 106 (#[.int .i64 x] ++ #[.pointer (some ⟨w1.heap.size, 0, none⟩)]) (w2.drewN m) fun e w' => e = .returned (.bool (!decide (0 ≤ x ∧ x < ((W * H : Nat) : Int)))) ∧ ∃ q, w' = w2.drewN q := by
    intro m x _
    rw [show (#[Value.int .i64 x] ++ #[Value.pointer (some ⟨w1.heap.size, 0, none⟩)] : Array Value) = #[.int .i64 x, .pointer (some ⟨w1.heap.size, 0, none⟩)] from rfl]
    refine (nocell_any x w1.heap.size (W * H) e2 x2 (w2.drewN m) ?_ Gp.out).mono ?_
    · have := C2.out
      rw [Sl.out] at this
      exact this
    · rintro e w' ⟨h1, h2⟩
      exact ⟨h1, m, h2⟩
  have hh := hasf_any 106 enter_none u #[.pointer (some ⟨w1.heap.size, 0, none⟩)] xs (fun x => !decide (0 ≤ x ∧ x < ((W * H : Nat) : Int))) w2 U2.out hc
  rw [Hx.out] at hh
  have H3 : Hid (Calls Tryd.prog 58 #[u, .func (Fn.func 106) #[] #[.pointer (some ⟨w1.heap.size, 0, none⟩)]] w2 fun e w' => e = .returned (.bool true) ∧ ∃ q, w' = w2.drewN q) := hh
  clear hh hc
  go_wp2_with fail
  refine Calls.mono H3.out ?_
  rintro e w3 ⟨rfl, q, rfl⟩
  clear H3
  obtain ⟨c0, c1, f0, f1⟩ := Lw.mk' (w := w2.drewN q) K2.out
  have L3 : Hid (Wds (w2.drewN q) (w.heap.size + 1 + 1 + 1) (.slice (some x1) (W * H) e1) (.slice x2 ss.length e2) us (Fd.near W H) ss) := L2.out.below (_root_.Go.below_drewN (Below.refl _ _) _)
  have B3 : Hid (Below w.heap.size w (w2.drewN q)) := _root_.Go.below_drewN B2.out _
  have c9 : (w2.drewN q).cell? ⟨w1.heap.size, 0, none⟩ = some (.slice x2 ss.length e2) := C2.out
  generalize w2.drewN q = w3 at *
  clear B2 L2 K2 C2
  go_wp2
  refine bodyPost_ret (v := .tuple #[.agg #[.slice none 0 0, .slice none 0 0], .iface 69 (.int .i64 6)]) (by simp [results, Tryd.results96, go_sem, c0, c1]) rfl ?_
  exact ⟨rfl, (B3.out.setCell (Nat.le_succ _) _).setCell (Nat.le_succ _) _⟩

set_option maxHeartbeats 2000000 in
theorem look_ok (v u : Value) (W H : Nat) (gs os xs : List Int) (fl : Bool) (w : World) (h : Fl w v W H gs os) (G : Fd.Good W H gs os) (hs : Sd w) (hu : Ro w u xs) (hx : xs.any (fun x => !decide (0 ≤ x ∧ x < ((W * H : Nat) : Int))) = false) :
    Calls Tryd.prog 96 #[v, .bool fl, u] w fun e w' => (∃ v', e = .returned (.tuple #[v', .nilIface]) ∧ Ld w' v' (W * H) (Fd.near W H) (gs.map fun g => Fd.onto g fl)) ∧ Below w.heap.size w w' := by
  have F0 : Hid (Fl w v W H gs os) := h
  have S0 : Hid (Sd w) := hs
  have G0 : Hid (Fd.Good W H gs os) := G
  have U0 : Hid (Ro w u xs) := hu
  have Hx : Hid (xs.any (fun x => !decide (0 ≤ x ∧ x < ((W * H : Nat) : Int))) = false) := hx
  obtain ⟨u1, u2, rfl, ⟨a1, c, rfl, c1, c2, ca⟩, ⟨b1, d, rfl, d1, d2, cb⟩⟩ := h
  clear hs hu hx ca cb
  have Gp : Hid (W * H ≤ 144) := G.pos.2
  have Gq : Hid (0 < W * H) := by have := G.pos.1; unfold Hid; omega
  have Gl : Hid (gs.length = W * H) := G.gl
  clear G
  go_enter Tryd.func96, Tryd.ntmps96
  go_wp2_with fail
  have b0 : Below w.heap.size w ((w.alloc (Obj.cells #[.int .i64 W, .int .i64 H, .slice a1 gs.length c, .slice b1 os.length d] 25)).alloc (Obj.cells #[.slice none 0 0, .slice none 0 0] 164)) := ((Below.refl _ _).alloc (Nat.le_refl _) _).alloc (by simp) _
  refine (Ways_ok _ W H gs os fl _ (F0.out.below b0) G0.out (S0.out.below b0)).mono ?_
  rintro e w1 ⟨p1, p2, us, rfl, hus, hD, hb⟩
  obtain ⟨ss, hss⟩ : ∃ ss, (gs.map fun g => Fd.onto g fl) = ss := ⟨_, rfl⟩
  have Sl : Hid (ss.length = W * H) := by unfold Hid; rw [← hss, List.length_map]; exact Gl.out
  have Hss : Hid ((gs.map fun g => Fd.onto g fl) = ss) := hss
  rw [hss] at hD
  clear hss
  have B1 : Hid (Below w.heap.size w w1) := b0.trans (hb.mono (by simp; omega))
  have blk : Hid (w1.heap[w.heap.size + 1]? = some (.cells #[.slice none 0 0, .slice none 0 0] 164 (0, 0))) := by
    unfold Hid
    rw [hb.block (w.heap.size + 1) (by simp)]
    have := heap_alloc_new (w.alloc (Obj.cells #[.int .i64 W, .int .i64 H, .slice a1 gs.length c, .slice b1 os.length d] 25)) (Obj.cells #[.slice none 0 0, .slice none 0 0] 164)
    simpa using this
  have ba : Below w1.heap.size w1 (w1.alloc (Obj.cells #[p2] 23)) := (Below.refl _ _).alloc (Nat.le_refl _) _
  have Hus : Hid (us.length = W * H) := hus
  have L2 : Hid (Wds (w1.alloc (Obj.cells #[p2] 23)) (w.heap.size + 1 + 1 + 1) p1 p2 us (Fd.near W H) ss) := by
    have := hD.below ba
    unfold Hid
    simpa using this
  have hp1 := hD.bs hus (by have := Gq.out; omega)
  have hp2 := hD.o5.ro
  clear hD hus
  have B2 : Hid (Below w.heap.size w (w1.alloc (Obj.cells #[p2] 23))) := B1.out.trans (ba.mono B1.out.size)
  have K2 : Hid ((w1.alloc (Obj.cells #[p2] 23)).heap[w.heap.size + 1]? = some (.cells #[.slice none 0 0, .slice none 0 0] 164 (0, 0))) := by
    unfold Hid
    rw [heap_alloc_old w1 _ (lt_of_block blk.out)]
    exact blk.out
  have C2 : Hid ((w1.alloc (Obj.cells #[p2] 23)).cell? ⟨w1.heap.size, 0, none⟩ = some p2) := by unfold Hid; simp
  obtain ⟨x1, e1, hp1e, -⟩ := hp1
  obtain ⟨x2, e2, hp2e, -⟩ := hp2
  subst hp1e
  subst hp2e
  clear hb ba b0 blk B1
  go_upto_region 2 with fail
  generalize w1.alloc (Obj.cells #[.slice x2 ss.length e2] 23) = w2 at *
  have U2 : Hid (Ro w2 u xs) := U0.out.below B2.out
  have c9 := C2.out
  have hc : ∀ m, ∀ x ∈ xs, Calls Tryd.prog 106 (#[.int .i64 x] ++ #[.pointer (some ⟨w1.heap.size, 0, none⟩)]) (w2.drewN m) fun e w' => e = .returned (.bool (!decide (0 ≤ x ∧ x < ((W * H : Nat) : Int)))) ∧ ∃ q, w' = w2.drewN q := by
    intro m x _
    rw [show (#[Value.int .i64 x] ++ #[Value.pointer (some ⟨w1.heap.size, 0, none⟩)] : Array Value) = #[.int .i64 x, .pointer (some ⟨w1.heap.size, 0, none⟩)] from rfl]
    refine (nocell_any x w1.heap.size (W * H) e2 x2 (w2.drewN m) ?_ Gp.out).mono ?_
    · have := C2.out
      rw [Sl.out] at this
      exact this
    · rintro e w' ⟨h1, h2⟩
      exact ⟨h1, m, h2⟩
  have hh := hasf_any 106 enter_none u #[.pointer (some ⟨w1.heap.size, 0, none⟩)] xs (fun x => !decide (0 ≤ x ∧ x < ((W * H : Nat) : Int))) w2 U2.out hc
  rw [Hx.out] at hh
  have H3 : Hid (Calls Tryd.prog 58 #[u, .func (Fn.func 106) #[] #[.pointer (some ⟨w1.heap.size, 0, none⟩)]] w2 fun e w' => e = .returned (.bool false) ∧ ∃ q, w' = w2.drewN q) := hh
  clear hh hc
  go_wp2_with fail
  refine Calls.mono H3.out ?_
  rintro e w3 ⟨rfl, q, rfl⟩
  clear H3
  obtain ⟨c0, c1, f0, f1⟩ := Lw.mk' (w := w2.drewN q) K2.out
  have L3 : Hid (Wds (w2.drewN q) (w.heap.size + 1 + 1 + 1) (.slice (some x1) (W * H) e1) (.slice x2 ss.length e2) us (Fd.near W H) ss) := L2.out.below (_root_.Go.below_drewN (Below.refl _ _) _)
  have B3 : Hid (Below w.heap.size w (w2.drewN q)) := _root_.Go.below_drewN B2.out _
  have c9 : (w2.drewN q).cell? ⟨w1.heap.size, 0, none⟩ = some (.slice x2 ss.length e2) := C2.out
  generalize w2.drewN q = w3 at *
  clear B2 L2 K2 C2
  go_wp2
  refine bodyPost_ret (v := .tuple #[.agg #[.slice (some x1) (W * H) e1, .slice x2 ss.length e2], .nilIface]) (by simp [results, Tryd.results96, go_sem, c0, c1]) rfl ?_
  have kk : Kp (w.heap.size + 1) w3 ((w3.setCell ⟨w.heap.size + 1, 0, none⟩ (.slice (some x1) (W * H) e1)).setCell ⟨w.heap.size + 1, 1, none⟩ (.slice x2 ss.length e2)) := (Kp.set _ _ _).trans (Kp.set _ _ _)
  refine ⟨⟨_, rfl, ?_⟩, (B3.out.setCell (Nat.le_succ _) _).setCell (Nat.le_succ _) _⟩
  rw [Hss.out]
  have D5 := L3.out.kp kk (by omega)
  exact ⟨_, _, rfl, D5.bs Hus.out Gq.out, D5.o5.ro, Sl.out⟩
end Go.Proofs.YtolmfekefjnggaaDoor

namespace Go.Proofs.YtolmfekefjnggaaDoor
open Go.RowKit
set_option linter.unusedVariables false

/-- v is a slice of the integers xs, somewhere in a block from base on. -/
def Qu (w : World) (base : Nat) (v : Value) (xs : List Int) : Prop := ∃ g off cap cur, v = .slice (some ⟨g, off, none⟩) xs.length cap ∧ base ≤ g ∧ w.heap[g]? = some (.cells cur 3 (0, 0)) ∧ xs.length ≤ cap ∧ cap ≤ maxLen ∧ off + cap ≤ cur.size ∧ ∀ (j : Nat) d, xs[j]? = some d → cur[off + j]? = some (.int .i64 d)

theorem Qu.kept {w w' : World} {base : Nat} {v : Value} {xs : List Int} (h : Qu w base v xs) (hk : ∀ k, base ≤ k → k < w.heap.size → w'.heap[k]? = w.heap[k]?) : Qu w' base v xs := by
  obtain ⟨g, off, cap, cur, h1, h2, h3, h4⟩ := h
  exact ⟨g, off, cap, cur, h1, h2, by rw [hk g h2 (lt_of_block h3)]; exact h3, h4⟩
theorem Qu.below {w w' : World} {base : Nat} {v : Value} {xs : List Int} (h : Qu w base v xs) (hb : Below w.heap.size w w') : Qu w' base v xs := h.kept fun k _ hk => hb.block k hk
theorem Qu.kp {w w' : World} {base b : Nat} {v : Value} {xs : List Int} (h : Qu w base v xs) (hk : Kp b w w') (hb : b < base) : Qu w' base v xs := h.kept fun k h1 h2 => hk.block k h2 (by omega)
theorem Qu.drewN {w : World} {base : Nat} {v : Value} {xs : List Int} (h : Qu w base v xs) (n : Nat) : Qu (w.drewN n) base v xs := h
theorem Qu.one {w : World} {base z : Nat} (d : Int) (hb : base ≤ w.heap.size) (hz : w.heap.size = z) : Qu (w.alloc (.cells #[.int .i64 d] 3)) base (.slice (some ⟨z, 0, none⟩) 1 1) [d] := by
  subst hz
  refine ⟨_, 0, 1, _, rfl, hb, heap_alloc_new w _, Nat.le_refl _, by unfold maxLen; decide, Nat.le_refl _, fun j e he => ?_⟩
  match j, he with
  | 0, he => simp at he; subst he; rfl
/-- the first one. -/
theorem Qu.first {w : World} {base : Nat} {v : Value} {x : Int} {xs : List Int} (h : Qu w base v (x :: xs)) : ∃ g off cap, v = .slice (some ⟨g, off, none⟩) (xs.length + 1) cap ∧ xs.length + 1 ≤ cap ∧ cap ≤ 9223372036854775807 ∧ w.cell? ⟨g, off, none⟩ = some (.int .i64 x) := by
  obtain ⟨g, off, cap, cur, h1, h2, h3, h4, h5, h6, h7⟩ := h
  refine ⟨g, off, cap, h1, h4, by unfold maxLen at h5; omega, ?_⟩
  have := h7 0 x rfl
  simp only [World.cell?, h3]
  exact this

theorem info_int2 : (Tryd.prog.info? 3).map (·.size) = some 1 := by kernel_rfl
/-- without the first one. -/
theorem Qu.rest {w : World} {base : Nat} {v : Value} {x : Int} {xs : List Int} (h : Qu w base v (x :: xs)) : ∃ v', Qu w base v' xs ∧ ∀ W, (Instr.slice 23 v (some (.int .i64 1)) none none).run Tryd.prog W = .ok v' W := by
  obtain ⟨g, off, cap, cur, h1, h2, h3, h4, h5, h6, h7⟩ := h
  subst h1
  obtain ⟨i0, hi, hz0, hz1, hz2⟩ := info_parts info_int
  have hu : Tryd.prog.underlying 23 = some (.slice 3) := Tryd.underlying23
  have he : Tryd.prog.elem 23 = 3 := by simp [Program.elem, hu]
  simp only [List.length_cons] at h4 h6
  have h5' : cap ≤ 9223372036854775807 := by unfold maxLen at h5; omega
  by_cases hc : cap = 1
  · subst hc
    have hx : xs = [] := List.length_eq_zero_iff.1 (by omega)
    subst hx
    refine ⟨.slice (some ⟨g, off, none⟩) 0 0, ⟨g, off, 0, cur, rfl, h2, h3, Nat.le_refl _, by omega, by omega, fun j d hd => by simp at hd⟩, fun W => ?_⟩
    refine (run_slice_l (P := Tryd.prog) W 23 (some ⟨g, off, none⟩) 1 1 (by rw [he]; exact hu) .i64 1 (by decide) (by decide)).trans ?_
    rw [he]
    simp [sizeOf, typeInfo, hi, hz1, sliced]
  · refine ⟨.slice (some ⟨g, off + 1, none⟩) xs.length (cap - 1), ⟨g, off + 1, cap - 1, cur, rfl, h2, h3, by omega, by omega, by omega, fun j d hd => ?_⟩, fun W => ?_⟩
    · have := h7 (j + 1) d (by simpa using hd)
      rwa [show off + (j + 1) = off + 1 + j by omega] at this
    · refine (run_slice_l (P := Tryd.prog) W 23 (some ⟨g, off, none⟩) (xs.length + 1) cap (by rw [he]; exact hu) .i64 1 (by decide) (by omega)).trans ?_
      rw [he]
      simp [sizeOf, typeInfo, hi, hz1, sliced, hc, Addr.add_lit]

/-- one more. -/
theorem app_q {ops : Array Oper} {rest : List Oper} {o : Oper} {a : Act} {Q : Exit → Act → World → Prop} (w : World) (hgd : o.guard = none) (s x : Operand)
    (ho : o.op = .call { callee := .builtin .append, args := #[s, x], argTypes := #[23, 23] }) (base : Nat) (v : Value) (xs : List Int) (hs : a.eval s = v) (hq : Qu w base v xs)
    (ad : Addr) (d : Int) (hx : a.eval x = .slice (some ad) 1 1) (hd : w.cell? ad = some (.int .i64 d)) (hl : xs.length ≤ 1000000) (hbase : base ≤ w.heap.size)
    (h : ∀ v' w', Qu w' base v' (xs ++ [d]) → Below base w w' → wpList Tryd.prog ops Q rest (a.put o.dst v') w') :
    wpList Tryd.prog ops Q (o :: rest) a w := by
  obtain ⟨i0, hi, hz0, hz1, hz2⟩ := info_parts info_int
  obtain ⟨g, off, cap, cur, h1, h2, h3, h4, h5, h6, h7⟩ := hq
  subst h1
  have hcell : ∀ k, k < cur.size → w.cell? ⟨g, k, none⟩ = cur[k]? := fun k hk => by simp [World.cell?, h3]
  refine wpList_append_arg w hgd s x 23 ho 3 i0 (.int .i64 0) 1 8 Tryd.underlying23 hi hz0 hz1 hz2 rfl (by decide) g off xs.length cap (xs.map (Value.int .i64)) hs (by simp) ?_ ad 1 1 [.int .i64 d] hx rfl ?_ ?_ ?_ (by unfold maxLen; omega) (by omega) ?_ ?_
  · intro j u hj
    rw [List.getElem?_map] at hj
    cases hxj : xs[j]? with
    | none => rw [hxj] at hj; cases hj
    | some y =>
      rw [hxj] at hj
      simp only [Option.map_some, Option.some.injEq] at hj
      have hlt : j < xs.length := (List.getElem?_eq_some_iff.1 hxj).1
      rw [hcell _ (by omega), h7 j y hxj, hj]
  · intro j u hj
    match j, hj with
    | 0, hj => simp at hj; subst hj; exact hd
  · intro u hu
    simp at hu
    subst hu
    rfl
  · intro hr j hj
    have hj0 : j = 0 := by
      have : [Value.int .i64 d].length = 1 := rfl
      omega
    subst hj0
    rw [hcell _ (by omega)]
    refine ⟨?_, by simp [World.frozen?, h3]⟩
    rw [Array.getElem?_eq_getElem (by omega)]
    rfl
  · intro hr
    refine h _ _ ?_ ?_
    · refine ⟨g, off, cap, cur.setIfInBounds (off + xs.length) (.int .i64 d), by simp, h2, ?_, by simpa using hr, h5, by simpa using h6, fun j e he => ?_⟩
      · have := heap_setCell_same w g (off + xs.length) _ _ (.int .i64 d) h3
        simpa [World.setCells] using this
      · rw [List.getElem?_append] at he
        by_cases hj : j < xs.length
        · rw [if_pos hj] at he
          rw [Array.getElem?_setIfInBounds_ne (by omega)]
          exact h7 j e he
        · rw [if_neg hj] at he
          have hj0 : j - xs.length = 0 := by
            rcases Nat.eq_zero_or_pos (j - xs.length) with h | h
            · exact h
            · rw [List.getElem?_eq_none (by simp; omega)] at he; cases he
          rw [hj0] at he
          simp at he
          subst he
          rw [show off + j = off + xs.length by omega, Array.getElem?_setIfInBounds_self_of_lt (by omega)]
    · simp only [World.setCells, Nat.mul_one]
      exact ⟨rfl, rfl, rfl, by simp [World.setCell], fun k hk => Below.heap_setCell _ _ _ _ (by show k ≠ g; omega)⟩
  · intro hg v' w' ho' hgr
    refine h _ _ ?_ ((Below.refl _ _).grown hgr hbase (fun k hk => by cases hk))
    rcases ho'.2 with ⟨_, h0⟩ | ⟨g', cap', cur', e1, e2, e3, e4, e5, e6, e7⟩
    · omega
    · refine ⟨g', 0, cap', cur', by rw [e1]; simp, by omega, e3, by simpa using e4, e5, by omega, fun j e he => ?_⟩
      rw [Nat.zero_add, ← Array.getElem?_toList]
      have hj : j < xs.length + 1 := by
        have := (List.getElem?_eq_some_iff.1 he).1
        simpa using this
      have : (cur'.toList.take ((xs.length + 1) * 1))[j]? = some (.int .i64 e) := by
        rw [e7, show xs.map (Value.int .i64) ++ [Value.int .i64 d] = (xs ++ [d]).map (Value.int .i64) by simp, List.getElem?_map, he]
        rfl
      rw [List.getElem?_take, if_pos (by omega)] at this
      exact this
end Go.Proofs.YtolmfekefjnggaaDoor

namespace Go.Proofs.YtolmfekefjnggaaDoor
open Go.RowKit
set_option linter.unusedVariables false

theorem and_low (n : Nat) (h : n ≤ 144) : n &&& 4294967295 = n := by
  have := Nat.and_two_pow_sub_one_eq_mod n 32
  rw [show 2 ^ 32 - 1 = 4294967295 from rfl] at this
  rw [this]
  exact Nat.mod_eq_of_lt (by omega)

set_option maxHeartbeats 1000000 in
theorem mul64_one (n : Nat) (w : World) (h : n ≤ 144) :
    Calls Tryd.prog 71 #[.int .u64 1, .int .u64 (n : Nat)] w fun e w' => e = .returned (.tuple #[.int .u64 0, .int .u64 (n : Nat)]) ∧ w' = w := by
  have e1 : bits BinOp.and IntKind.u64 1 4294967295 = 1 := bits_and_u64_nat 1 4294967295 (by omega) (by omega)
  have e2 : bits BinOp.and IntKind.u64 (n : Int) 4294967295 = (n : Int) := by
    have := bits_and_u64_nat n 4294967295 (by omega) (by omega)
    rw [and_low n h] at this
    exact this
  have e3 : (n : Int) / 4294967296 = 0 := by omega
  have e4 : bits BinOp.and IntKind.u64 0 4294967295 = 0 := bits_and_u64_nat 0 4294967295 (by omega) (by omega)
  go_enter Tryd.func71, Tryd.ntmps71
  go_wp2
  go_ret2
  exact ⟨rfl, rfl⟩

set_option maxHeartbeats 1000000 in
theorem mul_one (n : Nat) (w : World) (h : n ≤ 144) :
    Calls Tryd.prog 50 #[.int .u64 1, .int .u64 (n : Nat)] w fun e w' => e = .returned (.tuple #[.int .u64 0, .int .u64 (n : Nat)]) ∧ w' = w := by
  go_enter Tryd.func50, Tryd.ntmps50
  go_wp2_with (go_at_call 71; refine (mul64_one _ _ h).mono ?_; rintro e w' ⟨rfl, rfl⟩)
  go_ret2
  exact ⟨rfl, rfl⟩

theorem wpList_copy_is {P : Program} (w : World) {ops : Array Oper} {rest : List Oper} {o : Oper} {a : Act} {Q : Exit → Act → World → Prop} (hgd : o.guard = none) (s x : Operand) (t tx : TypeId)
    (ho : o.op = .call { callee := .builtin .copy, args := #[s, x], argTypes := #[t, tx] }) (v xv v' : Value) (w' : World) (hv : a.eval s = v) (hx : a.eval x = xv)
    (hrun : (Builtin.copy_ #[t, tx] o.type #[v, xv]).run P w = .ok v' w') (h : wpList P ops Q rest (a.put o.dst v') w') : wpList P ops Q (o :: rest) a w :=
  wpList_plain hgd fun K hK => by
    unfold Oper.wp
    simp [execOp, ho, resolve, invoke, builtin, hv, hx, hrun, Result.andThen]
    exact hK _ _ h

/-- the first m are vv, of n. -/
def rpCells (vv : Int) (n m : Nat) : Array Value := (List.replicate m (Value.int .i64 vv) ++ List.replicate (n - m) (Value.int .i64 0)).toArray
def Rp (vv : Int) (w : World) (b n m : Nat) : Prop := w.heap[b]? = some (.cells (rpCells vv n m) 3 (0, 0))
theorem Rp.bk {vv : Int} {w : World} {b n : Nat} (h : Rp vv w b n n) : Bk w b (List.replicate n vv) #[] := by
  unfold Rp at h
  unfold Bk
  rw [h]
  simp [intCells, rpCells]
theorem Rp.cell {vv : Int} {w : World} {b n m : Nat} (h : Rp vv w b n m) {i : Nat} (hi : i < m) : w.cell? ⟨b, i, none⟩ = some (.int .i64 vv) := by
  unfold Rp at h
  simp only [World.cell?, h]
  simp [rpCells, List.getElem?_append, hi]
theorem Rp.lt {vv : Int} {w : World} {b n m : Nat} (h : Rp vv w b n m) : b < w.heap.size := lt_of_block h
theorem Rp.drewN {vv : Int} {w : World} {b n m : Nat} (h : Rp vv w b n m) (k : Nat) : Rp vv (w.drewN k) b n m := h

theorem info_int1 : (Tryd.prog.info? 3).map (·.size) = some 1 := by kernel_rfl

theorem rep_more (a z : Value) (n m k : Nat) (h : m + k ≤ n) : (List.replicate m a ++ List.replicate (n - m) z).take m ++ List.replicate k a ++ (List.replicate m a ++ List.replicate (n - m) z).drop (m + k) = List.replicate (m + k) a ++ List.replicate (n - (m + k)) z := by
  rw [List.take_left' (by simp), List.drop_append, List.length_replicate, List.drop_eq_nil_of_le (by simp), List.nil_append, List.drop_replicate, List.replicate_append_replicate]
  congr 2
  omega

/-- k more of them. -/
theorem rp_copy (vv : Int) (w : World) (b n m k : Nat) (dLen dCap sLen sCap : Nat) (x : Addr) (h : Rp vv w b n m) (hn : k = Nat.min sLen dLen) (hk : m + k ≤ n) (hs : ∀ j, j < k → w.cell? (x.add j) = some (.int .i64 vv)) :
    (Builtin.copy_ #[23, 23] 3 #[.slice (some ⟨b, m, none⟩) dLen dCap, .slice (some x) sLen sCap]).run Tryd.prog w = .ok (.int .i64 (k : Nat)) (w.setRow b (rpCells vv n (m + k))) ∧ Rp vv (w.setRow b (rpCells vv n (m + k))) b n (m + k) ∧ Kp b w (w.setRow b (rpCells vv n (m + k))) := by
  unfold Rp at h
  have r := run_copy_row (P := Tryd.prog) w 23 23 3 3 b m dLen dCap x sLen sCap _ 3 (List.replicate k (.int .i64 vv)) Tryd.underlying23 info_int1 h (by simp [hn]) (fun j v hv => by
    rw [List.getElem?_replicate] at hv
    split at hv
    · injection hv with hv
      rw [← hv]
      exact hs j (by assumption)
    · cases hv) (by simp [rpCells]; omega) (fun v hv => by rw [List.eq_of_mem_replicate hv]; rfl)
  rw [List.length_replicate, show (rpCells vv n m).toList = List.replicate m (Value.int .i64 vv) ++ List.replicate (n - m) (Value.int .i64 0) from rfl, rep_more _ _ n m k hk] at r
  exact ⟨r, setRow_heap w b _ _ _ _ h, ⟨rfl, rfl, rfl, by simp, fun i _ hi => setRow_other w b i _ hi⟩⟩

set_option maxRecDepth 100000 in
set_option maxHeartbeats 2000000 in
theorem repeat_ok (vv : Int) (u : Value) (n : Nat) (w : World) (hu : Ro w u [vv]) (n0 : 0 < n) (n1 : n ≤ 144) :
    Calls Tryd.prog 30 #[u, .int .i64 (n : Nat)] w fun e w' => ∃ b, e = .returned (.slice (some ⟨b, 0, none⟩) n n) ∧ w.heap.size ≤ b ∧ Bk w' b (List.replicate n vv) #[] ∧ Below w.heap.size w w' := by
  obtain ⟨a, c, rfl, c1, c2, ca⟩ := hu
  obtain ⟨x, rfl, xl, hx⟩ := ca (by simp)
  have cx : Hid (w.cell? (x.add 0) = some (.int .i64 vv) ∧ x.block < w.heap.size) := ⟨hx 0 _ rfl, xl⟩
  clear ca hx xl
  simp only [List.length_cons, List.length_nil, Nat.zero_add] at c1 ⊢
  go_enter Tryd.func30, Tryd.ntmps30
  go_wp2_with fail
  refine (mul_one _ _ n1).mono ?_
  rintro e w' ⟨rfl, rfl⟩
  have h9 : ¬ (9223372036854775807 : Int) < (n : Int) := by omega
  go_wp2_with (at_make; obtain ⟨i0, hi, hz0, hz1, hz2⟩ := info_parts info_int; refine wpList_make_full _ rfl _ _ 23 rfl w'.heap.size 3 i0 (.int .i64 0) 1 Tryd.underlying23 hi hz0 hz1 _ _ _ _ n rfl rfl rfl rfl (by rw [hz2]; omega) (by unfold maxLen; omega) (Nat.le_refl _) ?_)
  intro w1 o1 g1
  clear hi hz0 hz1 hz2 h9
  have P1 : Hid (Rp vv w1 w'.heap.size n 0) := by
    rcases o1.2 with ⟨h, _⟩ | ⟨g, cap, cur, hv, hb, hg, h1, h2, h3, h4⟩
    · cases h
    · cases hv
      unfold Hid Rp rpCells
      rw [hg]
      congr 1
      have e : cur.toList = List.replicate n (Value.int .i64 0) := by
        have := toList_madeCells_one (.int .i64 0) n
        rw [List.take_of_length_le (by simp; omega)] at h4
        rw [h4]
        exact this
      simp only [List.replicate_zero, List.nil_append, Nat.sub_zero]
      rw [← e]
  have B1 : Hid (Below w'.heap.size w' w1) := (Below.refl _ _).grown g1 (Nat.le_refl _) (fun k hk => by cases hk)
  clear o1 g1
  obtain ⟨r2, p2, k2⟩ := rp_copy vv w1 w'.heap.size n 0 1 n n 1 c x P1.out (by show 1 = min 1 n; omega) (by omega) (fun j hj => by
    rw [show j = 0 by omega, B1.out.cell (p := x.add 0) (by rw [add_block]; exact cx.out.2)]
    exact cx.out.1)
  simp only [Nat.zero_add] at r2 p2 k2
  generalize w1.setRow w'.heap.size (rpCells vv n 1) = w2 at *
  have P2 : Hid (Rp vv w2 w'.heap.size n 1) := p2
  have B2 : Hid (Below w'.heap.size w' w2) := k2.below B1.out B1.out.size (Nat.le_refl _)
  clear p2 k2 P1 B1
  go_wp2
  clear r2
  obtain ⟨z, hz⟩ : ∃ z, w'.heap.size = z := ⟨_, rfl⟩
  rw [hz] at P2 B2
  simp only [hz]
  have Hz : Hid (w'.heap.size = z) := hz
  clear hz
  go_loopw [8] (fun i W' => ∃ m : Nat, 1 ≤ m ∧ m ≤ n ∧ i = .int .i64 (m : Nat) ∧ Rp vv W' z n m ∧ Below z w' W') (fun i _ => n - (intOf i).toNat)
  case atStart => exact ⟨1, Nat.le_refl _, n0, rfl, P2, B2⟩
  case round =>
    obtain ⟨m, m1, m2, rfl, hp, hb⟩ := hrel
    have P : Hid (Rp vv wr z n m) := hp
    have B : Hid (Below z w' wr) := hb
    clear hp hb P2 B2
    by_cases h0 : m = n
    · subst h0
      go_wp2
      go_ret
      exact ⟨z, rfl, by rw [Hz.out]; exact Nat.le_refl _, P.out.bk, by rw [Hz.out]; exact B⟩
    · have hm : m < n := by omega
      obtain ⟨k, hk⟩ : ∃ k, k = Nat.min m (n - m) := ⟨_, rfl⟩
      have hk' : k ≤ m ∧ k ≤ n - m ∧ 0 < k := by
        have : k = min m (n - m) := hk
        omega
      have rr : (Builtin.copy_ #[23, 23] 3 #[.slice (some ⟨z, m, none⟩) (n - m) (n - m), .slice (some ⟨z, 0, none⟩) m n]).run Tryd.prog wr.drew = .ok (.int .i64 (k : Nat)) (wr.drew.setRow z (rpCells vv n (m + k))) ∧ _ :=
        rp_copy vv wr.drew z n m k (n - m) (n - m) m n ⟨z, 0, none⟩ P.out hk (by omega) (fun j hj => by
          rw [Addr.add_lit, Nat.zero_add]
          exact Rp.cell (w := wr) P.out (by omega))
      obtain ⟨r1, p1, q1⟩ := rr
      have P1 : Hid (Rp vv (wr.drew.setRow z (rpCells vv n (m + k))) z n (m + k)) := p1
      have B1 : Hid (Below z w' (wr.drew.setRow z (rpCells vv n (m + k)))) := q1.below B.out.drew (by have := P.out.lt; show z ≤ wr.heap.size; omega) (Nat.le_refl _)
      obtain ⟨k1, k2, k3⟩ := hk'
      clear hk p1 q1
      generalize wr.drew.setRow z (rpCells vv n (m + k)) = w3 at *
      go_wp2
      go_region
      clear r1
      go_wp2
      go_round
      case rel => exact ⟨m + k, by omega, by omega, by go_num, P1, B1⟩
      case measure => simp [intOf]; omega
end Go.Proofs.YtolmfekefjnggaaDoor

namespace Go.Proofs.YtolmfekefjnggaaDoor.Fd

theorem near_mem {W H a : Nat} {x : Int} : x ∈ near W H a ↔ (0 < a / W ∧ x = (a : Int) - W) ∨ (0 < a % W ∧ x = (a : Int) - 1) ∨ (a % W + 1 < W ∧ x = (a : Int) + 1) ∨ (a / W + 1 < H ∧ x = (a : Int) + W) := by
  unfold near
  simp only [List.mem_append]
  constructor
  · rintro (h | h | h | h)
    · split at h
      · simp at h; left; exact ⟨by assumption, h⟩
      · simp at h
    · split at h
      · simp at h; right; left; exact ⟨by assumption, h⟩
      · simp at h
    · split at h
      · simp at h; right; right; left; exact ⟨by assumption, h⟩
      · simp at h
    · split at h
      · simp at h; right; right; right; exact ⟨by assumption, h⟩
      · simp at h
  · rintro (⟨h, e⟩ | ⟨h, e⟩ | ⟨h, e⟩ | ⟨h, e⟩)
    · left; rw [if_pos h, e]; simp
    · right; left; rw [if_pos h, e]; simp
    · right; right; left; rw [if_pos h, e]; simp
    · right; right; right; rw [if_pos h, e]; simp
theorem near_len (W H a : Nat) : (near W H a).length ≤ 4 := by
  unfold near
  simp only [List.length_append]
  have h : ∀ (c : Prop) [Decidable c] (x : Int), (if c then [x] else []).length ≤ 1 := by
    intro c _ x
    split <;> simp
  have h1 := h (0 < a / W) ((a : Int) - W)
  have h2 := h (0 < a % W) ((a : Int) - 1)
  have h3 := h (a % W + 1 < W) ((a : Int) + 1)
  have h4 := h (a / W + 1 < H) ((a : Int) + W)
  omega

/-- where a cell beside one lies; and that it has that one beside. -/
theorem near_cell {W H a : Nat} {x : Int} (hW : 0 < W) (ha : a < W * H) (h : x ∈ near W H a) : ∃ t : Nat, x = t ∧ t < W * H ∧ (a : Int) ∈ near W H t := by
  have e := Nat.div_add_mod a W
  have hr : a / W < H := Nat.div_lt_of_lt_mul ha
  have hc := Nat.mod_lt a hW
  have key : ∀ r c : Nat, c < W → (W * r + c) / W = r ∧ (W * r + c) % W = c := by
    intro r c h
    constructor
    · rw [Nat.mul_add_div hW, Nat.div_eq_of_lt h]; omega
    · rw [Nat.mul_add_mod, Nat.mod_eq_of_lt h]
  have bd : ∀ r c : Nat, r < H → c < W → W * r + c < W * H := by
    intro r c h1 h2
    have := Nat.mul_le_mul_left W (show r + 1 ≤ H by omega)
    rw [Nat.mul_add, Nat.mul_one] at this
    omega
  generalize a / W = r at *
  generalize a % W = c at *
  have ei : (a : Int) = (W : Int) * r + c := by rw [← e]; simp
  have hh := near_mem.1 h
  have e1 := (key r c hc).1
  have e2 := (key r c hc).2
  rw [e] at e1 e2
  rw [e1, e2] at hh
  rcases hh with ⟨h1, hx⟩ | ⟨h1, hx⟩ | ⟨h1, hx⟩ | ⟨h1, hx⟩
  · obtain ⟨r', rfl⟩ : ∃ r', r = r' + 1 := ⟨r - 1, by omega⟩
    have k := key r' c hc
    refine ⟨W * r' + c, ?_, bd r' c (by omega) hc, near_mem.2 ?_⟩
    · rw [hx, ei]; simp [Int.mul_add]; omega
    · rw [k.1, k.2]
      right; right; right
      refine ⟨hr, ?_⟩
      rw [ei]; simp [Int.mul_add]; omega
  · obtain ⟨c', rfl⟩ : ∃ c', c = c' + 1 := ⟨c - 1, by omega⟩
    have k := key r c' (by omega)
    refine ⟨W * r + c', ?_, bd r c' hr (by omega), near_mem.2 ?_⟩
    · rw [hx, ei]; simp; omega
    · rw [k.1, k.2]
      right; right; left
      refine ⟨hc, ?_⟩
      rw [ei]; simp; omega
  · have k := key r (c + 1) h1
    refine ⟨W * r + (c + 1), ?_, bd r (c + 1) hr h1, near_mem.2 ?_⟩
    · rw [hx, ei]; simp; omega
    · rw [k.1, k.2]
      right; left
      refine ⟨by omega, ?_⟩
      rw [ei]; simp; omega
  · have k := key (r + 1) c hc
    refine ⟨W * (r + 1) + c, ?_, bd (r + 1) c h1 hc, near_mem.2 ?_⟩
    · rw [hx, ei]; simp [Int.mul_add]; omega
    · rw [k.1, k.2]
      left
      refine ⟨by omega, ?_⟩
      rw [ei]; simp [Int.mul_add]; omega

theorem pair_app {l m : List Int} (h1 : l.Pairwise (· < ·)) (h2 : m.Pairwise (· < ·)) (h3 : ∀ x ∈ l, ∀ y ∈ m, x < y) : (l ++ m).Pairwise (· < ·) := List.pairwise_append.2 ⟨h1, h2, h3⟩
theorem pair_if (c : Prop) [Decidable c] (x : Int) : (if c then [x] else []).Pairwise (· < ·) := by
  split <;> simp
theorem mem_if {c : Prop} [Decidable c] {x y : Int} (h : y ∈ (if c then [x] else [])) : c ∧ y = x := by
  split at h
  · simp at h; exact ⟨by assumption, h⟩
  · simp at h
/-- the cells beside one rise (a field is 2 wide at least where there are two beside one another in a row). -/
theorem near_rise (W H a : Nat) (hW : 0 < W) : (near W H a).Pairwise (· ≠ ·) := by
  unfold near
  by_cases h1 : W = 1
  · subst h1
    rw [if_neg (show ¬ 0 < a % 1 by omega), if_neg (show ¬ a % 1 + 1 < 1 by omega), List.nil_append, List.nil_append]
    refine (pair_app (pair_if _ _) (pair_if _ _) ?_).imp (fun h => by omega)
    intro x hx y hy
    have := mem_if hx
    have := mem_if hy
    omega
  · refine (pair_app (pair_if _ _) (pair_app (pair_if _ _) (pair_app (pair_if _ _) (pair_if _ _) ?_) ?_) ?_).imp (fun h => by omega)
    · intro x hx y hy
      have := mem_if hx
      have := mem_if hy
      omega
    · intro x hx y hy
      have := mem_if hx
      rcases List.mem_append.1 hy with hy | hy
      · have := mem_if hy; omega
      · have := mem_if hy; omega
    · intro x hx y hy
      have := mem_if hx
      rcases List.mem_append.1 hy with hy | hy
      · have := mem_if hy; omega
      · rcases List.mem_append.1 hy with hy | hy
        · have := mem_if hy; omega
        · have := mem_if hy; omega
end Go.Proofs.YtolmfekefjnggaaDoor.Fd

namespace Go.Proofs.YtolmfekefjnggaaDoor.Wy

/-- there is a way from a cell to t whose steps come to d. -/
inductive Way (nb : Nat → List Int) (st : Nat → Nat → Int) (t : Nat) : Nat → Int → Prop
  | here : Way nb st t t 0
  | step {i j : Nat} {d : Int} : (j : Int) ∈ nb i → 0 < st i j → Way nb st t j d → Way nb st t i (st i j + d)

section
variable {nb : Nat → List Int} {st : Nat → Nat → Int} {t : Nat}

theorem Way.nonneg {i : Nat} {d : Int} (h : Way nb st t i d) : 0 ≤ d := by
  induction h with
  | here => omega
  | step _ h1 _ ih => omega

/-- x is how far it is from i: -1, if there is no way. -/
def Least (nb : Nat → List Int) (st : Nat → Nat → Int) (t i : Nat) (x : Int) : Prop :=
  (x = -1 ∧ ∀ d, ¬ Way nb st t i d) ∨ (Way nb st t i x ∧ ∀ d, Way nb st t i d → x ≤ d)
theorem Least.uniq {i : Nat} {x y : Int} (hx : Least nb st t i x) (hy : Least nb st t i y) : x = y := by
  rcases hx with ⟨rfl, hx⟩ | ⟨h1, h2⟩
  · rcases hy with ⟨rfl, _⟩ | ⟨h3, _⟩
    · rfl
    · exact absurd h3 (hx _)
  · rcases hy with ⟨rfl, hy⟩ | ⟨h3, h4⟩
    · exact absurd h1 (hy _)
    · have := h2 _ h3
      have := h4 _ h1
      omega
theorem Least.ge {i : Nat} {x : Int} (h : Least nb st t i x) : -1 ≤ x := by
  rcases h with ⟨rfl, _⟩ | ⟨h, _⟩
  · omega
  · have := h.nonneg; omega

/-- the list of all. -/
def IsFar (nb : Nat → List Int) (st : Nat → Nat → Int) (t n : Nat) (l : List Int) : Prop := l.length = n ∧ ∀ (i : Nat) x, l[i]? = some x → Least nb st t i x
theorem IsFar.uniq {n : Nat} {l m : List Int} (hl : IsFar nb st t n l) (hm : IsFar nb st t n m) : l = m := by
  apply List.ext_getElem?
  intro i
  by_cases h : i < n
  · have h1 : i < l.length := by rw [hl.1]; exact h
    have h2 : i < m.length := by rw [hm.1]; exact h
    rw [List.getElem?_eq_getElem h1, List.getElem?_eq_getElem h2, (hl.2 i _ (List.getElem?_eq_getElem h1)).uniq (hm.2 i _ (List.getElem?_eq_getElem h2))]
  · rw [List.getElem?_eq_none (by rw [hl.1]; omega), List.getElem?_eq_none (by rw [hm.1]; omega)]

/-- what is told is so: there is such a way. -/
def Sound (nb : Nat → List Int) (st : Nat → Nat → Int) (t : Nat) (l : List Int) : Prop := ∀ (i : Nat) x, l[i]? = some x → x = -1 ∨ Way nb st t i x
/-- from no cell is it further than from one beside it, and the step onto that. -/
def Shut (nb : Nat → List Int) (st : Nat → Nat → Int) (l : List Int) (i : Nat) : Prop := ∀ (j : Nat) x y, l[i]? = some x → l[j]? = some y → (j : Int) ∈ nb i → 0 < st i j → 0 ≤ y → 0 ≤ x ∧ x ≤ st i j + y

/-- what is sound and shut is how far it is. -/
theorem far_of {n : Nat} {l : List Int} (hn : l.length = n) (hnb : ∀ (i j : Nat), i < n → (j : Int) ∈ nb i → j < n) (ht : l[t]? = some 0) (hs : Sound nb st t l) (hc : ∀ i, i < n → Shut nb st l i) : IsFar nb st t n l := by
  have key : ∀ i d, Way nb st t i d → i < n → ∃ x, l[i]? = some x ∧ 0 ≤ x ∧ x ≤ d := by
    intro i d h
    induction h with
    | here => intro _; exact ⟨0, ht, by omega, by omega⟩
    | @step i j d h1 h2 h3 ih =>
      intro hi
      obtain ⟨y, hy, y0, yd⟩ := ih (hnb i j hi h1)
      have hx : i < l.length := by rw [hn]; exact hi
      have := hc i hi j _ y (List.getElem?_eq_getElem hx) hy h1 h2 y0
      exact ⟨_, List.getElem?_eq_getElem hx, this.1, by omega⟩
  refine ⟨hn, fun i x hx => ?_⟩
  have hi : i < n := by rw [← hn]; exact (List.getElem?_eq_some_iff.1 hx).1
  rcases hs i x hx with rfl | hw
  · refine .inl ⟨rfl, fun d hd => ?_⟩
    obtain ⟨x, h1, h2, -⟩ := key i d hd hi
    rw [hx] at h1
    injection h1 with h1
    omega
  · refine .inr ⟨hw, fun d hd => ?_⟩
    obtain ⟨y, h1, h2, h3⟩ := key i d hd hi
    rw [hx] at h1
    injection h1 with h1
    omega
/-- and the other way round. -/
theorem IsFar.sound {n : Nat} {l : List Int} (h : IsFar nb st t n l) : Sound nb st t l := fun i x hx => by
  rcases h.2 i x hx with ⟨rfl, _⟩ | ⟨h, _⟩
  · exact .inl rfl
  · exact .inr h
theorem IsFar.shut {n : Nat} {l : List Int} (h : IsFar nb st t n l) (i : Nat) : Shut nb st l i := by
  intro j x y hx hy hj hs y0
  rcases h.2 j y hy with ⟨rfl, _⟩ | ⟨hy1, _⟩
  · omega
  · have hw := Way.step hj hs hy1
    rcases h.2 i x hx with ⟨rfl, hx1⟩ | ⟨hx1, hx2⟩
    · exact absurd hw (hx1 _)
    · exact ⟨hx1.nonneg, hx2 _ hw⟩
theorem IsFar.here {n : Nat} {l : List Int} (h : IsFar nb st t n l) (ht : t < n) : l[t]? = some 0 := by
  have hl : t < l.length := by rw [h.1]; exact ht
  have h1 := List.getElem?_eq_getElem hl
  rcases h.2 t _ h1 with ⟨_, h2⟩ | ⟨h2, h3⟩
  · exact absurd Way.here (h2 0)
  · have := h3 0 .here
    have := h2.nonneg
    rw [h1, show l[t] = 0 by omega]
/-- from where there is a way, one is beside that is on a shortest. -/
theorem IsFar.next {n : Nat} {l : List Int} (h : IsFar nb st t n l) (hnb : ∀ (i j : Nat), i < n → (j : Int) ∈ nb i → j < n) {i : Nat} {x : Int} (hx : l[i]? = some x) (x0 : 0 ≤ x) (hi : i ≠ t) :
    ∃ (j : Nat) (y : Int), (j : Int) ∈ nb i ∧ l[j]? = some y ∧ 0 < st i j ∧ 0 ≤ y ∧ x = st i j + y := by
  have hin : i < n := by rw [← h.1]; exact (List.getElem?_eq_some_iff.1 hx).1
  rcases h.2 i x hx with ⟨rfl, _⟩ | ⟨hw, hl⟩
  · omega
  · cases hw with
    | here => exact absurd rfl hi
    | @step _ j d h1 h2 h3 =>
      have hj : j < l.length := by rw [h.1]; exact hnb i j hin h1
      have hy := List.getElem?_eq_getElem hj
      refine ⟨j, _, h1, hy, h2, ?_, ?_⟩
      · rcases h.2 j _ hy with ⟨_, h4⟩ | ⟨h4, _⟩
        · exact absurd h3 (h4 _)
        · exact h4.nonneg
      · rcases h.2 j _ hy with ⟨_, h4⟩ | ⟨h4, h5⟩
        · exact absurd h3 (h4 _)
        · have a1 := h5 _ h3
          have a2 := hl _ (Way.step h1 h2 h4)
          omega

/-- one cell nearer. -/
theorem Sound.set {l : List Int} {i j : Nat} {y : Int} (h : Sound nb st t l) (hy : l[j]? = some y) (hj : (j : Int) ∈ nb i) (hs : 0 < st i j) (y0 : 0 ≤ y) : Sound nb st t (l.set i (st i j + y)) := by
  intro k x hk
  rw [List.getElem?_set] at hk
  by_cases e : i = k
  · subst e
    by_cases hl : i < l.length
    · simp only [hl, if_true] at hk
      injection hk with hk
      subst hk
      rcases h j y hy with rfl | hw
      · omega
      · exact .inr (.step hj hs hw)
    · simp [hl] at hk
  · rw [if_neg e] at hk
    exact h k x hk
end

/-! how often a cell may get nearer. -/
/-- what is left. -/
def left (M : Nat) (l : List Int) : Nat := (l.map fun x => if x < 0 then M else x.toNat).sum
/-- how many are told. -/
def told (l : List Int) : Nat := (l.map fun x => if x < 0 then 0 else 1).sum
theorem sum_set (f : Int → Nat) (l : List Int) (i : Nat) (x v : Int) (h : l[i]? = some x) : ((l.set i v).map f).sum + f x = (l.map f).sum + f v := by
  induction l generalizing i with
  | nil => simp at h
  | cons a l ih =>
    cases i with
    | zero =>
      simp at h
      subst h
      simp
      omega
    | succ i =>
      simp at h
      have := ih i h
      simp only [List.set_cons_succ, List.map_cons, List.sum_cons]
      omega
theorem left_le (M : Nat) (l : List Int) (h : ∀ x ∈ l, x ≤ M) : left M l ≤ l.length * M := by
  unfold left
  induction l with
  | nil => simp
  | cons a l ih =>
    have h1 := ih (fun x hx => h x (List.mem_cons_of_mem _ hx))
    have h2 := h a (List.mem_cons_self ..)
    simp only [List.map_cons, List.sum_cons, List.length_cons, Nat.add_mul, Nat.one_mul]
    split <;> omega
theorem told_le (l : List Int) : told l ≤ l.length := by
  unfold told
  induction l with
  | nil => simp
  | cons a l ih =>
    simp only [List.map_cons, List.sum_cons, List.length_cons]
    split <;> omega
/-- no cell is further than two for each that is told, but one. -/
def Flat (l : List Int) : Prop := ∀ (i : Nat) x, l[i]? = some x → x < 0 ∨ x + 2 ≤ 2 * told l
theorem Flat.set {l : List Int} {i j : Nat} {x y s : Int} (h : Flat l) (hx : l[i]? = some x) (hy : l[j]? = some y) (y0 : 0 ≤ y) (s0 : 0 < s) (s2 : s ≤ 2) (hn : x < 0 ∨ s + y < x) : Flat (l.set i (s + y)) := by
  have e := sum_set (fun x => if x < 0 then 0 else 1) l i x (s + y) hx
  have ht : told (l.set i (s + y)) + (if x < 0 then 0 else 1) = told l + 1 := by
    unfold told
    rw [e, if_neg (show ¬ s + y < 0 by omega)]
  have hyl := h j y hy
  have hxl := h i x hx
  intro k z hk
  rw [List.getElem?_set] at hk
  by_cases ek : i = k
  · subst ek
    have hl : i < l.length := (List.getElem?_eq_some_iff.1 hx).1
    simp only [hl, if_true] at hk
    injection hk with hk
    subst hk
    right
    by_cases q : x < 0
    · rw [if_pos q] at ht; omega
    · rw [if_neg q] at ht; omega
  · rw [if_neg ek] at hk
    have hz := h k z hk
    by_cases q : x < 0
    · rw [if_pos q] at ht; omega
    · rw [if_neg q] at ht; omega
theorem left_set {l : List Int} {i j n : Nat} {x y s : Int} (h : Flat l) (hl : l.length = n) (hx : l[i]? = some x) (hy : l[j]? = some y) (y0 : 0 ≤ y) (s0 : 0 < s) (s2 : s ≤ 2) (hn : x < 0 ∨ s + y < x) : left (2 * n + 1) (l.set i (s + y)) < left (2 * n + 1) l := by
  have e := sum_set (fun x => if x < 0 then 2 * n + 1 else x.toNat) l i x (s + y) hx
  have hyl := h j y hy
  have ht := told_le l
  unfold left
  rw [if_neg (show ¬ s + y < 0 by omega)] at e
  by_cases q : x < 0
  · rw [if_pos q] at e; omega
  · rw [if_neg q] at e; omega
/-! a list of cells to go on from. -/
section
variable {nb : Nat → List Int} {st : Nat → Nat → Int} {t n : Nat}

/-- Shut, of one pair. -/
def Pr (nb : Nat → List Int) (st : Nat → Nat → Int) (l : List Int) (i j : Nat) : Prop := ∀ x y, l[i]? = some x → l[j]? = some y → (j : Int) ∈ nb i → 0 < st i j → 0 ≤ y → 0 ≤ x ∧ x ≤ st i j + y

/-- cells beside one another are so either way; none is beside itself; a step is 2 at most. -/
structure Even (nb : Nat → List Int) (st : Nat → Nat → Int) (n : Nat) : Prop where
  cell : ∀ (i : Nat) x, i < n → x ∈ nb i → ∃ j : Nat, x = j ∧ j < n ∧ (i : Int) ∈ nb j
  other : ∀ (i : Nat), i < n → (i : Int) ∉ nb i
  two : ∀ i j, st i j ≤ 2
theorem Even.lt (h : Even nb st n) : ∀ (i j : Nat), i < n → (j : Int) ∈ nb i → j < n := fun i j hi hj => by
  obtain ⟨k, e, hk, -⟩ := h.cell i j hi hj
  have : j = k := by omega
  omega
theorem Even.back (h : Even nb st n) {i j : Nat} (hi : i < n) (hj : (j : Int) ∈ nb i) : (i : Int) ∈ nb j := by
  obtain ⟨k, e, hk, hb⟩ := h.cell i j hi hj
  have : j = k := by omega
  rw [this]
  exact hb

/-- between two rounds: td, the cells to go on from. -/
structure Wk (nb : Nat → List Int) (st : Nat → Nat → Int) (t n : Nat) (l : List Int) (td : List Nat) : Prop where
  len : l.length = n
  here : l[t]? = some 0
  sound : Sound nb st t l
  flat : Flat l
  todo : ∀ j ∈ td, ∃ y, l[j]? = some y ∧ 0 ≤ y
  shut : ∀ i j, j ∉ td → Pr nb st l i j
/-- in a round: k cells beside the first one have been looked at. -/
structure Wiy (nb : Nat → List Int) (st : Nat → Nat → Int) (t n : Nat) (l : List Int) (a : Nat) (rest : List Nat) (k : Nat) : Prop where
  wk : Wk nb st t n l (a :: rest)
  mid : ∀ (q i : Nat), q < k → (nb a)[q]? = some (i : Int) → Pr nb st l i a

theorem Wk.start (ht : t < n) : Wk nb st t n ((List.replicate n (-1)).set t 0) [t] := by
  have get : ∀ (i : Nat) x, ((List.replicate n (-1 : Int)).set t 0)[i]? = some x → (i = t ∧ x = 0) ∨ (i ≠ t ∧ x = -1) := by
    intro i x hx
    rw [List.getElem?_set] at hx
    by_cases e : t = i
    · subst e
      rw [if_pos rfl, List.length_replicate, if_pos ht] at hx
      injection hx with hx
      exact .inl ⟨rfl, hx.symm⟩
    · rw [if_neg e, List.getElem?_replicate] at hx
      split at hx
      · injection hx with hx
        exact .inr ⟨fun h => e h.symm, hx.symm⟩
      · cases hx
  have h0 : ((List.replicate n (-1 : Int)).set t 0)[t]? = some 0 := by
    rw [List.getElem?_set, if_pos rfl, List.length_replicate, if_pos ht]
  refine ⟨by simp, h0, fun i x hx => ?_, fun i x hx => ?_, fun j hj => ?_, fun i j hj x y hx hy => ?_⟩
  · rcases get i x hx with ⟨rfl, rfl⟩ | ⟨_, rfl⟩
    · exact .inr .here
    · exact .inl rfl
  · rcases get i x hx with ⟨rfl, rfl⟩ | ⟨_, rfl⟩
    · right
      have e := sum_set (fun x => if x < 0 then 0 else 1) (List.replicate n (-1)) i (-1) 0 (by rw [List.getElem?_replicate, if_pos ht])
      have : told ((List.replicate n (-1)).set i 0) = ((List.replicate n (-1 : Int)).map fun x => if x < 0 then 0 else 1).sum + 1 := by
        unfold told
        simpa using e
      omega
    · left; omega
  · simp at hj
    subst hj
    exact ⟨0, h0, by omega⟩
  · intro _ _ y0
    rcases get j y hy with ⟨rfl, rfl⟩ | ⟨_, rfl⟩
    · simp at hj
    · omega

theorem left_start (ht : t < n) (hn : n ≤ 144) : left (2 * n + 1) ((List.replicate n (-1)).set t 0) ≤ 41616 := by
  refine Nat.le_trans (left_le _ _ fun x hx => ?_) ?_
  · rcases List.mem_or_eq_of_mem_set hx with h | h
    · rw [List.eq_of_mem_replicate h]; omega
    · omega
  · rw [List.length_set, List.length_replicate]
    exact Nat.mul_le_mul hn (show 2 * n + 1 ≤ 289 by omega)

theorem Wiy.skip {l : List Int} {a b k : Nat} {rest : List Nat} {x y : Int} (h : Wiy nb st t n l a rest k) (hb : (nb a)[k]? = some (b : Int)) (hx : l[b]? = some x) (hy : l[a]? = some y) (hs : 0 < st b a → 0 ≤ x ∧ x ≤ st b a + y) : Wiy nb st t n l a rest (k + 1) := by
  refine ⟨h.wk, fun q i hq hi => ?_⟩
  by_cases e : q = k
  · subst e
    rw [hb] at hi
    injection hi with hi
    have : b = i := by omega
    subst this
    intro x' y' hx' hy' _ h0 _
    rw [hx] at hx'
    rw [hy] at hy'
    injection hx' with hx'
    injection hy' with hy'
    subst hx'
    subst hy'
    exact hs h0
  · exact h.mid q i (by omega) hi

theorem Wiy.set {l : List Int} {a b k : Nat} {rest : List Nat} {x y : Int} (E : Even nb st n) (h : Wiy nb st t n l a rest k) (hb : (nb a)[k]? = some (b : Int)) (hx : l[b]? = some x) (hy : l[a]? = some y) (h0 : 0 < st b a) (hn : x < 0 ∨ st b a + y < x) :
    Wiy nb st t n (l.set b (st b a + y)) a (rest ++ [b]) (k + 1) ∧ left (2 * n + 1) (l.set b (st b a + y)) < left (2 * n + 1) l := by
  have an : a < n := by rw [← h.wk.len]; exact (List.getElem?_eq_some_iff.1 hy).1
  have bn : b < l.length := (List.getElem?_eq_some_iff.1 hx).1
  have hm : (b : Int) ∈ nb a := List.mem_of_getElem? hb
  have hm' := E.back an hm
  have hab : b ≠ a := by
    rintro rfl
    exact E.other b an hm
  obtain ⟨y1, hy1, y0⟩ := h.wk.todo a (List.mem_cons_self ..)
  rw [hy] at hy1
  injection hy1 with hy1
  subst hy1
  have hbt : b ≠ t := by
    rintro rfl
    rw [h.wk.here] at hx
    injection hx with hx
    omega
  have get : ∀ (i : Nat) z, (l.set b (st b a + y))[i]? = some z → (i = b ∧ z = st b a + y) ∨ (i ≠ b ∧ l[i]? = some z) := by
    intro i z hz
    rw [List.getElem?_set] at hz
    by_cases e : b = i
    · subst e
      rw [if_pos rfl, if_pos bn] at hz
      injection hz with hz
      exact .inl ⟨rfl, hz.symm⟩
    · rw [if_neg e] at hz
      exact .inr ⟨fun h => e h.symm, hz⟩
  have keep : ∀ (i : Nat), i ≠ b → (l.set b (st b a + y))[i]? = l[i]? := by
    intro i hi
    rw [List.getElem?_set, if_neg (fun h => hi h.symm)]
  refine ⟨⟨⟨by simp [h.wk.len], ?_, h.wk.sound.set hy hm' h0 y0, h.wk.flat.set hx hy y0 h0 (E.two _ _) hn, fun j hj => ?_, fun i j hj => ?_⟩, fun q i hq hi => ?_⟩, left_set h.wk.flat h.wk.len hx hy y0 h0 (E.two _ _) hn⟩
  · rw [keep t (fun h => hbt h.symm)]
    exact h.wk.here
  · by_cases e : j = b
    · subst e
      exact ⟨st j a + y, by rw [List.getElem?_set, if_pos rfl, if_pos bn], by omega⟩
    · rw [keep j e]
      refine h.wk.todo j ?_
      simp only [List.mem_cons, List.mem_append, List.not_mem_nil, or_false] at hj ⊢
      rcases hj with hj | hj | hj
      · exact .inl hj
      · exact .inr hj
      · exact absurd hj e
  · have hj1 : j ∉ a :: rest := by
      simp only [List.mem_cons, List.mem_append, List.not_mem_nil, or_false, not_or] at hj ⊢
      exact ⟨hj.1, hj.2.1⟩
    have hj2 : j ≠ b := by
      simp only [List.mem_cons, List.mem_append, List.not_mem_nil, or_false, not_or] at hj
      exact hj.2.2
    have P := h.wk.shut i j hj1
    intro x' y' hx' hy' hn' h0' y0'
    rw [keep j hj2] at hy'
    rcases get i x' hx' with ⟨rfl, rfl⟩ | ⟨_, hx1⟩
    · have := P x y' hx hy' hn' h0' y0'
      omega
    · exact P x' y' hx1 hy' hn' h0' y0'
  · intro x' y' hx' hy' hn' h0' y0'
    rw [keep a (fun h => hab h.symm), hy] at hy'
    injection hy' with hy'
    subst hy'
    rcases get i x' hx' with ⟨rfl, rfl⟩ | ⟨ib, hx1⟩
    · omega
    · have hq' : q < k := by
        rcases Nat.lt_or_ge q k with h | h
        · exact h
        · have : q = k := by omega
          subst this
          rw [hb] at hi
          injection hi with hi
          exact absurd (by omega) ib
      exact h.mid q i hq' hi x' y hx1 hy hn' h0' y0'

theorem Wiy.done {l : List Int} {a : Nat} {rest : List Nat} (E : Even nb st n) (h : Wiy nb st t n l a rest (nb a).length) : Wk nb st t n l rest := by
  refine ⟨h.wk.len, h.wk.here, h.wk.sound, h.wk.flat, fun j hj => h.wk.todo j (List.mem_cons_of_mem _ hj), fun i j hj => ?_⟩
  by_cases e : j = a
  · subst e
    intro x y hx hy hn h0 y0
    have hi : i < n := by rw [← h.wk.len]; exact (List.getElem?_eq_some_iff.1 hx).1
    obtain ⟨q, hq⟩ := List.mem_iff_getElem?.1 (E.back hi hn)
    exact h.mid q i (List.getElem?_eq_some_iff.1 hq).1 hq x y hx hy hn h0 y0
  · exact h.wk.shut i j (by simp [e, hj])
theorem Wk.far {l : List Int} (E : Even nb st n) (h : Wk nb st t n l []) : IsFar nb st t n l := far_of h.len E.lt h.here h.sound fun i hi j => h.shut i j (by simp)
end

/-! there and back. -/
theorem Way.snoc {nb : Nat → List Int} {s : Nat → Int} {a i j : Nat} {d : Int} (h : Way nb (fun _ j => s j) j a d) (hi : (i : Int) ∈ nb j) (h0 : 0 < s i) : Way nb (fun _ j => s j) i a (d + s i) := by
  induction h with
  | here =>
    have := Way.step (st := fun _ j => s j) hi h0 .here
    rwa [show s i + 0 = 0 + s i by omega] at this
  | @step p q d h1 h2 h3 ih =>
    have := Way.step (st := fun _ j => s j) h1 h2 ih
    rwa [show s q + (d + s i) = s q + d + s i by omega] at this
theorem Way.snoc' {nb : Nat → List Int} {s : Nat → Int} {a i j : Nat} {d : Int} (h : Way nb (fun i _ => s i) j a d) (hi : (i : Int) ∈ nb j) (h0 : 0 < s j) : Way nb (fun i _ => s i) i a (d + s j) := by
  induction h with
  | here =>
    have := Way.step (st := fun i _ => s i) hi h0 .here
    rwa [show s j + 0 = 0 + s j by omega] at this
  | @step p q d h1 h2 h3 ih =>
    have := Way.step (st := fun i _ => s i) h1 h2 ih
    rwa [show s p + (d + s j) = s p + d + s j by omega] at this
theorem Way.turn {nb : Nat → List Int} {s : Nat → Int} {n : Nat} (E : Even nb (fun _ j => s j) n) {t i : Nat} {d : Int} (h : Way nb (fun i _ => s i) t i d) (hi : i < n) : Way nb (fun _ j => s j) i t d := by
  induction h with
  | here => exact .here
  | @step i j d h1 h2 h3 ih =>
    have := (ih (E.lt _ _ hi h1)).snoc (E.back hi h1) h2
    rwa [show d + s i = s i + d by omega] at this
theorem Way.turn' {nb : Nat → List Int} {s : Nat → Int} {n : Nat} (E : Even nb (fun _ j => s j) n) {t i : Nat} {d : Int} (h : Way nb (fun _ j => s j) t i d) (hi : i < n) : Way nb (fun i _ => s i) i t d := by
  induction h with
  | here => exact .here
  | @step i j d h1 h2 h3 ih =>
    have := (ih (E.lt _ _ hi h1)).snoc' (E.back hi h1) h2
    rwa [show d + s j = s j + d by omega] at this
theorem Least.turn {nb : Nat → List Int} {s : Nat → Int} {n : Nat} (E : Even nb (fun _ j => s j) n) {t i : Nat} {x : Int} (h : Least nb (fun i _ => s i) t i x) (hi : i < n) (ht : t < n) : Least nb (fun _ j => s j) i t x := by
  rcases h with ⟨rfl, h⟩ | ⟨h1, h2⟩
  · exact .inl ⟨rfl, fun d hd => h d (hd.turn' E ht)⟩
  · exact .inr ⟨h1.turn E hi, fun d hd => h2 d (hd.turn' E ht)⟩

/-- a field's. -/
theorem even_near {W H : Nat} (hW : 0 < W) {st : Nat → Nat → Int} (h2 : ∀ i j, st i j ≤ 2) : Even (Fd.near W H) st (W * H) := by
  refine ⟨fun i x hi hx => ?_, fun i hi hx => ?_, h2⟩
  · obtain ⟨t, h1, h3, h4⟩ := Fd.near_cell hW hi hx
    exact ⟨t, h1, h3, h4⟩
  · have := Fd.near_mem.1 hx
    omega
end Go.Proofs.YtolmfekefjnggaaDoor.Wy

