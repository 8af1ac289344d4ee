/- works.bring. · Slices of api.Event: a whole list behind another one: the run itself. · works.Dig. · Behind digging a world is right; what is dug is not lost. Plain mathematics. · Who trains beside a cell, cell by cell. Plain mathematics. · The reference's Dig, its second loop: what stays while units bring. · Worlds: the reference's On and number. · What the reference says of the cells beside one, and of a step. · Cells beside one another: plain mathematics. -/
import Derived.Test.YteieikgkmfglaaaGreatDoorZTurnPlays9
import Derived.Test.YteieikgkmfglaaaGreatDoorZTurnPlays7
import Derived.Test.YteieikgkmfglaaaGreatDoorZTurnPlays1
import Derived.Test.YteieikgkmfglaaaGreatDoorZTurnPlays5
import Derived.Test.YteieikgkmfglaaaGreatDoorZTurnPlays4
import Derived.Test.YteieikgkmfglaaaGreatDoorZTurnPlays2
import Derived.Deep.DeepCutAuto
namespace Go.Proofs.YteieikgkmfglaaaGreatDoor
open Go.RowKit
set_option linter.unusedVariables false

def BrI (ks : List KV) (Wn Hn : Nat) (Y : WV) (z b1 : Nat) (w1 : World) (u1 u2 u3 u4 u5 ev j : Value) (V : World) : Prop := ∃ q : Nat, q ≤ Y.us.length ∧ j = .int .i64 (q : Nat) ∧ Wx V z (.int .i64 Y.turn) (.int .i64 Y.next) (.int .i64 Y.wide) (.int .i64 Y.high) u1 u2 u3 u4 u5 ∧ BrS ks Y (br ks Wn Hn Y q).1 (br ks Wn Hn Y q).2 b1 (z + 1) w1 u1 u2 u3 u4 u5 ev V
set_option maxRecDepth 100000 in
set_option maxHeartbeats 16000000 in
theorem bring_any (vk : Value) (ks : List KV) (Y : WV) (u1 u2 u3 u4 u5 : Value) (b1 : Nat) (w0 w : World) (hk : Kl w0 vk ks) (hb0 : Below w0.heap.size w0 w) (h0b : w0.heap.size ≤ b1) (o1 : Ow w b1 u1 Y.gs) (o2 : Ow w b1 u2 Y.os) (o3 : Ow w b1 u3 Y.gold) (o4 : Uno w b1 u4 Y.us) (o5 : Jbo w b1 u5 Y.qs) (hd : [u1, u2, u3, u4, u5].Pairwise Dif) (hf : DFit ks Y) (Wn Hn : Nat) (e1 : Y.wide = (Wn : Nat)) (e2 : Y.high = (Hn : Nat)) (G : Fd.Good Wn Hn Y.gs Y.os) (hs : Sd w0) :
    Calls Tryz.prog 34 #[vk, .agg #[.int .i64 Y.turn, .int .i64 Y.next, .int .i64 Y.wide, .int .i64 Y.high, u1, u2, u3, u4, u5]] w fun e w' => ∃ ev, e = .returned ev ∧ BrS ks Y (br ks Wn Hn Y Y.us.length).1 (br ks Wn Hn Y Y.us.length).2 b1 w.heap.size w u1 u2 u3 u4 u5 ev w' := by
  have WH : Hid (Y.wide = (Wn : Nat) ∧ Y.high = (Hn : Nat) ∧ Fd.Good Wn Hn Y.gs Y.os ∧ Sd w0) := ⟨e1, e2, G, hs⟩
  clear e1 e2 G hs
  have KB : Hid (Kl w0 vk ks ∧ Below w0.heap.size w0 w ∧ w0.heap.size ≤ b1) := ⟨hk, hb0, h0b⟩
  obtain ⟨pk, qk, rfl, ck1, ck2, kc⟩ := hk
  have T0 : Hid (BrS ks Y Y [] b1 w.heap.size w u1 u2 u3 u4 u5 (.slice none 0 0) w) := ⟨o1, o2, o3, o4, o5, Evo.nil _ _, hd, Fr.below (Below.refl _ _), ⟨rfl, rfl, rfl, rfl, rfl, rfl, rfl, rfl, rfl⟩, hf⟩
  have LW : Hid (∀ x ∈ [u1, u2, u5], ∀ k, x.ownBlock = some k → k < w.heap.size) := by
    intro x hx k hk
    simp only [List.mem_cons, List.not_mem_nil, or_false] at hx
    rcases hx with rfl | rfl | rfl
    · exact (o1.block k hk).2
    · exact (o2.block k hk).2
    · exact (o5.block k hk).2
  have L24 : Hid ((∀ k, u3.ownBlock = some k → b1 ≤ k ∧ k < w.heap.size) ∧ ∀ k, u4.ownBlock = some k → b1 ≤ k ∧ k < w.heap.size) := ⟨o3.block, o4.block⟩
  have ul : Y.us.length ≤ 40 := hf.ul
  obtain ⟨a1, h1, rfl⟩ := o1.len
  obtain ⟨a2, h2, rfl⟩ := o2.len
  obtain ⟨a3, h3, rfl⟩ := o3.len
  obtain ⟨a4, h4, rfl⟩ := o4.len
  obtain ⟨a5, h5, rfl⟩ := o5.len
  clear hb0 h0b kc o1 o2 o3 o4 o5 hd hf
  go_enter Tryz.func34, Tryz.ntmps34
  go_upto_region 2 with fail
  have BA : Hid (Below w.heap.size w (w.alloc (Obj.cells #[.int .i64 Y.turn, .int .i64 Y.next, .int .i64 Y.wide, .int .i64 Y.high, .slice a1 Y.gs.length h1, .slice a2 Y.os.length h2, .slice a3 Y.gold.length h3, .slice a4 Y.us.length h4, .slice a5 Y.qs.length h5] 29))) := (Below.refl _ _).alloc (Nat.le_refl _) _
  obtain ⟨z, hz⟩ : ∃ z, w.heap.size = z := ⟨_, rfl⟩
  have HZ : Hid (w.heap.size = z) := hz
  have X1 : Hid (Wx (w.alloc (Obj.cells #[.int .i64 Y.turn, .int .i64 Y.next, .int .i64 Y.wide, .int .i64 Y.high, .slice a1 Y.gs.length h1, .slice a2 Y.os.length h2, .slice a3 Y.gold.length h3, .slice a4 Y.us.length h4, .slice a5 Y.qs.length h5] 29)) z (.int .i64 Y.turn) (.int .i64 Y.next) (.int .i64 Y.wide) (.int .i64 Y.high) (.slice a1 Y.gs.length h1) (.slice a2 Y.os.length h2) (.slice a3 Y.gold.length h3) (.slice a4 Y.us.length h4) (.slice a5 Y.qs.length h5)) := Wx.new (w := w) _ _ _ _ _ _ _ _ _ hz
  have S1 : Hid ((w.alloc (Obj.cells #[.int .i64 Y.turn, .int .i64 Y.next, .int .i64 Y.wide, .int .i64 Y.high, .slice a1 Y.gs.length h1, .slice a2 Y.os.length h2, .slice a3 Y.gold.length h3, .slice a4 Y.us.length h4, .slice a5 Y.qs.length h5] 29)).heap.size = z + 1) := by unfold Hid; rw [← hz]; simp
  rw [hz]
  clear hz
  generalize w.alloc (Obj.cells #[.int .i64 Y.turn, .int .i64 Y.next, .int .i64 Y.wide, .int .i64 Y.high, .slice a1 Y.gs.length h1, .slice a2 Y.os.length h2, .slice a3 Y.gold.length h3, .slice a4 Y.us.length h4, .slice a5 Y.qs.length h5] 29) = w1 at *
  have T1 : Hid (BrS ks Y Y [] b1 (z + 1) w1 (.slice a1 Y.gs.length h1) (.slice a2 Y.os.length h2) (.slice a3 Y.gold.length h3) (.slice a4 Y.us.length h4) (.slice a5 Y.qs.length h5) (.slice none 0 0) w1) := by
    have h := T0.out.below BA.out
    exact ⟨h.o1, h.o2, h.o3, h.o4, h.o5, Evo.nil _ _, h.d, Fr.below (Below.refl _ _), h.k, h.f⟩
  clear T0
  obtain ⟨x0, x1, x2, x3, x4, x5, x6, x7, x8⟩ := X1.out.cells
  go_wp2_with fail
  clear x0 x1 x2 x3 x4 x5 x6 x7 x8
  go_loopw [5, 11] (fun ev j V => BrI ks Wn Hn Y z b1 w1 (.slice a1 Y.gs.length h1) (.slice a2 Y.os.length h2) (.slice a3 Y.gold.length h3) (.slice a4 Y.us.length h4) (.slice a5 Y.qs.length h5) ev j V) (fun _ j _ => Y.us.length - (intOf j).toNat)
  case atStart => exact ⟨0, Nat.zero_le _, rfl, X1.out, T1.out⟩
  case round =>
    obtain ⟨q, hq, rfl, hx, ht⟩ := hrel
    obtain ⟨Z, hZ⟩ : ∃ Z, (br ks Wn Hn Y q).1 = Z := ⟨_, rfl⟩
    obtain ⟨es, hE⟩ : ∃ es, (br ks Wn Hn Y q).2 = es := ⟨_, rfl⟩
    have HQ : Hid ((br ks Wn Hn Y q).1 = Z ∧ (br ks Wn Hn Y q).2 = es) := ⟨hZ, hE⟩
    have EL : Hid (es.length ≤ 40) := by have h9 := br_evs (ks := ks) (Wn := Wn) (Hn := Hn) (Y := Y) q; rw [hE] at h9; unfold Hid; omega
    rw [hZ, hE] at ht
    clear hZ hE
    obtain ⟨ea, ec, rfl⟩ := ht.e.len
    have TQ : Hid (BrS ks Y Z es b1 (z + 1) w1 (.slice a1 Y.gs.length h1) (.slice a2 Y.os.length h2) (.slice a3 Y.gold.length h3) (.slice a4 Y.us.length h4) (.slice a5 Y.qs.length h5) (.slice ea es.length ec) wr) := ht
    have XQ : Hid (Wx wr z (.int .i64 Y.turn) (.int .i64 Y.next) (.int .i64 Y.wide) (.int .i64 Y.high) (.slice a1 Y.gs.length h1) (.slice a2 Y.os.length h2) (.slice a3 Y.gold.length h3) (.slice a4 Y.us.length h4) (.slice a5 Y.qs.length h5)) := hx
    clear hx ht
    by_cases hqn : q = Y.us.length
    · have FIN : Hid ((br ks Wn Hn Y Y.us.length).1 = Z ∧ (br ks Wn Hn Y Y.us.length).2 = es) := by rw [← hqn]; exact HQ.out
      subst hqn
      go_wp2
      go_ret
      refine ⟨_, rfl, ?_⟩
      rw [FIN.out.1, FIN.out.2]
      have h := TQ.out
      exact ⟨h.o1, h.o2, h.o3, h.o4, h.o5, h.e.mono (by have := HZ.out; omega), h.d, (Fr.below BA.out).trans h.fr, h.k, h.f⟩
    · have hql : q < Y.us.length := by omega
      have hqi : ((q : Nat) : Int) < (Y.us.length : Nat) := by omega
      have hzl : q < Z.us.length := by rw [TQ.out.k.2.2.2.2.2.2.2.1]; exact hql
      obtain ⟨u, hu⟩ : ∃ u, Z.us[q]? = some u := ⟨_, List.getElem?_eq_getElem hzl⟩
      obtain ⟨⟨kn, k, hkn, hkk, l1, l2, l3⟩, ⟨an, han, hal⟩, pn, hpn, hpl⟩ := TQ.out.f.units u (List.mem_of_getElem? hu)
      obtain ⟨x, hx⟩ : ∃ x, Z.gold[pn]? = some x := ⟨_, List.getElem?_eq_getElem hpl⟩
      have UU : Hid (Z.us[q]? = some u ∧ u.player = (pn : Nat) ∧ Z.gold[pn]? = some x ∧ u.at_ = (an : Nat) ∧ an < Wn * Hn) := ⟨hu, hpn, hx, han, by rw [TQ.out.k.2.2.2.2.2.1, WH.out.2.2.1.ol] at hal; exact hal⟩
      have OX := TQ.out.f.gold x (List.mem_of_getElem? hx)
      have hali : ((pn : Nat) : Int) < (Y.gold.length : Nat) := by rw [← TQ.out.k.2.2.2.2.2.2.2.2]; omega
      obtain ⟨gu, cu, ur, e4, hgu, c1, c2, c3, hub⟩ : ∃ g cap rest, Value.slice a4 Y.us.length h4 = .slice (some ⟨g, 0, none⟩) Y.us.length cap ∧ b1 ≤ g ∧ Y.us.length ≤ cap ∧ cap ≤ maxLen ∧ Y.us.length * 8 + rest.length = cap * 8 ∧ Ub wr g Z.us rest := by
        rcases TQ.out.o4.ub with ⟨-, h⟩ | ⟨g, cap, rest, h⟩
        · rw [h] at hzl; simp at hzl
        · rw [TQ.out.k.2.2.2.2.2.2.2.1] at h; exact ⟨g, cap, rest, h⟩
      injection e4 with e41 e42 e43
      subst e41 e43
      obtain ⟨gs, co, sr, e2, hgs, d1, d2, d3, hbk⟩ : ∃ g cap rest, Value.slice a3 Y.gold.length h3 = .slice (some ⟨g, 0, none⟩) Y.gold.length cap ∧ b1 ≤ g ∧ Y.gold.length ≤ cap ∧ cap ≤ maxLen ∧ Y.gold.length + rest.size = cap ∧ Bk wr g Z.gold rest := by
        rcases TQ.out.o3.bk with ⟨-, h⟩ | ⟨g, cap, rest, h⟩
        · rw [h] at hpl; simp at hpl
        · rw [TQ.out.k.2.2.2.2.2.2.2.2] at h; exact ⟨g, cap, rest, h⟩
      injection e2 with e21 e22 e23
      subst e21 e23
      have GB : Hid (b1 ≤ gu ∧ Y.us.length ≤ h4 ∧ h4 ≤ maxLen ∧ Y.us.length * 8 + ur.length = h4 * 8 ∧ b1 ≤ gs ∧ Y.gold.length ≤ h3 ∧ h3 ≤ maxLen ∧ Y.gold.length + sr.size = h3) := ⟨hgu, c1, c2, c3, hgs, d1, d2, d3⟩
      have UB : Hid (∀ V, Below wr.heap.size wr V → Ub V gu Z.us ur) := fun V hV => hub.below hV hub.lt
      have BB : Hid (∀ V, Below wr.heap.size wr V → Bk V gs Z.gold sr) := fun V hV => hbk.below hV
      have GL : Hid (gu < z ∧ gs < z ∧ gu ≠ gs) := by
        rw [← HZ.out]
        refine ⟨(L24.out.2 gu rfl).2, (L24.out.1 gs rfl).2, fun e => TQ.out.difs.2.2.1.1 gs rfl (by rw [← e]; rfl)⟩
      have KV' : Hid (∀ V, Below wr.heap.size wr V → Kl V (.slice pk ks.length qk) ks) := fun V hV => by
        have b01 : Below w0.heap.size w0 w1 := KB.out.2.1.trans (BA.out.mono KB.out.2.1.size)
        have b1r : Below w0.heap.size w1 wr := TQ.out.fr.low b01.size (fun k hk => by
          rcases hk with hk | hk
          · have := (L24.out.1 k hk).1; have := KB.out.2.2; omega
          · have := (L24.out.2 k hk).1; have := KB.out.2.2; omega)
        exact KB.out.1.below ((b01.trans b1r).trans (hV.mono (b01.trans b1r).size))
      have SV : Hid (∀ V, Below wr.heap.size wr V → Sd V) := fun V hV => by
        have b01 : Below w0.heap.size w0 w1 := KB.out.2.1.trans (BA.out.mono KB.out.2.1.size)
        have b1r : Below w0.heap.size w1 wr := TQ.out.fr.low b01.size (fun k hk => by
          rcases hk with hk | hk
          · have := (L24.out.1 k hk).1; have := KB.out.2.2; omega
          · have := (L24.out.2 k hk).1; have := KB.out.2.2; omega)
        exact WH.out.2.2.2.below ((b01.trans b1r).trans (hV.mono (b01.trans b1r).size))
      have CV : Hid (∀ V, Below wr.heap.size wr V → Wx V z (.int .i64 Y.turn) (.int .i64 Y.next) (.int .i64 Y.wide) (.int .i64 Y.high) (.slice a1 Y.gs.length h1) (.slice a2 Y.os.length h2) (.slice (some ⟨gs, 0, none⟩) Y.gold.length h3) (.slice (some ⟨gu, 0, none⟩) Y.us.length h4) (.slice a5 Y.qs.length h5) ∧ Unc V ⟨gu, q * 8, none⟩ u) := fun V hV => ⟨XQ.out.below hV XQ.out.lt, (UB.out V hV).unc UU.out.1⟩
      have D5 : Hid (Below wr.heap.size wr { wr with drawn := wr.drawn + 1 }) := (Below.refl _ _).drew
      have xq := XQ.out
      obtain ⟨x0, x1, x2, x3, x4, x5, x6, x7, x8⟩ := xq.cells
      obtain ⟨y0, y1, y2, y3, y4, y5, y6, y7⟩ := (CV.out _ (Below.refl _ _)).2
      clear xq hu hpn hkn hkk han hx hal hzl hgu c1 c2 c3 hgs d1 d2 d3 hub hbk e42 e22 hpl
      go_upto_region 6 with fail
      by_cases hld : 0 < u.load
      case neg =>
        have NX : Hid (br ks Wn Hn Y (q + 1) = (Z, es)) := by
          have h9 := br_no (ks := ks) (Wn := Wn) (Hn := Hn) (Y := Y) (q := q) (u := u) (by rw [HQ.out.1]; exact UU.out.1) (by unfold brings; rw [decide_eq_false hld]; rfl)
          unfold Hid
          rw [h9, ← HQ.out.1, ← HQ.out.2]
        go_quiet (fail)
        have D6 : Hid (Below wr.heap.size wr (wr.drewN nq)) := ⟨rfl, rfl, rfl, Nat.le_refl _, fun _ _ => rfl⟩
        generalize wr.drewN nq = w6 at *
        go_wp2
        go_round
        case rel => exact ⟨q + 1, by omega, by go_num, XQ.out.below D6.out XQ.out.lt, by rw [NX.out]; exact TQ.out.below D6.out⟩
        case measure => simp [intOf]; omega
      clear x0 x1 x2 x3 x4 x5 x6 x7 x8 y0 y1 y2 y3 y4 y5 y6 y7
      refine wp_region_two [(true, 0), (true, 1), (true, 2), (true, 3), (true, 4), (true, 5), (true, 6), (true, 7), (true, 8), (true, 9), (true, 10), (false, 11)] [(false, 12)] (fun V => Wx V z (.int .i64 Y.turn) (.int .i64 Y.next) (.int .i64 Y.wide) (.int .i64 Y.high) (.slice a1 Y.gs.length h1) (.slice a2 Y.os.length h2) (.slice (some ⟨gs, 0, none⟩) Y.gold.length h3) (.slice (some ⟨gu, 0, none⟩) Y.us.length h4) (.slice a5 Y.qs.length h5) ∧ Unc V ⟨gu, q * 8, none⟩ u) (by kernel_rfl) (by kernel_rfl) (by kernel_rfl) (by decide +kernel) (by decide +kernel) (CV.out _ D5.out) ?_
      generalize ({ wr with drawn := wr.drawn + 1 } : World) = w6 at *
      refine headT_read rfl (.pointer (some ⟨gu, q * 8, none⟩)) (by go_simp) (fun V hV => by go_simp) ?_
      go_simp
      refine headT_read rfl (.pointer (some ⟨gu, q * 8, none⟩)) (by go_simp) (fun V hV => by obtain ⟨hX, hU⟩ := hV; obtain ⟨x0, x1, x2, x3, x4, x5, x6, x7, x8⟩ := hX.cells; obtain ⟨y0, y1, y2, y3, y4, y5, y6, y7⟩ := hU; go_simp) ?_
      go_simp
      refine headT_read rfl (.pointer (some ⟨gu, q * 8 + 5, none⟩)) (by go_simp) (fun V hV => by go_simp) ?_
      go_simp
      refine headT_read rfl (.int .i64 u.load) (by go_simp) (fun V hV => by obtain ⟨hX, hU⟩ := hV; obtain ⟨x0, x1, x2, x3, x4, x5, x6, x7, x8⟩ := hX.cells; obtain ⟨y0, y1, y2, y3, y4, y5, y6, y7⟩ := hU; go_simp) ?_
      go_simp
      refine headT_read rfl (.bool true) (by go_simp) (fun V hV => by go_simp) ?_
      go_simp
      refine headT_read rfl (.bool true) (by go_simp) (fun V hV => by go_simp) ?_
      go_simp
      refine headT_read rfl (.slice pk ks.length qk) (by go_simp) (fun V hV => by go_simp) ?_
      go_simp
      refine headT_read rfl (.agg #[.int .i64 Y.turn, .int .i64 Y.next, .int .i64 Y.wide, .int .i64 Y.high, .slice a1 Y.gs.length h1, .slice a2 Y.os.length h2, .slice (some ⟨gs, 0, none⟩) Y.gold.length h3, .slice (some ⟨gu, 0, none⟩) Y.us.length h4, .slice a5 Y.qs.length h5]) (by go_simp) (fun V hV => by obtain ⟨hX, hU⟩ := hV; obtain ⟨x0, x1, x2, x3, x4, x5, x6, x7, x8⟩ := hX.cells; obtain ⟨y0, y1, y2, y3, y4, y5, y6, y7⟩ := hU; go_simp) ?_
      go_simp
      refine headT_read rfl (.pointer (some ⟨gu, q * 8, none⟩)) (by go_simp) (fun V hV => by go_simp) ?_
      go_simp
      refine headT_read rfl (.pointer (some ⟨gu, q * 8, none⟩)) (by go_simp) (fun V hV => by obtain ⟨hX, hU⟩ := hV; obtain ⟨x0, x1, x2, x3, x4, x5, x6, x7, x8⟩ := hX.cells; obtain ⟨y0, y1, y2, y3, y4, y5, y6, y7⟩ := hU; go_simp) ?_
      go_simp
      refine headT_read rfl (.agg #[.int .i64 u.id, .int .i64 u.player, .int .i64 u.kind, .int .i64 u.at_, .int .i64 u.life, .int .i64 u.load, .int .i64 u.task, .int .i64 u.goal]) (by go_simp) (fun V hV => by obtain ⟨hX, hU⟩ := hV; obtain ⟨x0, x1, x2, x3, x4, x5, x6, x7, x8⟩ := hX.cells; obtain ⟨y0, y1, y2, y3, y4, y5, y6, y7⟩ := hU; go_simp) ?_
      go_simp
      refine headT_call rfl 61 #[.slice pk ks.length qk, .agg #[.int .i64 Y.turn, .int .i64 Y.next, .int .i64 Y.wide, .int .i64 Y.high, .slice a1 Y.gs.length h1, .slice a2 Y.os.length h2, .slice (some ⟨gs, 0, none⟩) Y.gold.length h3, .slice (some ⟨gu, 0, none⟩) Y.us.length h4, .slice a5 Y.qs.length h5], .agg #[.int .i64 u.id, .int .i64 u.player, .int .i64 u.kind, .int .i64 u.at_, .int .i64 u.life, .int .i64 u.load, .int .i64 u.task, .int .i64 u.goal]] (by go_simp) (by go_simp) ?_
      have T6 : Hid (BrS ks Y Z es b1 (z + 1) w1 (.slice a1 Y.gs.length h1) (.slice a2 Y.os.length h2) (.slice (some ⟨gs, 0, none⟩) Y.gold.length h3) (.slice (some ⟨gu, 0, none⟩) Y.us.length h4) (.slice a5 Y.qs.length h5) (.slice ea es.length ec) w6) := TQ.out.below D5.out
      refine Calls.mono (ishome_any _ _ ks Z u Wn Hn an w6 (KV'.out _ D5.out) T6.out.wl T6.out.f (by rw [TQ.out.k.2.2.1]; exact WH.out.1) (by rw [TQ.out.k.2.2.2.1]; exact WH.out.2.1) (by rw [TQ.out.k.2.2.2.2.1, TQ.out.k.2.2.2.2.2.1]; exact WH.out.2.2.1) UU.out.2.2.2.1 UU.out.2.2.2.2 (SV.out _ D5.out)) ?_
      rintro e w7 ⟨rfl, b7⟩
      have D7 : Hid (Below wr.heap.size wr w7) := D5.out.trans (b7.mono D5.out.size)
      refine ⟨_, rfl, CV.out _ D7.out, ?_⟩
      have BR : Hid (brings ks Wn Hn Z u = homeB ks Wn Hn an Z u) := by unfold Hid brings; rw [decide_eq_true hld, UU.out.2.2.2.1, Int.toNat_natCast]; rfl
      obtain ⟨hh, hhh⟩ : ∃ b, homeB ks Wn Hn an Z u = b := ⟨_, rfl⟩
      rw [hhh] at BR ⊢
      clear b7 hhh T6
      go_simp
      refine sched_value rfl (.bool hh) w7 (by go_simp) (by go_simp) trivial ?_
      go_simp
      unfold wpSched
      have T7 : Hid (BrS ks Y Z es b1 (z + 1) w1 (.slice a1 Y.gs.length h1) (.slice a2 Y.os.length h2) (.slice (some ⟨gs, 0, none⟩) Y.gold.length h3) (.slice (some ⟨gu, 0, none⟩) Y.us.length h4) (.slice a5 Y.qs.length h5) (.slice ea es.length ec) w7) := TQ.out.below D7.out
      have X7 : Hid (Wx w7 z (.int .i64 Y.turn) (.int .i64 Y.next) (.int .i64 Y.wide) (.int .i64 Y.high) (.slice a1 Y.gs.length h1) (.slice a2 Y.os.length h2) (.slice (some ⟨gs, 0, none⟩) Y.gold.length h3) (.slice (some ⟨gu, 0, none⟩) Y.us.length h4) (.slice a5 Y.qs.length h5)) := XQ.out.below D7.out XQ.out.lt
      cases hh with
      | false =>
        have NX : Hid (br ks Wn Hn Y (q + 1) = (Z, es)) := by
          have h9 := br_no (ks := ks) (Wn := Wn) (Hn := Hn) (Y := Y) (q := q) (u := u) (by rw [HQ.out.1]; exact UU.out.1) (by rw [HQ.out.1]; exact BR.out)
          unfold Hid
          rw [h9, ← HQ.out.1, ← HQ.out.2]
        go_wp2
        go_round
        case rel => exact ⟨q + 1, by omega, by go_num, X7.out, by rw [NX.out]; exact T7.out⟩
        case measure => simp [intOf]; omega
      | true =>
        have NX : Hid (br ks Wn Hn Y (q + 1) = (bringW Z q u, es ++ [⟨5, u.id, u.load⟩])) := by
          have h9 := br_yes (ks := ks) (Wn := Wn) (Hn := Hn) (Y := Y) (q := q) (u := u) (by rw [HQ.out.1]; exact UU.out.1) (by rw [HQ.out.1]; exact BR.out)
          unfold Hid
          rw [h9, HQ.out.1, HQ.out.2]
        obtain ⟨mg, hmg⟩ : ∃ m, min (x + u.load) 1000000 = m := ⟨_, rfl⟩
        have HM : Hid (min (x + u.load) 1000000 = mg) := hmg
        have wr1 : IntKind.i64.wrap (x + u.load) = x + u.load := by rw [IntKind.wrap_i64]; omega
        have C7 : Hid (∀ V, Below w7.heap.size w7 V → Wx V z (.int .i64 Y.turn) (.int .i64 Y.next) (.int .i64 Y.wide) (.int .i64 Y.high) (.slice a1 Y.gs.length h1) (.slice a2 Y.os.length h2) (.slice (some ⟨gs, 0, none⟩) Y.gold.length h3) (.slice (some ⟨gu, 0, none⟩) Y.us.length h4) (.slice a5 Y.qs.length h5) ∧ Unc V ⟨gu, q * 8, none⟩ u ∧ V.cell? ⟨gs, pn, none⟩ = some (.int .i64 x)) := fun V hV => ⟨X7.out.below hV X7.out.lt, (UB.out V (D7.out.trans (hV.mono D7.out.size))).unc UU.out.1, (BB.out V (D7.out.trans (hV.mono D7.out.size))).cell UU.out.2.2.1⟩
        have D8 : Hid (Below w7.heap.size w7 { w7 with drawn := w7.drawn + 1 }) := (Below.refl _ _).drew
        clear hmg
        go_upto_region 7 with fail
        refine wp_region_two [(true, 0), (true, 1), (true, 2), (true, 3), (true, 4), (true, 5), (true, 6), (true, 7), (true, 8), (true, 9), (true, 10), (true, 11), (true, 12), (true, 13), (true, 14), (true, 15), (true, 16), (true, 17), (true, 18), (true, 19), (true, 20)] [(false, 21)] (fun V => Wx V z (.int .i64 Y.turn) (.int .i64 Y.next) (.int .i64 Y.wide) (.int .i64 Y.high) (.slice a1 Y.gs.length h1) (.slice a2 Y.os.length h2) (.slice (some ⟨gs, 0, none⟩) Y.gold.length h3) (.slice (some ⟨gu, 0, none⟩) Y.us.length h4) (.slice a5 Y.qs.length h5) ∧ Unc V ⟨gu, q * 8, none⟩ u ∧ V.cell? ⟨gs, pn, none⟩ = some (.int .i64 x)) (by kernel_rfl) (by kernel_rfl) (by kernel_rfl) (by decide +kernel) (by decide +kernel) (C7.out _ D8.out) ?_
        generalize ({ w7 with drawn := w7.drawn + 1 } : World) = w8 at *
        refine headT_read rfl (.pointer (some ⟨z, 6, none⟩)) (by go_simp) (fun V hV => by go_simp) ?_
        go_simp
        refine headT_read rfl (.slice (some ⟨gs, 0, none⟩) Y.gold.length h3) (by go_simp) (fun V hV => by obtain ⟨hX, hU, hG⟩ := hV; obtain ⟨x0, x1, x2, x3, x4, x5, x6, x7, x8⟩ := hX.cells; obtain ⟨y0, y1, y2, y3, y4, y5, y6, y7⟩ := hU; rw [UU.out.2.1] at y1; go_simp) ?_
        go_simp
        refine headT_read rfl (.pointer (some ⟨gu, q * 8, none⟩)) (by go_simp) (fun V hV => by go_simp) ?_
        go_simp
        refine headT_read rfl (.pointer (some ⟨gu, q * 8, none⟩)) (by go_simp) (fun V hV => by obtain ⟨hX, hU, hG⟩ := hV; obtain ⟨x0, x1, x2, x3, x4, x5, x6, x7, x8⟩ := hX.cells; obtain ⟨y0, y1, y2, y3, y4, y5, y6, y7⟩ := hU; rw [UU.out.2.1] at y1; go_simp) ?_
        go_simp
        refine headT_read rfl (.pointer (some ⟨gu, q * 8 + 1, none⟩)) (by go_simp) (fun V hV => by go_simp) ?_
        go_simp
        refine headT_read rfl (.int .i64 (pn : Nat)) (by go_simp) (fun V hV => by obtain ⟨hX, hU, hG⟩ := hV; obtain ⟨x0, x1, x2, x3, x4, x5, x6, x7, x8⟩ := hX.cells; obtain ⟨y0, y1, y2, y3, y4, y5, y6, y7⟩ := hU; rw [UU.out.2.1] at y1; go_simp) ?_
        go_simp
        refine headT_read rfl (.pointer (some ⟨z, 6, none⟩)) (by go_simp) (fun V hV => by go_simp) ?_
        go_simp
        refine headT_read rfl (.slice (some ⟨gs, 0, none⟩) Y.gold.length h3) (by go_simp) (fun V hV => by obtain ⟨hX, hU, hG⟩ := hV; obtain ⟨x0, x1, x2, x3, x4, x5, x6, x7, x8⟩ := hX.cells; obtain ⟨y0, y1, y2, y3, y4, y5, y6, y7⟩ := hU; rw [UU.out.2.1] at y1; go_simp) ?_
        go_simp
        refine headT_read rfl (.pointer (some ⟨gu, q * 8, none⟩)) (by go_simp) (fun V hV => by go_simp) ?_
        go_simp
        refine headT_read rfl (.pointer (some ⟨gu, q * 8, none⟩)) (by go_simp) (fun V hV => by obtain ⟨hX, hU, hG⟩ := hV; obtain ⟨x0, x1, x2, x3, x4, x5, x6, x7, x8⟩ := hX.cells; obtain ⟨y0, y1, y2, y3, y4, y5, y6, y7⟩ := hU; rw [UU.out.2.1] at y1; go_simp) ?_
        go_simp
        refine headT_read rfl (.pointer (some ⟨gu, q * 8 + 1, none⟩)) (by go_simp) (fun V hV => by go_simp) ?_
        go_simp
        refine headT_read rfl (.int .i64 (pn : Nat)) (by go_simp) (fun V hV => by obtain ⟨hX, hU, hG⟩ := hV; obtain ⟨x0, x1, x2, x3, x4, x5, x6, x7, x8⟩ := hX.cells; obtain ⟨y0, y1, y2, y3, y4, y5, y6, y7⟩ := hU; rw [UU.out.2.1] at y1; go_simp) ?_
        go_simp
        refine headT_read rfl (.pointer (some ⟨gs, pn, none⟩)) (by go_simp) (fun V hV => by go_simp) ?_
        go_simp
        refine headT_read rfl (.int .i64 x) (by go_simp) (fun V hV => by obtain ⟨hX, hU, hG⟩ := hV; obtain ⟨x0, x1, x2, x3, x4, x5, x6, x7, x8⟩ := hX.cells; obtain ⟨y0, y1, y2, y3, y4, y5, y6, y7⟩ := hU; rw [UU.out.2.1] at y1; go_simp) ?_
        go_simp
        refine headT_read rfl (.pointer (some ⟨gu, q * 8, none⟩)) (by go_simp) (fun V hV => by go_simp) ?_
        go_simp
        refine headT_read rfl (.pointer (some ⟨gu, q * 8, none⟩)) (by go_simp) (fun V hV => by obtain ⟨hX, hU, hG⟩ := hV; obtain ⟨x0, x1, x2, x3, x4, x5, x6, x7, x8⟩ := hX.cells; obtain ⟨y0, y1, y2, y3, y4, y5, y6, y7⟩ := hU; rw [UU.out.2.1] at y1; go_simp) ?_
        go_simp
        refine headT_read rfl (.pointer (some ⟨gu, q * 8 + 5, none⟩)) (by go_simp) (fun V hV => by go_simp) ?_
        go_simp
        refine headT_read rfl (.int .i64 u.load) (by go_simp) (fun V hV => by obtain ⟨hX, hU, hG⟩ := hV; obtain ⟨x0, x1, x2, x3, x4, x5, x6, x7, x8⟩ := hX.cells; obtain ⟨y0, y1, y2, y3, y4, y5, y6, y7⟩ := hU; rw [UU.out.2.1] at y1; go_simp) ?_
        go_simp
        refine headT_read rfl (.int .i64 (x + u.load)) (by go_simp) (fun V hV => by go_simp) ?_
        go_simp
        refine headT_read rfl (.int .i64 mg) (by go_simp) (fun V hV => by have h9 := HM.out; first | (go_simp; done) | (go_simp; rw [h9]) | (simp [h9]; go_simp)) ?_
        go_simp
        refine headT_read rfl (.pointer (some ⟨gs, pn, none⟩)) (by go_simp) (fun V hV => by go_simp) ?_
        go_simp
        unfold wpHeadT
        have D78 : Hid (Below wr.heap.size wr w8) := D7.out.trans (D8.out.mono D7.out.size)
        have X8 : Hid (Wx w8 z (.int .i64 Y.turn) (.int .i64 Y.next) (.int .i64 Y.wide) (.int .i64 Y.high) (.slice a1 Y.gs.length h1) (.slice a2 Y.os.length h2) (.slice (some ⟨gs, 0, none⟩) Y.gold.length h3) (.slice (some ⟨gu, 0, none⟩) Y.us.length h4) (.slice a5 Y.qs.length h5)) := XQ.out.below D78.out XQ.out.lt
        have T8 : Hid (BrS ks Y Z es b1 (z + 1) w1 (.slice a1 Y.gs.length h1) (.slice a2 Y.os.length h2) (.slice (some ⟨gs, 0, none⟩) Y.gold.length h3) (.slice (some ⟨gu, 0, none⟩) Y.us.length h4) (.slice a5 Y.qs.length h5) (.slice ea es.length ec) w8) := TQ.out.below D78.out
        have B8 : Hid (Bk w8 gs Z.gold sr) := BB.out _ D78.out
        have U8 : Hid (Ub w8 gu Z.us ur) := UB.out _ D78.out
        have tz := B8.out.thaw pn
        have cz := B8.out.cell UU.out.2.2.1
        refine sched_skip rfl (w8.setCell ⟨gs, pn, none⟩ (.int .i64 mg)) (by go_simp) (by go_simp) trivial ?_
        go_simp
        unfold wpSched
        have K9 : Hid (Kp gs w8 (w8.setCell ⟨gs, pn, none⟩ (.int .i64 mg))) := Kp.set _ _ _
        have B9 : Hid (Bk (w8.setCell ⟨gs, pn, none⟩ (.int .i64 mg)) gs (Z.gold.set pn mg) sr) := B8.out.set pn _ (List.getElem?_eq_some_iff.1 UU.out.2.2.1).1
        clear tz cz C7 wr1
        generalize (w8.setCell ⟨gs, pn, none⟩ (.int .i64 mg)) = w9 at *
        have F9 : Hid (Fr (fun q => q = gs) w8 w9) := Fr.kp K9.out rfl
        have X9 : Hid (Wx w9 z (.int .i64 Y.turn) (.int .i64 Y.next) (.int .i64 Y.wide) (.int .i64 Y.high) (.slice a1 Y.gs.length h1) (.slice a2 Y.os.length h2) (.slice (some ⟨gs, 0, none⟩) Y.gold.length h3) (.slice (some ⟨gu, 0, none⟩) Y.us.length h4) (.slice a5 Y.qs.length h5)) := F9.out.wx X8.out (by have := GL.out.2.1; omega)
        have U9 : Hid (Ub w9 gu Z.us ur) := (F9.out.block gu U8.out.lt (by have := GL.out.2.2; omega)).trans U8.out
        have E9 : Hid (Evo w9 (z + 1) (.slice ea es.length ec) es) := F9.out.own T8.out.e (fun b hb e => by have h9 := (T8.out.e.block b hb).1; have h8 := GL.out; omega)
        clear K9 X8 U8 B8
        go_upto_region 8 with fail
        have DE : Hid (Below w9.heap.size w9 { w9 with drawn := w9.drawn + 1 }) := (Below.refl _ _).drew
        have CE : Hid (∀ V, Below w9.heap.size w9 V → Unc V ⟨gu, q * 8, none⟩ u) := fun V hV => (U9.out.below hV U9.out.lt).unc UU.out.1
        refine wp_region_two [(true, 0), (true, 1), (true, 2), (true, 3), (true, 4), (true, 5), (true, 6), (true, 7), (true, 8), (true, 9), (false, 10), (false, 11)] [(false, 12)] (fun V => Unc V ⟨gu, q * 8, none⟩ u) (by kernel_rfl) (by kernel_rfl) (by kernel_rfl) (by decide +kernel) (by decide +kernel) (CE.out _ DE.out) ?_
        generalize ({ w9 with drawn := w9.drawn + 1 } : World) = wa at *
        refine headT_read rfl (.slice ea es.length ec) (by go_simp) (fun V hV => by go_simp) ?_
        go_simp
        refine headT_read rfl (.pointer (some ⟨gu, q * 8, none⟩)) (by go_simp) (fun V hV => by go_simp) ?_
        go_simp
        refine headT_read rfl (.pointer (some ⟨gu, q * 8, none⟩)) (by go_simp) (fun V hV => by obtain ⟨y0, y1, y2, y3, y4, y5, y6, y7⟩ := hV; go_simp) ?_
        go_simp
        refine headT_read rfl (.pointer (some ⟨gu, q * 8, none⟩)) (by go_simp) (fun V hV => by go_simp) ?_
        go_simp
        refine headT_read rfl (.int .i64 u.id) (by go_simp) (fun V hV => by obtain ⟨y0, y1, y2, y3, y4, y5, y6, y7⟩ := hV; go_simp) ?_
        go_simp
        refine headT_read rfl (.pointer (some ⟨gu, q * 8, none⟩)) (by go_simp) (fun V hV => by go_simp) ?_
        go_simp
        refine headT_read rfl (.pointer (some ⟨gu, q * 8, none⟩)) (by go_simp) (fun V hV => by obtain ⟨y0, y1, y2, y3, y4, y5, y6, y7⟩ := hV; go_simp) ?_
        go_simp
        refine headT_read rfl (.pointer (some ⟨gu, q * 8 + 5, none⟩)) (by go_simp) (fun V hV => by go_simp) ?_
        go_simp
        refine headT_read rfl (.int .i64 u.load) (by go_simp) (fun V hV => by obtain ⟨y0, y1, y2, y3, y4, y5, y6, y7⟩ := hV; go_simp) ?_
        go_simp
        refine headT_read rfl (.agg #[.int .i64 5, .int .i64 u.id, .int .i64 u.load]) (by go_simp) (fun V hV => by go_simp) ?_
        go_simp
        have BA : Hid (Below wa.heap.size wa (wa.alloc (Obj.cells #[.int .i64 5, .int .i64 u.id, .int .i64 u.load] 73))) := (Below.refl _ _).alloc (Nat.le_refl _) _
        have BAA : Hid (Below w9.heap.size w9 (wa.alloc (Obj.cells #[.int .i64 5, .int .i64 u.id, .int .i64 u.load] 73))) := DE.out.trans (BA.out.mono DE.out.size)
        have RC : Hid (Evc (wa.alloc (Obj.cells #[.int .i64 5, .int .i64 u.id, .int .i64 u.load] 73)) ⟨wa.heap.size, 0, none⟩ ⟨5, u.id, u.load⟩) := Evc.mk' (w := wa) ⟨5, u.id, u.load⟩ rfl
        refine headT_value rfl (.slice (some ⟨wa.heap.size, 0, none⟩) 1 1) (wa.alloc (Obj.cells #[.int .i64 5, .int .i64 u.id, .int .i64 u.load] 73)) (by go_simp) (by go_simp) (CE.out _ BAA.out) ?_
        go_simp
        generalize wa.alloc (Obj.cells #[.int .i64 5, .int .i64 u.id, .int .i64 u.load] 73) = wb at *
        have EB : Hid (Evo wb (z + 1) (.slice ea es.length ec) es) := E9.out.below BAA.out
        have SB : Hid (z + 1 ≤ wb.heap.size) := Nat.le_trans X9.out.lt BAA.out.size
        obtain ⟨gg, gc, wE, hr, ho8, hg8, -, -⟩ := run_ev wb 31 (z + 1) _ es EB.out _ _ RC.out (by have := EL.out; omega) SB.out
        have EO : Hid (Evo wE (z + 1) (.slice (some ⟨gg, 0, none⟩) (es.length + 1) gc) (es ++ [⟨5, u.id, u.load⟩])) := ho8
        have FE : Hid (Fr (fun q => (.slice ea es.length ec : Value).ownBlock = some q) w9 wE) := (Fr.below BAA.out).trans (Fr.gb hg8 (fun k hk => hk))
        have NE : Hid (∀ k, k ≤ z → ¬ (.slice ea es.length ec : Value).ownBlock = some k) := fun k hk e => by have := (E9.out.block k e).1; omega
        have UE : Hid (Ub wE gu Z.us ur) := (FE.out.block gu U9.out.lt (NE.out gu (by have := GL.out.1; omega))).trans U9.out
        have BK : Hid (Bk wE gs (Z.gold.set pn mg) sr) := (FE.out.block gs B9.out.lt (NE.out gs (by have := GL.out.2.1; omega))).trans B9.out
        have XE : Hid (Wx wE z (.int .i64 Y.turn) (.int .i64 Y.next) (.int .i64 Y.wide) (.int .i64 Y.high) (.slice a1 Y.gs.length h1) (.slice a2 Y.os.length h2) (.slice (some ⟨gs, 0, none⟩) Y.gold.length h3) (.slice (some ⟨gu, 0, none⟩) Y.us.length h4) (.slice a5 Y.qs.length h5)) := FE.out.wx X9.out (NE.out z (Nat.le_refl _))
        refine headT_value rfl (.slice (some ⟨gg, 0, none⟩) (es.length + 1) gc) wE (by go_simp) (exec_append _ _ _ _ rfl _ _ (by go_simp) (by go_simp) hr) (UE.out.unc UU.out.1) ?_
        clear hr ho8 hg8
        go_simp
        unfold wpHeadT
        refine sched_value rfl (.slice (some ⟨gg, 0, none⟩) (es.length + 1) gc) wE (by go_simp) (by go_simp) trivial ?_
        go_simp
        unfold wpSched
        obtain ⟨y0, y1, y2, y3, y4, y5, y6, y7⟩ := UE.out.unc UU.out.1
        have t5 := UE.out.thaw (q * 8 + 5)
        have UF : Hid (Ub (wE.setCell ⟨gu, q * 8 + 5, none⟩ (.int .i64 0)) gu (Z.us.set q (loadU u 0)) ur) := UE.out.set5 UU.out.1 0
        have KF : Hid (Kp gu wE (wE.setCell ⟨gu, q * 8 + 5, none⟩ (.int .i64 0))) := Kp.set _ _ _
        have BF : Hid (Bk (wE.setCell ⟨gu, q * 8 + 5, none⟩ (.int .i64 0)) gs (Z.gold.set pn mg) sr) := BK.out.other (by have := GL.out.2.2; omega) _ _
        go_upto_region 10 with fail
        clear y0 y1 y2 y3 y4 y5 y6 y7 t5
        generalize wE.setCell ⟨gu, q * 8 + 5, none⟩ (.int .i64 0) = wF at *
        have FF : Hid (Fr (fun q => q = gu) wE wF) := Fr.kp KF.out rfl
        have XF : Hid (Wx wF z (.int .i64 Y.turn) (.int .i64 Y.next) (.int .i64 Y.wide) (.int .i64 Y.high) (.slice a1 Y.gs.length h1) (.slice a2 Y.os.length h2) (.slice (some ⟨gs, 0, none⟩) Y.gold.length h3) (.slice (some ⟨gu, 0, none⟩) Y.us.length h4) (.slice a5 Y.qs.length h5)) := FF.out.wx XE.out (by have := GL.out.1; omega)
        have EF : Hid (Evo wF (z + 1) (.slice (some ⟨gg, 0, none⟩) (es.length + 1) gc) (es ++ [⟨5, u.id, u.load⟩])) := FF.out.own EO.out (fun b hb e => by have h9 := (EO.out.block b hb).1; have h8 := GL.out; omega)
        have FA : Hid (Fr (fun q => q = gu ∨ q = gs ∨ (.slice ea es.length ec : Value).ownBlock = some q) w8 wF) := ((F9.out.mono (fun k hk => .inr (.inl hk))).trans (FE.out.mono (fun k hk => .inr (.inr hk)))).trans (FF.out.mono (fun k hk => .inl hk))
        have EW : Hid ((bringW Z q u).gold = Z.gold.set pn mg) := by
          unfold Hid bringW
          simp only [UU.out.2.1, Int.toNat_natCast, List.getD_eq_getElem?_getD, UU.out.2.2.1, Option.getD_some, HM.out]
        have TE : Hid (BrS ks Y (bringW Z q u) (es ++ [⟨5, u.id, u.load⟩]) b1 (z + 1) w1 (.slice a1 Y.gs.length h1) (.slice a2 Y.os.length h2) (.slice (some ⟨gs, 0, none⟩) Y.gold.length h3) (.slice (some ⟨gu, 0, none⟩) Y.us.length h4) (.slice a5 Y.qs.length h5) (.slice (some ⟨gg, 0, none⟩) (es.length + 1) gc) wF) :=
          T8.out.bring (V' := wF) (i := q) (u := u) (ur := ur) (gr := sr) (ev' := .slice (some ⟨gg, 0, none⟩) (es.length + 1) gc) S1.out (fun y hy k hk => by have := LW.out y hy k hk; have := HZ.out; omega) GB.out.1 GB.out.2.1 GB.out.2.2.1 GB.out.2.2.2.1 GB.out.2.2.2.2.1 GB.out.2.2.2.2.2.1 GB.out.2.2.2.2.2.2.1 GB.out.2.2.2.2.2.2.2 UU.out.1 UF.out (by rw [EW.out]; exact BF.out) EF.out FA.out
        go_wp2
        go_round
        case rel => exact ⟨q + 1, by omega, by go_num, XF.out, by rw [NX.out]; exact TE.out⟩
        case measure => simp [intOf]; omega
end Go.Proofs.YteieikgkmfglaaaGreatDoor

namespace Go.Proofs.YteieikgkmfglaaaGreatDoor
open Go.RowKit
set_option linter.unusedVariables false

theorem len_ev (ks : List EvV) : (ks.flatMap EvV.cs).length = ks.length * 3 := by
  induction ks with
  | nil => rfl
  | cons x l ih => rw [List.flatMap_cons, List.length_append, ih, List.length_cons, Nat.succ_mul, Nat.add_comm]; rfl
theorem cell_ev {w : World} {y : Addr} {ks : List EvV} (hc : ∀ (i : Nat) k, ks[i]? = some k → Evc w (y.add (i * 3)) k) (j : Nat) (u : Value) (hj : (ks.flatMap EvV.cs)[j]? = some u) : w.cell? (y.add j) = some u := by
  have hjl : j < ks.length * 3 := by rw [← len_ev]; exact (List.getElem?_eq_some_iff.1 hj).1
  obtain ⟨i, r, hr, rfl⟩ : ∃ i r, r < 3 ∧ j = i * 3 + r := ⟨j / 3, j % 3, Nat.mod_lt _ (by decide), by omega⟩
  have hi : i < ks.length := by omega
  obtain ⟨k, hk⟩ : ∃ k, ks[i]? = some k := ⟨_, List.getElem?_eq_getElem hi⟩
  rw [flat_ev ks i r k hk hr] at hj
  have h := hc i k hk
  rcases Nat.eq_zero_or_pos r with rfl | hr0
  · simp [EvV.cs] at hj
    subst hj
    exact h.c0
  · have ea : y.add (i * 3 + r) = ⟨(y.add (i * 3)).block, (y.add (i * 3)).off + r, none⟩ := by
      unfold Addr.add
      rw [if_neg (by omega)]
      split <;> simp <;> omega
    rw [ea]
    match r, hr, hr0, hj with
    | 1, _, _, hj => simp [EvV.cs] at hj; subst hj; exact h.c1
    | 2, _, _, hj => simp [EvV.cs] at hj; subst hj; exact h.c2
theorem run_evs (w : World) (ty : TypeId) (base : Nat) (v : Value) (ks : List EvV) (hown : Evo w base v ks) (u : Value) (ys : List EvV) (hu : Evl w u ys) (hl : ks.length + ys.length ≤ 1000000) (hbase : base ≤ w.heap.size) :
    ∃ v' w', (Builtin.append_ #[31, 31] ty #[v, u]).run Tryz.prog w = .ok v' w' ∧ Evo w' base v' (ks ++ ys) ∧ w.grownBy w' v.ownBlock := by
  obtain ⟨i0, hi, hz0, hz1, hz2⟩ := info_parts info_ev
  obtain ⟨ad, c, rfl, h1, h2, h3⟩ := hu
  by_cases hn : ys = []
  · subst hn
    exact ⟨v, w, run_append_no (P := Tryz.prog) (w := w) base 31 ty 73 i0 3 Tryz.underlying31 hi v ks.length _ hown ad c, by simpa using hown, World.grownBy.refl _ _⟩
  · obtain ⟨y, rfl, hy, hc⟩ := h3 hn
    obtain ⟨g, cap, w6, hr, ho6, hg6, -, -⟩ := run_append_lies (P := Tryz.prog) w 31 31 base 73 i0 _ 3 24 Tryz.underlying31 hi hz0 hz1 hz2 rfl (by decide) v ks.length _ hown y ys.length c (ys.flatMap EvV.cs) (len_ev ys) (cell_ev hc) (fun u hu => by
      obtain ⟨k, -, hk⟩ := List.mem_flatMap.1 hu
      simp [EvV.cs] at hk
      rcases hk with rfl | rfl | rfl <;> rfl) (List.length_pos_iff.2 hn) (by unfold maxLen; omega) (by omega) hbase _ rfl
    refine ⟨_, w6, hr, ?_, hg6⟩
    unfold Evo
    rw [List.length_append, List.flatMap_append]
    exact ho6
theorem app_evs {ops : Array Oper} {rest : List Oper} {o : Oper} {a : Act} {Q : Exit → Act → World → Prop} (w : World) (hgd : o.guard = none) (s x : Operand)
    (ho : o.op = .call { callee := .builtin .append, args := #[s, x], argTypes := #[31, 31] }) (base : Nat) (v : Value) (ks : List EvV) (hs : a.eval s = v) (hown : Evo w base v ks)
    (u : Value) (ys : List EvV) (hx : a.eval x = u) (hu : Evl w u ys) (hl : ks.length + ys.length ≤ 1000000) (hbase : base ≤ w.heap.size)
    (h : ∀ v' w', Evo w' base v' (ks ++ ys) → w.grownBy w' v.ownBlock → wpList Tryz.prog ops Q rest (a.put o.dst v') w') :
    wpList Tryz.prog ops Q (o :: rest) a w := by
  obtain ⟨v', w', hr, h1, h2⟩ := run_evs w o.type base v ks hown u ys hu hl hbase
  refine wpList_plain hgd fun K hK => ?_
  unfold Oper.wp
  simp [execOp, ho, resolve, invoke, builtin, hs, hx, hr, Result.andThen]
  exact hK _ _ (h v' w' h1 h2)
end Go.Proofs.YteieikgkmfglaaaGreatDoor

namespace Go.Proofs.YteieikgkmfglaaaGreatDoor
open Go.RowKit
set_option linter.unusedVariables false

/-- the world behind digging; what happened. -/
def dug (ks : List KV) (Wn Hn : Nat) (X : WV) : WV := (br ks Wn Hn (tk ks X X.us.length).1 (tk ks X X.us.length).1.us.length).1
def dugEv (ks : List KV) (Wn Hn : Nat) (X : WV) : List EvV := (tk ks X X.us.length).2 ++ (br ks Wn Hn (tk ks X X.us.length).1 (tk ks X X.us.length).1.us.length).2
/-- what Dig tells. -/
def DigSays (ks : List KV) (X : WV) (w w' : World) (v ev : Value) : Prop :=
  (Wd.wfault ks X ≠ 0 ∧ v = .agg #[.int .i64 0, .int .i64 0, .int .i64 0, .int .i64 0, .slice none 0 0, .slice none 0 0, .slice none 0 0, .slice none 0 0, .slice none 0 0] ∧ ev = .slice none 0 0)
  ∨ (Wd.wfault ks X = 0 ∧ ∃ Wn Hn : Nat, X.wide = (Wn : Nat) ∧ X.high = (Hn : Nat) ∧ Fd.Good Wn Hn X.gs X.os ∧ Wo w' w.heap.size v (dug ks Wn Hn X) ∧ Evo w' w.heap.size ev (dugEv ks Wn Hn X))
set_option maxRecDepth 100000 in
set_option maxHeartbeats 16000000 in
theorem Dig_any (vk vw : Value) (ks : List KV) (X : WV) (w : World) (hk : Kl w vk ks) (hb : ∀ k ∈ ks, k.b.size ≤ 9223372036854775807) (hw : Wl w vw X) (hs : Sd w) :
    Calls Tryz.prog 9 #[vk, vw] w fun e w' => ∃ v ev r, e = .returned (.tuple #[v, ev, r]) ∧ Er r (Wd.wfault ks X) ∧ DigSays ks X w w' v ev ∧ Below w.heap.size w w' := by
  have K : Hid (Kl w vk ks ∧ ∀ k ∈ ks, k.b.size ≤ 9223372036854775807) := ⟨hk, hb⟩
  have H : Hid (Wl w vw X) := hw
  have SD : Hid (Sd w) := hs
  clear hs
  obtain ⟨p1, q1, p2, q2, p3, q3, p4, q4, p5, q5, rfl⟩ := wl_shape9 hw
  obtain ⟨pk, qk, rfl, ck1, ck2, kc⟩ := hk
  clear hb hw kc
  go_enter Tryz.func9, Tryz.ntmps9
  go_upto_region 1 with fail
  have B0 : Hid (Below w.heap.size w ((w.alloc (Obj.cells #[.int .i64 X.turn, .int .i64 X.next, .int .i64 X.wide, .int .i64 X.high, .slice p1 X.gs.length q1, .slice p2 X.os.length q2, .slice p3 X.gold.length q3, .slice p4 X.us.length q4, .slice p5 X.qs.length q5] 29)).alloc (Obj.cells #[.int .i64 0, .int .i64 0, .int .i64 0, .int .i64 0, .slice none 0 0, .slice none 0 0, .slice none 0 0, .slice none 0 0, .slice none 0 0] 29))) := ((Below.refl _ _).alloc (Nat.le_refl _) _).alloc (by simp) _
  have X0 : Hid (Wx ((w.alloc (Obj.cells #[.int .i64 X.turn, .int .i64 X.next, .int .i64 X.wide, .int .i64 X.high, .slice p1 X.gs.length q1, .slice p2 X.os.length q2, .slice p3 X.gold.length q3, .slice p4 X.us.length q4, .slice p5 X.qs.length q5] 29)).alloc (Obj.cells #[.int .i64 0, .int .i64 0, .int .i64 0, .int .i64 0, .slice none 0 0, .slice none 0 0, .slice none 0 0, .slice none 0 0, .slice none 0 0] 29)) (w.heap.size) (.int .i64 X.turn) (.int .i64 X.next) (.int .i64 X.wide) (.int .i64 X.high) (.slice p1 X.gs.length q1) (.slice p2 X.os.length q2) (.slice p3 X.gold.length q3) (.slice p4 X.us.length q4) (.slice p5 X.qs.length q5)) := (Wx.new (.int .i64 X.turn) (.int .i64 X.next) (.int .i64 X.wide) (.int .i64 X.high) (.slice p1 X.gs.length q1) (.slice p2 X.os.length q2) (.slice p3 X.gold.length q3) (.slice p4 X.us.length q4) (.slice p5 X.qs.length q5) rfl).below ((Below.refl _ _).alloc (Nat.le_refl _) _) (by simp)
  have Z0 : Hid (Wx ((w.alloc (Obj.cells #[.int .i64 X.turn, .int .i64 X.next, .int .i64 X.wide, .int .i64 X.high, .slice p1 X.gs.length q1, .slice p2 X.os.length q2, .slice p3 X.gold.length q3, .slice p4 X.us.length q4, .slice p5 X.qs.length q5] 29)).alloc (Obj.cells #[.int .i64 0, .int .i64 0, .int .i64 0, .int .i64 0, .slice none 0 0, .slice none 0 0, .slice none 0 0, .slice none 0 0, .slice none 0 0] 29)) (w.heap.size + 1) (.int .i64 0) (.int .i64 0) (.int .i64 0) (.int .i64 0) (.slice none 0 0) (.slice none 0 0) (.slice none 0 0) (.slice none 0 0) (.slice none 0 0)) := Wx.new (.int .i64 0) (.int .i64 0) (.int .i64 0) (.int .i64 0) (.slice none 0 0) (.slice none 0 0) (.slice none 0 0) (.slice none 0 0) (.slice none 0 0) (by simp)
  generalize ((w.alloc (Obj.cells #[.int .i64 X.turn, .int .i64 X.next, .int .i64 X.wide, .int .i64 X.high, .slice p1 X.gs.length q1, .slice p2 X.os.length q2, .slice p3 X.gold.length q3, .slice p4 X.us.length q4, .slice p5 X.qs.length q5] 29)).alloc (Obj.cells #[.int .i64 0, .int .i64 0, .int .i64 0, .int .i64 0, .slice none 0 0, .slice none 0 0, .slice none 0 0, .slice none 0 0, .slice none 0 0] 29)) = w0 at *
  obtain ⟨x0, x1, x2, x3, x4, x5, x6, x7, x8⟩ := X0.out.cells
  go_wp2_with fail
  refine (wcheck_any _ _ ks X w0 (K.out.1.below B0.out) K.out.2 (H.out.below B0.out)).mono ?_
  rintro e w1 ⟨r, rfl, hr, hb⟩
  obtain ⟨fw, hfw⟩ : ∃ f, Wd.wfault ks X = f := ⟨_, rfl⟩
  have FW : Hid (Wd.wfault ks X = fw) := hfw
  rw [hfw] at hr
  have B1 : Hid (Below w.heap.size w w1) := B0.out.trans (hb.mono B0.out.size)
  have X1 : Hid (Wx w1 (w.heap.size) (.int .i64 X.turn) (.int .i64 X.next) (.int .i64 X.wide) (.int .i64 X.high) (.slice p1 X.gs.length q1) (.slice p2 X.os.length q2) (.slice p3 X.gold.length q3) (.slice p4 X.us.length q4) (.slice p5 X.qs.length q5)) := X0.out.below hb X0.out.lt
  have Z1 : Hid (Wx w1 (w.heap.size + 1) (.int .i64 0) (.int .i64 0) (.int .i64 0) (.int .i64 0) (.slice none 0 0) (.slice none 0 0) (.slice none 0 0) (.slice none 0 0) (.slice none 0 0)) := Z0.out.below hb Z0.out.lt
  clear hb hfw x0 x1 x2 x3 x4 x5 x6 x7 x8 X0 B0 Z0
  rcases hr with ⟨rfl, rfl⟩ | ⟨hf, rfl⟩
  case inr =>
    have HF : Hid (fw ≠ 0) := hf
    clear hf
    obtain ⟨z0, z1, z2, z3, z4, z5, z6, z7, z8⟩ := Z1.out.cells
    obtain ⟨t0, t1, t2, t3, t4, t5, t6, t7, t8⟩ := Z1.out.thaws
    have KZ : Hid (Kp (w.heap.size + 1) w1 (((((((((w1.setCell ⟨w.heap.size + 1, 0, none⟩ (.int .i64 0)).setCell ⟨w.heap.size + 1, 1, none⟩ (.int .i64 0)).setCell ⟨w.heap.size + 1, 2, none⟩ (.int .i64 0)).setCell ⟨w.heap.size + 1, 3, none⟩ (.int .i64 0)).setCell ⟨w.heap.size + 1, 4, none⟩ (.slice none 0 0)).setCell ⟨w.heap.size + 1, 5, none⟩ (.slice none 0 0)).setCell ⟨w.heap.size + 1, 6, none⟩ (.slice none 0 0)).setCell ⟨w.heap.size + 1, 7, none⟩ (.slice none 0 0)).setCell ⟨w.heap.size + 1, 8, none⟩ (.slice none 0 0))) := put_kp _ _ _ _ _ _ _ _ _ _ _
    obtain ⟨y0, y1, y2, y3, y4, y5, y6, y7, y8⟩ := (Z1.out.put (.int .i64 0) (.int .i64 0) (.int .i64 0) (.int .i64 0) (.slice none 0 0) (.slice none 0 0) (.slice none 0 0) (.slice none 0 0) (.slice none 0 0)).cells
    go_wp2
    clear z0 z1 z2 z3 z4 z5 z6 z7 z8 t0 t1 t2 t3 t4 t5 t6 t7 t8
    generalize (((((((((w1.setCell ⟨w.heap.size + 1, 0, none⟩ (.int .i64 0)).setCell ⟨w.heap.size + 1, 1, none⟩ (.int .i64 0)).setCell ⟨w.heap.size + 1, 2, none⟩ (.int .i64 0)).setCell ⟨w.heap.size + 1, 3, none⟩ (.int .i64 0)).setCell ⟨w.heap.size + 1, 4, none⟩ (.slice none 0 0)).setCell ⟨w.heap.size + 1, 5, none⟩ (.slice none 0 0)).setCell ⟨w.heap.size + 1, 6, none⟩ (.slice none 0 0)).setCell ⟨w.heap.size + 1, 7, none⟩ (.slice none 0 0)).setCell ⟨w.heap.size + 1, 8, none⟩ (.slice none 0 0)) = w9 at *
    refine bodyPost_ret (v := .tuple #[.agg #[.int .i64 0, .int .i64 0, .int .i64 0, .int .i64 0, .slice none 0 0, .slice none 0 0, .slice none 0 0, .slice none 0 0, .slice none 0 0], .slice none 0 0, .iface 77 (.int .i64 fw)]) (by simp [results, Tryz.results9, go_sem, y0, y1, y2, y3, y4, y5, y6, y7, y8]) rfl ⟨_, _, _, rfl, by rw [FW.out]; exact Er.no HF.out, .inl ⟨by rw [FW.out]; exact HF.out, rfl, rfl⟩, KZ.out.below B1.out B1.out.size (by omega)⟩
  have WR : Hid (WRight ks X) := wright_of FW.out
  obtain ⟨Wn, Hn, e1, e2, G⟩ := WR.out.good
  have GD : Hid (X.wide = (Wn : Nat) ∧ X.high = (Hn : Nat) ∧ Fd.Good Wn Hn X.gs X.os) := ⟨e1, e2, G⟩
  clear e1 e2 G
  obtain ⟨x0, x1, x2, x3, x4, x5, x6, x7, x8⟩ := X1.out.cells
  go_wp2_with fail
  refine (copy_any _ X w1 (H.out.below B1.out) WR.out.len).mono ?_
  rintro e w2 ⟨cu, rfl, ⟨k1, k2, k3, k4, k5, rfl, ⟨o1, o2, o3, o4, o5⟩, d12, d13, d14, d15, d23, d24, d25, d34, d35, d45⟩, hb⟩
  obtain ⟨a1, r1, rfl⟩ := o1.len
  obtain ⟨a2, r2, rfl⟩ := o2.len
  obtain ⟨a3, r3, rfl⟩ := o3.len
  obtain ⟨a4, r4, rfl⟩ := o4.len
  obtain ⟨a5, r5, rfl⟩ := o5.len
  obtain ⟨b1, hb1⟩ : ∃ z, w1.heap.size = z := ⟨_, rfl⟩
  rw [hb1] at o1 o2 o3 o4 o5
  have BS : Hid (w.heap.size + 1 < b1 ∧ b1 ≤ w2.heap.size) := ⟨by rw [← hb1]; exact Z1.out.lt, by rw [← hb1]; exact hb.size⟩
  have X2 : Hid (Wx w2 (w.heap.size) (.int .i64 X.turn) (.int .i64 X.next) (.int .i64 X.wide) (.int .i64 X.high) (.slice p1 X.gs.length q1) (.slice p2 X.os.length q2) (.slice p3 X.gold.length q3) (.slice p4 X.us.length q4) (.slice p5 X.qs.length q5)) := X1.out.below hb X1.out.lt
  have Z2 : Hid (Wx w2 (w.heap.size + 1) (.int .i64 0) (.int .i64 0) (.int .i64 0) (.int .i64 0) (.slice none 0 0) (.slice none 0 0) (.slice none 0 0) (.slice none 0 0) (.slice none 0 0)) := Z1.out.below hb Z1.out.lt
  have B2 : Hid (Below w.heap.size w w2) := B1.out.trans (hb.mono B1.out.size)
  have O2 : Hid (Ow w2 b1 (Value.slice a1 X.gs.length r1) X.gs ∧ Ow w2 b1 (Value.slice a2 X.os.length r2) X.os ∧ Ow w2 b1 (Value.slice a3 X.gold.length r3) X.gold ∧ Uno w2 b1 (Value.slice a4 X.us.length r4) X.us ∧ Jbo w2 b1 (Value.slice a5 X.qs.length r5) X.qs) := ⟨o1, o2, o3, o4, o5⟩
  have DD : Hid ([Value.slice a1 X.gs.length r1, Value.slice a2 X.os.length r2, Value.slice a3 X.gold.length r3, Value.slice a4 X.us.length r4, Value.slice a5 X.qs.length r5].Pairwise Dif) := by
    unfold Hid
    simp only [List.pairwise_cons, List.mem_cons, List.not_mem_nil, or_false, forall_eq_or_imp, forall_eq, List.Pairwise.nil, and_true, false_imp_iff, implies_true]
    exact ⟨⟨d12, d13, d14, d15⟩, ⟨d23, d24, d25⟩, ⟨d34, d35⟩, d45⟩
  clear hb hb1 x0 x1 x2 x3 x4 x5 x6 x7 x8 o1 o2 o3 o4 o5 d12 d13 d14 d15 d23 d24 d25 d34 d35 d45 X1 Z1 B1
  obtain ⟨z0, z1, z2, z3, z4, z5, z6, z7, z8⟩ := X2.out.cells
  obtain ⟨t0, t1, t2, t3, t4, t5, t6, t7, t8⟩ := X2.out.thaws
  have KZ : Hid (Kp (w.heap.size) w2 (((((((((w2.setCell ⟨w.heap.size, 0, none⟩ (.int .i64 X.turn)).setCell ⟨w.heap.size, 1, none⟩ (.int .i64 X.next)).setCell ⟨w.heap.size, 2, none⟩ (.int .i64 X.wide)).setCell ⟨w.heap.size, 3, none⟩ (.int .i64 X.high)).setCell ⟨w.heap.size, 4, none⟩ (Value.slice a1 X.gs.length r1)).setCell ⟨w.heap.size, 5, none⟩ (Value.slice a2 X.os.length r2)).setCell ⟨w.heap.size, 6, none⟩ (Value.slice a3 X.gold.length r3)).setCell ⟨w.heap.size, 7, none⟩ (Value.slice a4 X.us.length r4)).setCell ⟨w.heap.size, 8, none⟩ (Value.slice a5 X.qs.length r5))) := put_kp _ _ _ _ _ _ _ _ _ _ _
  have X3 : Hid (Wx (((((((((w2.setCell ⟨w.heap.size, 0, none⟩ (.int .i64 X.turn)).setCell ⟨w.heap.size, 1, none⟩ (.int .i64 X.next)).setCell ⟨w.heap.size, 2, none⟩ (.int .i64 X.wide)).setCell ⟨w.heap.size, 3, none⟩ (.int .i64 X.high)).setCell ⟨w.heap.size, 4, none⟩ (Value.slice a1 X.gs.length r1)).setCell ⟨w.heap.size, 5, none⟩ (Value.slice a2 X.os.length r2)).setCell ⟨w.heap.size, 6, none⟩ (Value.slice a3 X.gold.length r3)).setCell ⟨w.heap.size, 7, none⟩ (Value.slice a4 X.us.length r4)).setCell ⟨w.heap.size, 8, none⟩ (Value.slice a5 X.qs.length r5)) (w.heap.size) (.int .i64 X.turn) (.int .i64 X.next) (.int .i64 X.wide) (.int .i64 X.high) (Value.slice a1 X.gs.length r1) (Value.slice a2 X.os.length r2) (Value.slice a3 X.gold.length r3) (Value.slice a4 X.us.length r4) (Value.slice a5 X.qs.length r5)) := X2.out.put (.int .i64 X.turn) (.int .i64 X.next) (.int .i64 X.wide) (.int .i64 X.high) (Value.slice a1 X.gs.length r1) (Value.slice a2 X.os.length r2) (Value.slice a3 X.gold.length r3) (Value.slice a4 X.us.length r4) (Value.slice a5 X.qs.length r5)
  go_upto_region 5 with fail
  clear z0 z1 z2 z3 z4 z5 z6 z7 z8 t0 t1 t2 t3 t4 t5 t6 t7 t8
  generalize (((((((((w2.setCell ⟨w.heap.size, 0, none⟩ (.int .i64 X.turn)).setCell ⟨w.heap.size, 1, none⟩ (.int .i64 X.next)).setCell ⟨w.heap.size, 2, none⟩ (.int .i64 X.wide)).setCell ⟨w.heap.size, 3, none⟩ (.int .i64 X.high)).setCell ⟨w.heap.size, 4, none⟩ (Value.slice a1 X.gs.length r1)).setCell ⟨w.heap.size, 5, none⟩ (Value.slice a2 X.os.length r2)).setCell ⟨w.heap.size, 6, none⟩ (Value.slice a3 X.gold.length r3)).setCell ⟨w.heap.size, 7, none⟩ (Value.slice a4 X.us.length r4)).setCell ⟨w.heap.size, 8, none⟩ (Value.slice a5 X.qs.length r5)) = w3 at *
  have Z3 : Hid (Wx w3 (w.heap.size + 1) (.int .i64 0) (.int .i64 0) (.int .i64 0) (.int .i64 0) (.slice none 0 0) (.slice none 0 0) (.slice none 0 0) (.slice none 0 0) (.slice none 0 0)) := Z2.out.kp KZ.out (by omega)
  have B3 : Hid (Below w.heap.size w w3) := KZ.out.below B2.out B2.out.size (Nat.le_refl _)
  have O3 : Hid (Ow w3 b1 (Value.slice a1 X.gs.length r1) X.gs ∧ Ow w3 b1 (Value.slice a2 X.os.length r2) X.os ∧ Ow w3 b1 (Value.slice a3 X.gold.length r3) X.gold ∧ Uno w3 b1 (Value.slice a4 X.us.length r4) X.us ∧ Jbo w3 b1 (Value.slice a5 X.qs.length r5) X.qs) := by
    have h := BS.out.1
    exact ⟨O2.out.1.kp KZ.out (by omega), O2.out.2.1.kp KZ.out (by omega), O2.out.2.2.1.kp KZ.out (by omega), O2.out.2.2.2.1.kp KZ.out (by omega), O2.out.2.2.2.2.kp KZ.out (by omega)⟩
  obtain ⟨b3, hb3⟩ : ∃ z, w3.heap.size = z := ⟨_, rfl⟩
  have S3 : Hid (b1 ≤ b3 ∧ w3.heap.size = b3) := ⟨by rw [← hb3]; exact Nat.le_trans BS.out.2 KZ.out.size, hb3⟩
  have L3 : Hid (Wl w3 (.agg #[.int .i64 X.turn, .int .i64 X.next, .int .i64 X.wide, .int .i64 X.high, Value.slice a1 X.gs.length r1, Value.slice a2 X.os.length r2, Value.slice a3 X.gold.length r3, Value.slice a4 X.us.length r4, Value.slice a5 X.qs.length r5]) X) := ⟨(Value.slice a1 X.gs.length r1), (Value.slice a2 X.os.length r2), (Value.slice a3 X.gold.length r3), (Value.slice a4 X.us.length r4), (Value.slice a5 X.qs.length r5), rfl, O3.out.1.ro, O3.out.2.1.ro, O3.out.2.2.1.ro, O3.out.2.2.2.1.l, O3.out.2.2.2.2.l⟩
  clear hb3 KZ X2 Z2 B2 O2
  obtain ⟨x0, x1, x2, x3, x4, x5, x6, x7, x8⟩ := X3.out.cells
  go_wp2_with fail
  refine (take_any _ ks X (Value.slice a1 X.gs.length r1) (Value.slice a2 X.os.length r2) (Value.slice a3 X.gold.length r3) (Value.slice a4 X.us.length r4) (Value.slice a5 X.qs.length r5) b1 w w3 K.out.1 B3.out (by have := BS.out.1; omega) O3.out.1 O3.out.2.1 O3.out.2.2.1 O3.out.2.2.2.1 O3.out.2.2.2.2 DD.out WR.out.dfit).mono ?_
  rintro e w4 ⟨ev, rfl, ht⟩
  obtain ⟨Z, hZ⟩ : ∃ Z, (tk ks X X.us.length).1 = Z := ⟨_, rfl⟩
  obtain ⟨es, hE⟩ : ∃ es, (tk ks X X.us.length).2 = es := ⟨_, rfl⟩
  have HZ : Hid ((tk ks X X.us.length).1 = Z ∧ (tk ks X X.us.length).2 = es) := ⟨hZ, hE⟩
  have EL : Hid (es.length ≤ 40) := by have h9 := tk_evs (ks := ks) (Y := X) X.us.length; rw [hE] at h9; have := WR.out.ul; unfold Hid; omega
  rw [hZ, hE] at ht
  have T4 : Hid (TkS ks X Z es b1 w3.heap.size w3 (Value.slice a1 X.gs.length r1) (Value.slice a2 X.os.length r2) (Value.slice a3 X.gold.length r3) (Value.slice a4 X.us.length r4) (Value.slice a5 X.qs.length r5) ev w4) := ht
  clear ht hZ hE
  have LB : Hid (w.heap.size + 1 < b1 ∧ b1 ≤ w3.heap.size) := ⟨BS.out.1, by have := S3.out; omega⟩
  have N4 : Hid (∀ k, k < b1 → ¬ ((Value.slice a2 X.os.length r2).ownBlock = some k ∨ (Value.slice a4 X.us.length r4).ownBlock = some k)) := fun k hk h => by
    rcases h with h | h
    · have := (O3.out.2.1.block k h).1; omega
    · have := (O3.out.2.2.2.1.block k h).1; omega
  have B34 : Hid (Below b1 w3 w4) := T4.out.fr.low LB.out.2 (fun k hk => by
    rcases Nat.lt_or_ge k b1 with h | h
    · exact absurd hk (N4.out k h)
    · exact h)
  have B4 : Hid (Below w.heap.size w w4) := B3.out.trans (B34.out.mono (by have := LB.out; omega))
  have X4 : Hid (Wx w4 w.heap.size (.int .i64 X.turn) (.int .i64 X.next) (.int .i64 X.wide) (.int .i64 X.high) (Value.slice a1 X.gs.length r1) (Value.slice a2 X.os.length r2) (Value.slice a3 X.gold.length r3) (Value.slice a4 X.us.length r4) (Value.slice a5 X.qs.length r5)) := X3.out.below B34.out (by have := LB.out; omega)
  have Z4 : Hid (Wx w4 (w.heap.size + 1) (.int .i64 0) (.int .i64 0) (.int .i64 0) (.int .i64 0) (.slice none 0 0) (.slice none 0 0) (.slice none 0 0) (.slice none 0 0) (.slice none 0 0)) := Z3.out.below B34.out (by have := LB.out; omega)
  clear x0 x1 x2 x3 x4 x5 x6 x7 x8
  go_upto_region 6 with fail
  have D5 : Hid (Below w4.heap.size w4 { w4 with drawn := w4.drawn + 1 }) := (Below.refl _ _).drew
  have CV : Hid (∀ V, Below b1 w4 V → Wx V w.heap.size (.int .i64 X.turn) (.int .i64 X.next) (.int .i64 X.wide) (.int .i64 X.high) (Value.slice a1 X.gs.length r1) (Value.slice a2 X.os.length r2) (Value.slice a3 X.gold.length r3) (Value.slice a4 X.us.length r4) (Value.slice a5 X.qs.length r5) ∧ Wx V (w.heap.size + 1) (.int .i64 0) (.int .i64 0) (.int .i64 0) (.int .i64 0) (.slice none 0 0) (.slice none 0 0) (.slice none 0 0) (.slice none 0 0) (.slice none 0 0)) := fun V hV => ⟨X4.out.below hV (by have := LB.out; omega), Z4.out.below hV (by have := LB.out; omega)⟩
  have S4 : Hid (b1 ≤ w4.heap.size) := Nat.le_trans LB.out.2 T4.out.fr.size
  refine wp_region_two [(true, 0), (true, 1), (true, 2), (true, 3), (false, 4), (false, 5)] [(false, 6), (false, 7), (false, 8)] (fun V => Wx V w.heap.size (.int .i64 X.turn) (.int .i64 X.next) (.int .i64 X.wide) (.int .i64 X.high) (Value.slice a1 X.gs.length r1) (Value.slice a2 X.os.length r2) (Value.slice a3 X.gold.length r3) (Value.slice a4 X.us.length r4) (Value.slice a5 X.qs.length r5) ∧ Wx V (w.heap.size + 1) (.int .i64 0) (.int .i64 0) (.int .i64 0) (.int .i64 0) (.slice none 0 0) (.slice none 0 0) (.slice none 0 0) (.slice none 0 0) (.slice none 0 0)) (by kernel_rfl) (by kernel_rfl) (by kernel_rfl) (by decide +kernel) (by decide +kernel) (CV.out _ (D5.out.mono S4.out)) ?_
  generalize ({ w4 with drawn := w4.drawn + 1 } : World) = w5 at *
  refine headT_read rfl (.agg #[.int .i64 X.turn, .int .i64 X.next, .int .i64 X.wide, .int .i64 X.high, Value.slice a1 X.gs.length r1, Value.slice a2 X.os.length r2, Value.slice a3 X.gold.length r3, Value.slice a4 X.us.length r4, Value.slice a5 X.qs.length r5]) (by go_simp) (fun V hV => by obtain ⟨x0, x1, x2, x3, x4, x5, x6, x7, x8⟩ := hV.1.cells; go_simp) ?_
  go_simp
  refine headT_read rfl (ev) (by go_simp) (fun V hV => by go_simp) ?_
  go_simp
  refine headT_read rfl (.slice pk ks.length qk) (by go_simp) (fun V hV => by go_simp) ?_
  go_simp
  refine headT_read rfl (.agg #[.int .i64 X.turn, .int .i64 X.next, .int .i64 X.wide, .int .i64 X.high, Value.slice a1 X.gs.length r1, Value.slice a2 X.os.length r2, Value.slice a3 X.gold.length r3, Value.slice a4 X.us.length r4, Value.slice a5 X.qs.length r5]) (by go_simp) (fun V hV => by obtain ⟨x0, x1, x2, x3, x4, x5, x6, x7, x8⟩ := hV.1.cells; go_simp) ?_
  go_simp
  refine headT_call rfl 34 #[.slice pk ks.length qk, .agg #[.int .i64 X.turn, .int .i64 X.next, .int .i64 X.wide, .int .i64 X.high, Value.slice a1 X.gs.length r1, Value.slice a2 X.os.length r2, Value.slice a3 X.gold.length r3, Value.slice a4 X.us.length r4, Value.slice a5 X.qs.length r5]] (by go_simp) (by go_simp) ?_
  have T5 : Hid (TkS ks X Z es b1 w3.heap.size w3 (Value.slice a1 X.gs.length r1) (Value.slice a2 X.os.length r2) (Value.slice a3 X.gold.length r3) (Value.slice a4 X.us.length r4) (Value.slice a5 X.qs.length r5) ev w5) := T4.out.below D5.out
  have B5 : Hid (Below w.heap.size w w5) := B4.out.trans (D5.out.mono B4.out.size)
  have G5 : Hid (Z.wide = (Wn : Nat) ∧ Z.high = (Hn : Nat) ∧ Fd.Good Wn Hn Z.gs Z.os) := by
    obtain ⟨W', H', e1, e2, G⟩ := T5.out.f.wide
    have k := T5.out.k
    have f1 := GD.out.1
    have f2 := GD.out.2.1
    rw [k.2.2.1, f1] at e1
    rw [k.2.2.2.1, f2] at e2
    have g1 : Wn = W' := by omega
    have g2 : Hn = H' := by omega
    subst g1 g2
    exact ⟨by rw [k.2.2.1, f1], by rw [k.2.2.2.1, f2], G⟩
  have BA := bring_any (.slice pk ks.length qk) ks Z (Value.slice a1 X.gs.length r1) (Value.slice a2 X.os.length r2) (Value.slice a3 X.gold.length r3) (Value.slice a4 X.us.length r4) (Value.slice a5 X.qs.length r5) b1 w w5 K.out.1 B5.out (by have := LB.out; omega) T5.out.o1 T5.out.o2 T5.out.o3 T5.out.o4 T5.out.o5 T5.out.d T5.out.f Wn Hn G5.out.1 G5.out.2.1 G5.out.2.2 SD.out
  rw [T5.out.k.1, T5.out.k.2.1, T5.out.k.2.2.1, T5.out.k.2.2.2.1] at BA
  refine Calls.mono BA ?_
  clear BA
  rintro e w6 ⟨ev2, rfl, hb⟩
  obtain ⟨Q, hQ⟩ : ∃ Q, (br ks Wn Hn Z Z.us.length).1 = Q := ⟨_, rfl⟩
  obtain ⟨fs, hF⟩ : ∃ fs, (br ks Wn Hn Z Z.us.length).2 = fs := ⟨_, rfl⟩
  have HQ : Hid ((br ks Wn Hn Z Z.us.length).1 = Q ∧ (br ks Wn Hn Z Z.us.length).2 = fs) := ⟨hQ, hF⟩
  have FL : Hid (fs.length ≤ 40) := by have h9 := br_evs (ks := ks) (Wn := Wn) (Hn := Hn) (Y := Z) Z.us.length; rw [hF] at h9; have := T5.out.f.ul; unfold Hid; omega
  rw [hQ, hF] at hb
  have R6 : Hid (BrS ks Z Q fs b1 w5.heap.size w5 (Value.slice a1 X.gs.length r1) (Value.slice a2 X.os.length r2) (Value.slice a3 X.gold.length r3) (Value.slice a4 X.us.length r4) (Value.slice a5 X.qs.length r5) ev2 w6) := hb
  clear hb hQ hF
  have L34 : Hid (∀ k, ((Value.slice a3 X.gold.length r3).ownBlock = some k ∨ (Value.slice a4 X.us.length r4).ownBlock = some k) → b1 ≤ k ∧ k < w3.heap.size) := fun k h => by
    rcases h with h | h
    · exact O3.out.2.2.1.block k h
    · exact O3.out.2.2.2.1.block k h
  have B56 : Hid (Below b1 w5 w6) := R6.out.fr.low (Nat.le_trans S4.out D5.out.size) (fun k hk => (L34.out k hk).1)
  have B46 : Hid (Below b1 w4 w6) := (D5.out.mono S4.out).trans B56.out
  refine ⟨_, rfl, CV.out _ B46.out, ?_⟩
  go_simp
  have E6 : Hid (Evo w6 w3.heap.size ev es) := R6.out.fr.own T5.out.e (fun b hb h => by have h1 := (T5.out.e.block b hb).1; have h2 := (L34.out b h).2; omega)
  have S6 : Hid (w3.heap.size ≤ w6.heap.size) := Nat.le_trans T4.out.fr.size (Nat.le_trans D5.out.size R6.out.fr.size)
  obtain ⟨v', w7, hr, ho7, hg7⟩ := run_evs w6 31 w3.heap.size ev es E6.out ev2 fs R6.out.e.l (by have := EL.out; have := FL.out; omega) S6.out
  have BG : Hid (Below b1 w6 w7) := (Below.refl _ _).grown hg7 (Nat.le_trans LB.out.2 S6.out) (fun k hk => Nat.le_trans LB.out.2 (E6.out.block k hk).1)
  have B47 : Hid (Below b1 w4 w7) := B46.out.trans BG.out
  have E7 : Hid (Evo w7 w3.heap.size v' (es ++ fs)) := ho7
  have N7 : Hid (∀ x ∈ [Value.slice a1 X.gs.length r1, Value.slice a2 X.os.length r2, Value.slice a3 X.gold.length r3, Value.slice a4 X.us.length r4, Value.slice a5 X.qs.length r5], ∀ k, x.ownBlock = some k → ¬ ev.ownBlock = some k) := fun x hx k hk h => by
    have h1 := (E6.out.block k h).1
    simp only [List.mem_cons, List.not_mem_nil, or_false] at hx
    rcases hx with rfl | rfl | rfl | rfl | rfl
    · have := (O3.out.1.block k hk).2; omega
    · have := (O3.out.2.1.block k hk).2; omega
    · have := (O3.out.2.2.1.block k hk).2; omega
    · have := (O3.out.2.2.2.1.block k hk).2; omega
    · have := (O3.out.2.2.2.2.block k hk).2; omega
  have O7 : Hid (Ow w7 b1 (Value.slice a1 X.gs.length r1) Q.gs ∧ Ow w7 b1 (Value.slice a2 X.os.length r2) Q.os ∧ Ow w7 b1 (Value.slice a3 X.gold.length r3) Q.gold ∧ Uno w7 b1 (Value.slice a4 X.us.length r4) Q.us ∧ Jbo w7 b1 (Value.slice a5 X.qs.length r5) Q.qs) :=
    ⟨own_gb R6.out.o1 hg7 (N7.out _ (by simp)), own_gb R6.out.o2 hg7 (N7.out _ (by simp)), own_gb R6.out.o3 hg7 (N7.out _ (by simp)), own_gb R6.out.o4 hg7 (N7.out _ (by simp)), own_gb R6.out.o5 hg7 (N7.out _ (by simp))⟩
  refine headT_value rfl v' w7 (by go_simp) (exec_append _ _ _ _ rfl _ _ (by go_simp) (by go_simp) hr) (CV.out _ B47.out) ?_
  clear hr ho7 hg7
  go_simp
  unfold wpHeadT
  obtain ⟨X7, Z7⟩ := CV.out _ B47.out
  have B7 : Hid (Below w.heap.size w w7) := B4.out.trans (B47.out.mono (by have := LB.out; omega))
  obtain ⟨z0, z1, z2, z3, z4, z5, z6, z7, z8⟩ := Z7.cells
  obtain ⟨t0, t1, t2, t3, t4, t5, t6, t7, t8⟩ := Z7.thaws
  have KZ : Hid (Kp (w.heap.size + 1) w7 (((((((((w7.setCell ⟨w.heap.size + 1, 0, none⟩ (.int .i64 X.turn)).setCell ⟨w.heap.size + 1, 1, none⟩ (.int .i64 X.next)).setCell ⟨w.heap.size + 1, 2, none⟩ (.int .i64 X.wide)).setCell ⟨w.heap.size + 1, 3, none⟩ (.int .i64 X.high)).setCell ⟨w.heap.size + 1, 4, none⟩ (Value.slice a1 X.gs.length r1)).setCell ⟨w.heap.size + 1, 5, none⟩ (Value.slice a2 X.os.length r2)).setCell ⟨w.heap.size + 1, 6, none⟩ (Value.slice a3 X.gold.length r3)).setCell ⟨w.heap.size + 1, 7, none⟩ (Value.slice a4 X.us.length r4)).setCell ⟨w.heap.size + 1, 8, none⟩ (Value.slice a5 X.qs.length r5))) := put_kp _ _ _ _ _ _ _ _ _ _ _
  obtain ⟨y0, y1, y2, y3, y4, y5, y6, y7, y8⟩ := (Z7.put (.int .i64 X.turn) (.int .i64 X.next) (.int .i64 X.wide) (.int .i64 X.high) (Value.slice a1 X.gs.length r1) (Value.slice a2 X.os.length r2) (Value.slice a3 X.gold.length r3) (Value.slice a4 X.us.length r4) (Value.slice a5 X.qs.length r5)).cells
  refine sched_skip rfl (((((((((w7.setCell ⟨w.heap.size + 1, 0, none⟩ (.int .i64 X.turn)).setCell ⟨w.heap.size + 1, 1, none⟩ (.int .i64 X.next)).setCell ⟨w.heap.size + 1, 2, none⟩ (.int .i64 X.wide)).setCell ⟨w.heap.size + 1, 3, none⟩ (.int .i64 X.high)).setCell ⟨w.heap.size + 1, 4, none⟩ (Value.slice a1 X.gs.length r1)).setCell ⟨w.heap.size + 1, 5, none⟩ (Value.slice a2 X.os.length r2)).setCell ⟨w.heap.size + 1, 6, none⟩ (Value.slice a3 X.gold.length r3)).setCell ⟨w.heap.size + 1, 7, none⟩ (Value.slice a4 X.us.length r4)).setCell ⟨w.heap.size + 1, 8, none⟩ (Value.slice a5 X.qs.length r5)) (by go_simp) (by go_simp) trivial ?_
  clear z0 z1 z2 z3 z4 z5 z6 z7 z8 t0 t1 t2 t3 t4 t5 t6 t7 t8
  generalize (((((((((w7.setCell ⟨w.heap.size + 1, 0, none⟩ (.int .i64 X.turn)).setCell ⟨w.heap.size + 1, 1, none⟩ (.int .i64 X.next)).setCell ⟨w.heap.size + 1, 2, none⟩ (.int .i64 X.wide)).setCell ⟨w.heap.size + 1, 3, none⟩ (.int .i64 X.high)).setCell ⟨w.heap.size + 1, 4, none⟩ (Value.slice a1 X.gs.length r1)).setCell ⟨w.heap.size + 1, 5, none⟩ (Value.slice a2 X.os.length r2)).setCell ⟨w.heap.size + 1, 6, none⟩ (Value.slice a3 X.gold.length r3)).setCell ⟨w.heap.size + 1, 7, none⟩ (Value.slice a4 X.us.length r4)).setCell ⟨w.heap.size + 1, 8, none⟩ (Value.slice a5 X.qs.length r5)) = w8 at *
  go_simp
  refine sched_value rfl v' w8 (by go_simp) (by go_simp) trivial ?_
  go_simp
  refine sched_value rfl .nilIface w8 (by go_simp) (by go_simp) trivial ?_
  go_simp
  unfold wpSched
  go_wp2
  have QK : Hid (Q.turn = X.turn ∧ Q.next = X.next ∧ Q.wide = X.wide ∧ Q.high = X.high) := by
    obtain ⟨a1, a2, a3, a4, -⟩ := R6.out.k
    obtain ⟨c1, c2, c3, c4, -⟩ := T5.out.k
    exact ⟨by rw [a1, c1], by rw [a2, c2], by rw [a3, c3], by rw [a4, c4]⟩
  refine bodyPost_ret (v := .tuple #[.agg #[.int .i64 X.turn, .int .i64 X.next, .int .i64 X.wide, .int .i64 X.high, Value.slice a1 X.gs.length r1, Value.slice a2 X.os.length r2, Value.slice a3 X.gold.length r3, Value.slice a4 X.us.length r4, Value.slice a5 X.qs.length r5], v', .nilIface]) (by simp [results, Tryz.results9, go_sem, y0, y1, y2, y3, y4, y5, y6, y7, y8]) rfl ⟨_, _, _, rfl, by rw [FW.out]; exact Er.nil, .inr ⟨FW.out, Wn, Hn, GD.out.1, GD.out.2.1, GD.out.2.2, ?_, ?_⟩, KZ.out.below B7.out B7.out.size (by omega)⟩
  · have e : dug ks Wn Hn X = Q := by unfold dug; rw [HZ.out.1, HQ.out.1]
    rw [e]
    have h := LB.out
    refine ⟨_, _, _, _, _, by rw [QK.out.1, QK.out.2.1, QK.out.2.2.1, QK.out.2.2.2], (O7.out.1.kp KZ.out (by omega)).mono (by omega), (O7.out.2.1.kp KZ.out (by omega)).mono (by omega), (O7.out.2.2.1.kp KZ.out (by omega)).mono (by omega), (O7.out.2.2.2.1.kp KZ.out (by omega)).mono (by omega), (O7.out.2.2.2.2.kp KZ.out (by omega)).mono (by omega)⟩
  · have e : dugEv ks Wn Hn X = es ++ fs := by unfold dugEv; rw [HZ.out.1, HZ.out.2, HQ.out.2]
    rw [e]
    have h := LB.out
    exact (E7.out.kp9 KZ.out (by omega)).mono (by omega)
end Go.Proofs.YteieikgkmfglaaaGreatDoor

namespace Go.Proofs.YteieikgkmfglaaaGreatDoor
set_option linter.unusedVariables false

def ers (u : UnV) : UnV := loadU u 0
theorem ers_load (u : UnV) (n : Int) : ers (loadU u n) = ers u := rfl
theorem ers_set {l : List UnV} {i : Nat} {u : UnV} (h : l[i]? = some u) (n : Int) : (l.set i (loadU u n)).map ers = l.map ers := by
  apply List.ext_getElem?
  intro j
  rw [List.getElem?_map, List.getElem?_map, List.getElem?_set]
  split
  · rename_i e
    subst e
    split
    · rw [h]; rfl
    · rename_i h2
      rw [List.getElem?_eq_none (by omega)]
  · rfl
theorem tk_ers {ks : List KV} {Y : WV} : ∀ q, (tk ks Y q).1.us.map ers = Y.us.map ers
  | 0 => rfl
  | q + 1 => by
    have ih := tk_ers (ks := ks) (Y := Y) q
    cases hu : (tk ks Y q).1.us[q]? with
    | none => rw [tk]; simp only [hu]; exact ih
    | some u =>
      by_cases h : 0 < yieldN ks (tk ks Y q).1 u
      · rw [tk_yes hu h]
        show ((tk ks Y q).1.us.set q (loadU u _)).map ers = _
        rw [ers_set hu, ih]
      · rw [tk_no hu h]; exact ih
theorem br_keep {ks : List KV} {Wn Hn : Nat} {Y : WV} (hf : DFit ks Y) : ∀ q, BrK Y (br ks Wn Hn Y q).1 ∧ DFit ks (br ks Wn Hn Y q).1 ∧ (br ks Wn Hn Y q).1.us.map ers = Y.us.map ers
  | 0 => ⟨⟨rfl, rfl, rfl, rfl, rfl, rfl, rfl, rfl, rfl⟩, hf, rfl⟩
  | q + 1 => by
    obtain ⟨ih, i2, i3⟩ := br_keep (Wn := Wn) (Hn := Hn) hf q
    cases hu : (br ks Wn Hn Y q).1.us[q]? with
    | none => rw [br]; simp only [hu]; exact ⟨ih, i2, i3⟩
    | some u =>
      cases h : brings ks Wn Hn (br ks Wn Hn Y q).1 u with
      | true =>
        rw [br_yes hu h]
        obtain ⟨a1, a2, a3, a4, a5, a6, a7, a8, a9⟩ := ih
        refine ⟨⟨a1, a2, a3, a4, a5, a6, a7, by simpa [bringW] using a8, by simpa [bringW] using a9⟩, i2.bring hu, ?_⟩
        show ((br ks Wn Hn Y q).1.us.set q (loadU u 0)).map ers = _
        rw [ers_set hu, i3]
      | false => rw [br_no hu h]; exact ⟨ih, i2, i3⟩
theorem ers_at {l m : List UnV} (h : l.map ers = m.map ers) {i : Nat} {u : UnV} (hu : l[i]? = some u) : ∃ v, m[i]? = some v ∧ ers u = ers v := by
  have : (l.map ers)[i]? = some (ers u) := by rw [List.getElem?_map, hu]; rfl
  rw [h, List.getElem?_map] at this
  cases hv : m[i]? with
  | none => rw [hv] at this; cases this
  | some v =>
    rw [hv] at this
    injection this with this
    exact ⟨v, rfl, this.symm⟩
theorem ers_eq {u v : UnV} (h : ers u = ers v) : u.id = v.id ∧ u.player = v.player ∧ u.kind = v.kind ∧ u.at_ = v.at_ ∧ u.life = v.life ∧ u.task = v.task ∧ u.goal = v.goal := by
  unfold ers loadU at h
  injection h with h1 h2 h3 h4 h5 h6 h7 h8
  exact ⟨h1, h2, h3, h4, h5, h7, h8⟩
theorem ers_take {l m : List UnV} (h : l.map ers = m.map ers) (i : Nat) : (l.take i).map ers = (m.take i).map ers := by rw [List.map_take, List.map_take, h]
theorem ers_find {l m : List UnV} (h : l.map ers = m.map ers) (n : Int) : (l.find? (fun u => u.id == n)).map ers = (m.find? (fun u => u.id == n)).map ers := by
  induction l generalizing m with
  | nil =>
    cases m with
    | nil => rfl
    | cons _ _ => simp at h
  | cons u l ih =>
    cases m with
    | nil => simp at h
    | cons v m =>
      rw [List.map_cons, List.map_cons] at h
      injection h with h1 h2
      have e := (ers_eq h1).1
      rw [List.find?_cons, List.find?_cons, e]
      cases hh : (v.id == n) with
      | true => simp [h1]
      | false => exact ih h2
theorem right_ers {ks : List KV} {X Z : WV} (h : WRight ks X) (f : DFit ks Z) (k1 : Z.turn = X.turn) (k2 : Z.next = X.next) (k3 : Z.wide = X.wide) (k4 : Z.high = X.high) (k5 : Z.gs = X.gs) (k6 : Z.qs = X.qs) (k7 : Z.gold.length = X.gold.length) (e : Z.us.map ers = X.us.map ers) : Wd.wfault ks Z = 0 := by
  have hl : Z.us.length = X.us.length := by have := congrArg List.length e; simpa using this
  refine Wd.wfault_zero h.kinds ?_ ?_ (by rw [hl]; exact h.ul) ?_ (by rw [k6]; exact h.ql) ?_
  · obtain ⟨Wn, Hn, e1, e2, G⟩ := f.wide
    rw [e1, e2]
    exact Fd.fault_good G
  · have hn := h.nums
    unfold Wd.numsBad at hn ⊢
    rw [k1, k2, k7]
    simp only [Bool.or_eq_false_iff] at hn ⊢
    refine ⟨hn.1, hn.2.1, hn.2.2.1, ?_⟩
    rw [List.any_eq_false]
    intro g hg
    have := f.gold g hg
    unfold Wd.off
    simp
    omega
  · intro i u hu
    obtain ⟨v, hv, ev⟩ := ers_at e hu
    obtain ⟨q1, q2, q3, q4, q5, q6, q7⟩ := ers_eq ev
    obtain ⟨k, F⟩ := h.fine hv
    obtain ⟨⟨kn, k', e1, e2, l1, l2, l3⟩, -⟩ := f.units u (List.mem_of_getElem? hu)
    have ek : k' = k := by
      have h9 := F.kk
      rw [← q3, e1, Int.toNat_natCast, e2] at h9
      injection h9
    subst ek
    refine ⟨k', by rw [q1]; exact F.id1, by rw [q1, k2]; exact F.id2, ?_, by rw [q2, k7]; exact F.p, by rw [q3]; exact F.k0, by rw [q3]; exact F.kk, by rw [q5]; exact F.life, ⟨l1, l2⟩, by rw [q6]; exact F.task, by rw [q4, k5]; exact F.at_, by rw [q7, k5]; exact F.goal, ?_, by rw [q6, q7]; exact F.rest⟩
    · have hup := F.up
      cases i with
      | zero => rfl
      | succ i =>
        have hil : i < Z.us.length := by have := (List.getElem?_eq_some_iff.1 hu).1; omega
        obtain ⟨p, hp⟩ : ∃ p, Z.us[i]? = some p := ⟨_, List.getElem?_eq_getElem hil⟩
        obtain ⟨p', hp', ep⟩ := ers_at e hp
        simp only [Wd.notAbove, hp', decide_eq_false_iff_not] at hup
        simp only [Wd.notAbove, hp, decide_eq_false_iff_not]
        rw [q1, (ers_eq ep).1]
        exact hup
    · have ho := F.opn
      unfold Wd.open_ at ho ⊢
      rw [Bool.and_eq_true] at ho ⊢
      refine ⟨by rw [q4, k5]; exact ho.1, ?_⟩
      have h1 := ho.2
      rw [Bool.not_eq_true', List.any_eq_false] at h1 ⊢
      intro p hp
      obtain ⟨i', hi'⟩ := List.mem_iff_getElem?.1 hp
      obtain ⟨p', hp', ep⟩ := ers_at (ers_take e i) hi'
      rw [(ers_eq ep).2.2.2.1, q4]
      exact h1 p' (List.mem_of_getElem? hp')
  · intro j hj
    rw [k6] at hj
    have h1 := h.job hj
    unfold Wd.jobFault at h1 ⊢
    have h2 := ers_find e j.unit
    cases hz : Z.us.find? (fun u => u.id == j.unit) with
    | none =>
      rw [hz] at h2
      cases hx : X.us.find? (fun u => u.id == j.unit) with
      | none => rw [hx] at h1; exact h1
      | some v => rw [hx] at h2; cases h2
    | some u =>
      rw [hz] at h2
      cases hx : X.us.find? (fun u => u.id == j.unit) with
      | none => rw [hx] at h2; cases h2
      | some v =>
        rw [hx] at h2 h1
        injection h2 with h2
        obtain ⟨-, q2, q3, -⟩ := ers_eq h2
        simp only at h1 ⊢
        rw [q2, q3]
        exact h1
/-- behind digging a world is right. -/
theorem dug_keep {ks : List KV} {Wn Hn : Nat} {X : WV} (h : WRight ks X) : let Z := (tk ks X X.us.length).1; let Q := (br ks Wn Hn Z Z.us.length).1; Wd.wfault ks Q = 0 ∧ Q.turn = X.turn ∧ Q.next = X.next ∧ Q.wide = X.wide ∧ Q.high = X.high ∧ Q.gs = X.gs ∧ Q.qs = X.qs ∧ Q.gold.length = X.gold.length ∧ Q.us.length = X.us.length ∧ Q.os.length = X.os.length ∧ Q.us.map ers = X.us.map ers := by
  intro Z Q
  obtain ⟨a1, a2, a3, a4, a5, a6, a7, a8, a9⟩ := tk_keep (ks := ks) (Y := X) X.us.length
  obtain ⟨⟨b1, b2, b3, b4, b5, b6, b7, b8, b9⟩, f, e⟩ := br_keep (Wn := Wn) (Hn := Hn) (tk_fit h.dfit X.us.length) Z.us.length
  have eX : Q.us.map ers = X.us.map ers := e.trans (tk_ers X.us.length)
  have g : Q.gold.length = X.gold.length := by rw [b9, a6]
  refine ⟨right_ers h f (b1.trans a1) (b2.trans a2) (b3.trans a3) (b4.trans a4) (b5.trans a5) (b7.trans a7) g eX, b1.trans a1, b2.trans a2, b3.trans a3, b4.trans a4, b5.trans a5, b7.trans a7, g, b8.trans a8, by rw [b6]; exact a9, eX⟩
end Go.Proofs.YteieikgkmfglaaaGreatDoor

namespace Go.Proofs.YteieikgkmfglaaaGreatDoor
set_option linter.unusedVariables false

theorem right_lt {ks : List KV} {X : WV} (h : WRight ks X) {i j : Nat} {a b : UnV} (ha : X.us[i]? = some a) (hb : X.us[j]? = some b) (e : a.at_ = b.at_) (hl : i < j) : False := by
  obtain ⟨k, F⟩ := h.fine hb
  have ho := F.opn
  unfold Wd.open_ at ho
  rw [Bool.and_eq_true, Bool.not_eq_true'] at ho
  have h2 := List.any_eq_false.1 ho.2 a (List.mem_of_getElem? (i := i) (by rw [List.getElem?_take, if_pos hl]; exact ha))
  simp [e] at h2
theorem right_once {ks : List KV} {X : WV} (h : WRight ks X) {i j : Nat} {a b : UnV} (ha : X.us[i]? = some a) (hb : X.us[j]? = some b) (e : a.at_ = b.at_) : i = j := by
  rcases Nat.lt_trichotomy i j with hl | hl | hl
  · exact (right_lt h ha hb e hl).elim
  · exact hl
  · exact (right_lt h hb ha e.symm hl).elim
/-- one of u's player that trains stands on x. -/
def hasAt (ks : List KV) (us : List UnV) (u : UnV) (x : Int) : Bool := us.any (fun h => decide (h.player = u.player) && (trainsOf ks h && decide (h.at_ = x)))
theorem home_has (ks : List KV) (Wn Hn an : Nat) (Y : WV) (u : UnV) : homeB ks Wn Hn an Y u = (Fd.near Wn Hn an).any (hasAt ks Y.us u) := by
  unfold homeB takesIn hasAt
  rw [Bool.eq_iff_iff]
  simp only [List.any_eq_true, Bool.and_eq_true, decide_eq_true_eq]
  constructor
  · rintro ⟨h, hm, h1, h2, x, hx, h3⟩
    exact ⟨x, hx, h, hm, h1, h2, h3⟩
  · rintro ⟨x, hx, h, hm, h1, h2, h3⟩
    exact ⟨h, hm, h1, h2, x, hx, h3⟩
theorem has_none {ks : List KV} {us : List UnV} {u : UnV} {x : Int} (h : us.any (fun o => o.at_ == x) = false) : hasAt ks us u x = false := by
  unfold hasAt
  rw [List.any_eq_false] at h ⊢
  intro o ho
  have := h o ho
  simp at this
  simp [this]
theorem has_one {ks : List KV} {X : WV} (hr : WRight ks X) {u o : UnV} {n : Nat} {x : Int} (ho : X.us[n]? = some o) (hx : o.at_ = x) : hasAt ks X.us u x = (decide (o.player = u.player) && trainsOf ks o) := by
  unfold hasAt
  rw [Bool.eq_iff_iff]
  simp only [List.any_eq_true, Bool.and_eq_true, decide_eq_true_eq]
  constructor
  · rintro ⟨h, hm, h1, h2, h3⟩
    obtain ⟨i, hi⟩ := List.mem_iff_getElem?.1 hm
    obtain rfl := right_once hr hi ho (by rw [h3, hx])
    obtain rfl := Option.some.inj (hi.symm.trans ho)
    exact ⟨h1, h2⟩
  · rintro ⟨h1, h2⟩
    exact ⟨o, List.mem_of_getElem? ho, h1, h2, hx⟩
theorem trains_of {ks : List KV} {o : UnV} {kn : Nat} {k : KV} (h1 : o.kind = (kn : Nat)) (h2 : ks[kn]? = some k) : trainsOf ks o = k.t := by
  unfold trainsOf
  rw [h1, Int.toNat_natCast, h2]
/-- the first c cells. -/
def homeC (ks : List KV) (us : List UnV) (u : UnV) (near : List Int) (c : Nat) : Bool := (near.take c).any (hasAt ks us u)
theorem homeC_next {ks : List KV} {us : List UnV} {u : UnV} {near : List Int} {c : Nat} {x : Int} (h : near[c]? = some x) : homeC ks us u near (c + 1) = (homeC ks us u near c || hasAt ks us u x) := by
  unfold homeC
  rw [List.take_add_one, h]
  simp
theorem homeC_all (ks : List KV) (Wn Hn an : Nat) (Y : WV) (u : UnV) : homeC ks Y.us u (Fd.near Wn Hn an) (Fd.near Wn Hn an).length = homeB ks Wn Hn an Y u := by
  unfold homeC
  rw [List.take_of_length_le (Nat.le_refl _), home_has]
/-- behind each that has taken, and each that has brought, a world is right. -/
theorem tk_right {ks : List KV} {X : WV} (h : WRight ks X) (q : Nat) : WRight ks (tk ks X q).1 := by
  obtain ⟨k1, k2, k3, k4, k5, k6, k7, -, -⟩ := tk_keep (ks := ks) (Y := X) q
  exact wright_of (right_ers h (tk_fit h.dfit q) k1 k2 k3 k4 k5 k7 (by rw [k6]) (tk_ers q))
theorem br_right {ks : List KV} {Wn Hn : Nat} {X : WV} (h : WRight ks X) (q : Nat) : WRight ks (br ks Wn Hn X q).1 := by
  obtain ⟨⟨k1, k2, k3, k4, k5, -, k7, -, k9⟩, f, e⟩ := br_keep (Wn := Wn) (Hn := Hn) h.dfit q
  exact wright_of (right_ers h f k1 k2 k3 k4 k5 k7 k9 e)
end Go.Proofs.YteieikgkmfglaaaGreatDoor

namespace Go.Proofs.YteieikgkmfglaaaGreatDoor
open Go.RowKit
set_option linter.unusedVariables false

structure RxS (ks : List KV) (Y Z : WV) (es : List EvV) (b1 b : Nat) (w : World) (u1 u2 u3 u4 u5 ev : Value) (V : World) : Prop where
  o1 : Ow V b1 u1 Z.gs
  o2 : Ow V b1 u2 Z.os
  o3 : Ow V b1 u3 Z.gold
  o4 : Uno V b1 u4 Z.us
  o5 : Jbo V b1 u5 Z.qs
  e : Evo V b ev es
  d : [u1, u2, u3, u4, u5].Pairwise Dif
  fr : Fr (fun q => u2.ownBlock = some q ∨ u3.ownBlock = some q ∨ u4.ownBlock = some q) w V
  k : BrK Y Z
  f : DFit ks Z
section
variable {ks : List KV} {Y Z : WV} {es : List EvV} {b1 b : Nat} {w : World} {u1 u2 u3 u4 u5 ev : Value} {V V' : World}
theorem RxS.below (h : RxS ks Y Z es b1 b w u1 u2 u3 u4 u5 ev V) (hb : Below V.heap.size V V') : RxS ks Y Z es b1 b w u1 u2 u3 u4 u5 ev V' :=
  ⟨h.o1.below hb, h.o2.below hb, h.o3.below hb, h.o4.below hb, h.o5.below hb, h.e.below hb, h.d, h.fr.trans (Fr.below hb), h.k, h.f⟩
theorem RxS.wl (h : RxS ks Y Z es b1 b w u1 u2 u3 u4 u5 ev V) : Wl V (.agg #[.int .i64 Y.turn, .int .i64 Y.next, .int .i64 Y.wide, .int .i64 Y.high, u1, u2, u3, u4, u5]) Z := by
  obtain ⟨a1, a2, a3, a4, -⟩ := h.k
  exact ⟨u1, u2, u3, u4, u5, by rw [a1, a2, a3, a4], h.o1.ro, h.o2.ro, h.o3.ro, h.o4.l, h.o5.l⟩
theorem RxS.difs (h : RxS ks Y Z es b1 b w u1 u2 u3 u4 u5 ev V) : (Dif u1 u2 ∧ Dif u1 u3 ∧ Dif u1 u4 ∧ Dif u1 u5) ∧ (Dif u2 u3 ∧ Dif u2 u4 ∧ Dif u2 u5) ∧ (Dif u3 u4 ∧ Dif u3 u5) ∧ Dif u4 u5 := by
  have := h.d
  simp only [List.pairwise_cons, List.mem_cons, List.not_mem_nil, or_false, forall_eq_or_imp, forall_eq] at this
  obtain ⟨⟨a1, a2, a3, a4⟩, ⟨b1, b2, b3⟩, ⟨c1, c2⟩, d1, -⟩ := this
  exact ⟨⟨a1, a2, a3, a4⟩, ⟨b1, b2, b3⟩, ⟨c1, c2⟩, d1⟩
theorem RxS.bring {lu lg gu gg cu cg i : Nat} {ur : List Value} {gr : Array Value} {u : UnV} {ev' : Value} (h : RxS ks Y Z es b1 b w u1 u2 (.slice (some ⟨gg, 0, none⟩) lg cg) (.slice (some ⟨gu, 0, none⟩) lu cu) u5 ev V) (elu : Y.us.length = lu) (elg : Y.gold.length = lg) (hwb : w.heap.size = b)
    (hl : ∀ x ∈ [u1, u2, u5], ∀ k, x.ownBlock = some k → k < b) (hgu : b1 ≤ gu) (c1 : lu ≤ cu) (c2 : cu ≤ maxLen) (c3 : lu * 8 + ur.length = cu * 8) (hgg : b1 ≤ gg) (d1 : lg ≤ cg) (d2 : cg ≤ maxLen) (d3 : lg + gr.size = cg)
    (hu : Z.us[i]? = some u) (hub : Ub V' gu (bringW Z i u).us ur) (hbk : Bk V' gg (bringW Z i u).gold gr) (he : Evo V' b ev' (es ++ [⟨5, u.id, u.load⟩])) (hf : Fr (fun q => q = gu ∨ q = gg ∨ ev.ownBlock = some q) V V') :
    RxS ks Y (bringW Z i u) (es ++ [⟨5, u.id, u.load⟩]) b1 b w u1 u2 (.slice (some ⟨gg, 0, none⟩) lg cg) (.slice (some ⟨gu, 0, none⟩) lu cu) u5 ev' V' := by
  subst elu elg
  obtain ⟨⟨d12, d13, d14, d15⟩, ⟨d23, d24, d25⟩, ⟨d34, d35⟩, d45⟩ := h.difs
  have owu : (Value.slice (some ⟨gu, 0, none⟩) Y.us.length cu).ownBlock = some gu := rfl
  have owg : (Value.slice (some ⟨gg, 0, none⟩) Y.gold.length cg).ownBlock = some gg := rfl
  have no : ∀ x ∈ [u1, u2, u5], Dif x (.slice (some ⟨gg, 0, none⟩) Y.gold.length cg) → Dif x (.slice (some ⟨gu, 0, none⟩) Y.us.length cu) → ∀ q, x.ownBlock = some q → ¬ (q = gu ∨ q = gg ∨ ev.ownBlock = some q) := fun x hx e2 e4 q hq hs => by
    rcases hs with e | e | e
    · exact e4 q hq (by rw [owu, e])
    · exact e2 q hq (by rw [owg, e])
    · have h8 := (h.e.block q e).1; have h9 := hl x hx q hq; omega
  have k' : BrK Y (bringW Z i u) := by
    obtain ⟨a1, a2, a3, a4, a5, a6, a7, a8, a9⟩ := h.k
    exact ⟨a1, a2, a3, a4, a5, a6, a7, by simpa [bringW] using a8, by simpa [bringW] using a9⟩
  refine ⟨hf.own h.o1 (no u1 (by simp) d13 d14), hf.own h.o2 (no u2 (by simp) d23 d24), ?_, ?_, hf.own h.o5 (no u5 (by simp) d35.symm d45.symm), he, h.d, ?_, k', h.f.bring hu⟩
  · have := hbk.ow (base := b1) (cap := cg) hgg (by rw [k'.2.2.2.2.2.2.2.2]; exact d1) d2 (by rw [k'.2.2.2.2.2.2.2.2]; exact d3)
    rw [k'.2.2.2.2.2.2.2.2] at this
    exact this
  · have := hub.uno (base := b1) (cap := cu) hgu (by rw [k'.2.2.2.2.2.2.2.1]; exact c1) c2 (by rw [k'.2.2.2.2.2.2.2.1]; exact c3)
    rw [k'.2.2.2.2.2.2.2.1] at this
    exact this
  · refine ⟨hf.os.trans h.fr.os, hf.tape.trans h.fr.tape, hf.output.trans h.fr.output, Nat.le_trans h.fr.size hf.size, fun q hq hn => (hf.block q (Nat.lt_of_lt_of_le hq h.fr.size) (fun e => ?_)).trans (h.fr.block q hq hn)⟩
    rcases e with e | e | e
    · exact hn (.inr (.inr (by rw [owu, e])))
    · exact hn (.inr (.inl (by rw [owg, e])))
    · have := (h.e.block q e).1; omega
end
theorem RxS.of {ks : List KV} {X Z : WV} {es : List EvV} {b1 b : Nat} {w : World} {u1 u2 u3 u4 u5 ev : Value} {V : World} (h : TkS ks X Z es b1 b w u1 u2 u3 u4 u5 ev V) : RxS ks Z Z es b1 b w u1 u2 u3 u4 u5 ev V :=
  ⟨h.o1, h.o2, h.o3, h.o4, h.o5, h.e, h.d, h.fr.mono (fun k hk => by rcases hk with hk | hk; exact .inl hk; exact .inr (.inr hk)), ⟨rfl, rfl, rfl, rfl, rfl, rfl, rfl, rfl, rfl⟩, h.f⟩
end Go.Proofs.YteieikgkmfglaaaGreatDoor

namespace Go.Proofs.YteieikgkmfglaaaGreatDoor
open Go.RowKit
set_option linter.unusedVariables false

set_option maxHeartbeats 1000000 in
theorem rnumber_q (n : Int) (q : Bool) (w : World) (hq : Hid (decide (0 ≤ n ∧ n ≤ 1000000) = q)) :
    Calls Tryz.prog 27 #[.int .i64 n] w fun e w' => e = .returned (.bool q) ∧ w' = w := by
  go_enter Tryz.func27, Tryz.ntmps27
  by_cases h0 : 0 ≤ n
  · by_cases h1 : n ≤ 1000000
    · have E : Hid (q = true) := by unfold Hid; rw [← hq.out]; simp [h0, h1]
      go_wp2
      go_ret
      exact ⟨by rw [E.out]; rfl, rfl⟩
    · have E : Hid (q = false) := by unfold Hid; rw [← hq.out]; simp [h1]
      go_wp2
      go_ret
      exact ⟨by rw [E.out]; rfl, rfl⟩
  · have E : Hid (q = false) := by unfold Hid; rw [← hq.out]; simp [h0]
    go_wp2
    go_ret
    exact ⟨by rw [E.out]; rfl, rfl⟩
set_option maxRecDepth 100000 in
set_option maxHeartbeats 2000000 in
theorem ron_any (v : Value) (W : WV) (at_ : Int) (w : World) (h : Wl w v W) :
    Calls Tryz.prog 29 #[v, .int .i64 at_] w fun e w' => ∃ r : Int, e = .returned (.int .i64 r) ∧ FstU (fun u => u.at_ == at_) W.us r ∧ Below w.heap.size w w' := by
  obtain ⟨u1, u2, u3, u4, u5, rfl, -, -, -, ⟨a, c, rfl, c1, c2, ca⟩, -⟩ := h
  have Ca : Hid (W.us ≠ [] → ∃ x, a = some x ∧ x.block < w.heap.size ∧ ∀ (i : Nat) k, W.us[i]? = some k → Unc w (x.add (i * 8)) k) := ca
  clear ca
  go_enter Tryz.func29, Tryz.ntmps29
  go_wp2
  have B0 : Hid (Below w.heap.size w (w.alloc (Obj.cells #[.int .i64 W.turn, .int .i64 W.next, .int .i64 W.wide, .int .i64 W.high, u1, u2, u3, .slice a W.us.length c, u5] 29))) := (Below.refl _ _).alloc (Nat.le_refl _) _
  have X0 : Hid (Bw (w.alloc (Obj.cells #[.int .i64 W.turn, .int .i64 W.next, .int .i64 W.wide, .int .i64 W.high, u1, u2, u3, .slice a W.us.length c, u5] 29)) w.heap.size W u1 u2 u3 (.slice a W.us.length c) u5) := Bw.mk' W _ _ _ _ _ rfl
  generalize w.alloc (Obj.cells #[.int .i64 W.turn, .int .i64 W.next, .int .i64 W.wide, .int .i64 W.high, u1, u2, u3, .slice a W.us.length c, u5] 29) = w0 at *
  go_loopw [5] (fun iv V => ∃ k : Nat, k ≤ W.us.length ∧ iv = .int .i64 (k : Nat) ∧ (W.us.take k).any (fun u => u.at_ == at_) = false ∧ V = w0) (fun iv _ => W.us.length - (intOf iv).toNat)
  case atStart => exact ⟨0, Nat.zero_le _, rfl, rfl, rfl⟩
  case round =>
    obtain ⟨k, hk, rfl, hn, rfl⟩ := hrel
    have HN : Hid ((W.us.take k).any (fun u => u.at_ == at_) = false) := hn
    have c7 := X0.out.c7
    clear hn
    by_cases hkl : k = W.us.length
    · have F : Hid (FstU (fun u => u.at_ == at_) W.us (-1)) := .inl ⟨rfl, by have := HN.out; rwa [hkl, List.take_length] at this⟩
      subst hkl
      clear hk
      go_wp2
      go_ret
      exact ⟨-1, rfl, F.out, B0.out⟩
    · have hlt : k < W.us.length := by omega
      have hli : (k : Int) < (W.us.length : Int) := by omega
      obtain ⟨u, hu⟩ : ∃ u, W.us[k]? = some u := ⟨_, List.getElem?_eq_getElem hlt⟩
      obtain ⟨x, rfl, hx, hcell⟩ := Ca.out (by intro e; rw [e] at hlt; simp at hlt)
      obtain ⟨-, -, -, d3, -, -, -, -⟩ := (hcell k u hu).below B0.out (by rw [add_block]; exact hx)
      have HU : Hid (W.us[k]? = some u) := hu
      clear hcell hx hu hkl
      by_cases hid : u.at_ = at_
      · have F : Hid (FstU (fun u => u.at_ == at_) W.us (k : Nat)) := .inr ⟨k, u, rfl, HU.out, by simp [hid], HN.out⟩
        go_wp2
        go_ret
        exact ⟨_, rfl, F.out, B0.out⟩
      · have hidb : (u.at_ == at_) = false := by simpa using hid
        have N2 : Hid ((W.us.take (k + 1)).any (fun u => u.at_ == at_) = false) := by unfold Hid; rw [anyu_next HU.out, HN.out, hidb]; rfl
        clear hid
        go_wp2
        go_roundw
        case rel => exact ⟨k + 1, by omega, rfl, N2.out, trivial⟩
        case measure => simp [intOf]; omega
end Go.Proofs.YteieikgkmfglaaaGreatDoor

namespace Go.Proofs.YteieikgkmfglaaaGreatDoor
open Go.RowKit
set_option linter.unusedVariables false

/-- a list as far as it is made. -/
structure Nr (w : World) (W H : Int) (u1 u2 : Value) (l : List Int) (v : Value) (W' : World) : Prop where
  o : Ow W' (w.heap.size + 1) v l
  x : Bf W' w.heap.size W H u1 u2
  b : Below w.heap.size w W'
theorem Nr.grow {w wr w5 : World} {W H : Int} {u1 u2 v v5 : Value} {l l5 : List Int} {o : Obj} (h : Nr w W H u1 u2 l v wr) (hg : (wr.alloc o).grownBy w5 v.ownBlock) (h5 : Ow w5 (w.heap.size + 1) v5 l5) : Nr w W H u1 u2 l5 v5 w5 := by
  have hob : ∀ k, v.ownBlock = some k → w.heap.size + 1 ≤ k := fun k hk => (h.o.block k hk).1
  have z := h.x.lt
  have h2 : Below wr.heap.size wr (wr.alloc o) := (Below.refl _ _).alloc (Nat.le_refl _) _
  have z2 := h2.size
  have X2 : Bf (wr.alloc o) w.heap.size W H u1 u2 := h.x.below h2 z
  have hne : some w.heap.size ≠ v.ownBlock := fun e => by have := hob _ e.symm; omega
  refine ⟨h5, ⟨?_, ?_, ?_, ?_⟩, (h.b.trans (h2.mono (by omega))).grown hg (by omega) (fun k hk => by have := hob k hk; omega)⟩
  · rw [hg.cell_far ⟨w.heap.size, 0, none⟩ (by show w.heap.size < _; omega) hne]; exact X2.c0
  · rw [hg.cell_far ⟨w.heap.size, 1, none⟩ (by show w.heap.size < _; omega) hne]; exact X2.c1
  · rw [hg.cell_far ⟨w.heap.size, 2, none⟩ (by show w.heap.size < _; omega) hne]; exact X2.c2
  · rw [hg.cell_far ⟨w.heap.size, 3, none⟩ (by show w.heap.size < _; omega) hne]; exact X2.c3
theorem len_if (c : Prop) [Decidable c] (x : Int) : (if c then [x] else []).length ≤ 1 := by split <;> simp

set_option maxRecDepth 100000 in
set_option maxHeartbeats 2000000 in
theorem ref_near_own (v : Value) (W H : Nat) (gs os : List Int) (a : Nat) (w : World) (h : Fl w v W H gs os) (h1 : 0 < W) (h2 : W ≤ 12) (h3 : H ≤ 12) (ha : a < W * H) :
    Calls Tryz.prog 30 #[v, .int .i64 (a : Nat)] w fun e w' => ∃ u, e = .returned u ∧ Ow w' w.heap.size u (Fd.near W H a) ∧ Below w.heap.size w w' := by
  obtain ⟨u1, u2, rfl, ⟨a1, c, rfl, -⟩, ⟨b1, d, rfl, -⟩⟩ := h
  have hm : W * H ≤ 144 := Nat.mul_le_mul h2 h3
  have r1 : a / W < H := Nat.div_lt_of_lt_mul ha
  have p1 := Nat.mod_lt a h1
  have En : Hid (Fd.near W H a = (if 0 < a / W then [(a : Int) - W] else []) ++ ((if 0 < a % W then [(a : Int) - 1] else []) ++ ((if a % W + 1 < W then [(a : Int) + 1] else []) ++ (if a / W + 1 < H then [(a : Int) + W] else [])))) := rfl
  have e1 : (a : Int) % (W : Int) = (a % W : Nat) := rfl
  have e2 : (a : Int) / (W : Int) = (a / W : Nat) := rfl
  generalize a % W = p at *
  generalize a / W = r at *
  have A1 : a ≤ 144 := by omega
  have hw : ¬ (W : Int) = 0 := by omega
  clear ha
  obtain ⟨w0, hw0⟩ : ∃ w0, w.alloc (Obj.cells #[.int .i64 (W : Nat), .int .i64 (H : Nat), .slice a1 gs.length c, .slice b1 os.length d] 25) = w0 := ⟨_, rfl⟩
  have N0 : Hid (Nr w W H (.slice a1 gs.length c) (.slice b1 os.length d) [] (.slice none 0 0) w0) := by
    rw [← hw0]
    exact ⟨Ow.nil _ _, Bf.mk' _ _ _ _ rfl, (Below.refl _ _).alloc (Nat.le_refl _) _⟩
  have Hw : Hid (w.alloc (Obj.cells #[.int .i64 (W : Nat), .int .i64 (H : Nat), .slice a1 gs.length c, .slice b1 os.length d] 25) = w0) := hw0
  clear hw0
  go_enter Tryz.func30, Tryz.ntmps30
  go_upto_region 2 with fail
  rw [Hw.out]
  obtain ⟨x0, x1, x2, x3⟩ := N0.out.x
  go_upto_if 17 with fail
  rw [e1]
  clear e1 e2 x0 x1 x2 x3
  go_cut [5] (fun v5 W' => Nr w W H (.slice a1 gs.length c) (.slice b1 os.length d) (if 0 < r then [(a : Int) - W] else []) v5 W')
  case first =>
    obtain ⟨x0, x1, x2, x3⟩ := N0.out.x
    by_cases q : 0 < r
    · go_wp2_with (at_builtin; refine app_int _ rfl _ _ rfl (w.heap.size + 1) _ [] rfl (N0.out.o.alloc _) ⟨w0.heap.size, 0, none⟩ ((a : Int) - W) rfl (by simp) (by simp) (by have := N0.out.x.lt; simp; omega) ?_)
      intro g cap w5 o5 g5 a5 l5
      have N5 : Hid (Nr w W H (.slice a1 gs.length c) (.slice b1 os.length d) [(a : Int) - W] _ w5) := N0.out.grow g5 o5
      clear o5 g5 a5 l5 x0 x1 x2 x3
      go_wp2
      go_meet
      case rel => rw [if_pos q]; exact N5
    · have q0 : r = 0 := by omega
      subst q0
      go_wp2_with fail
      go_meet
      case rel => rw [if_neg q]; exact N0
  case rest =>
    have L1 : Hid ((if 0 < r then [(a : Int) - W] else []).length ≤ 1) := len_if _ _
    have N1 : Hid (Nr w W H (.slice a1 gs.length c) (.slice b1 os.length d) (if 0 < r then [(a : Int) - W] else []) u5 wc) := hcut
    clear hcut N0
    generalize (if 0 < r then [(a : Int) - W] else []) = l1 at *
    go_upto_if 26 with fail
    go_cut [5] (fun v5 W' => Nr w W H (.slice a1 gs.length c) (.slice b1 os.length d) (l1 ++ (if 0 < p then [(a : Int) - 1] else [])) v5 W')
    case first =>
      by_cases q : 0 < p
      · go_wp2_with (at_builtin; refine app_int _ rfl _ _ rfl (w.heap.size + 1) _ l1 rfl (N1.out.o.alloc _) ⟨wc.heap.size, 0, none⟩ ((a : Int) - 1) rfl (by simp) (by have := L1.out; omega) (by have := N1.out.x.lt; simp; omega) ?_)
        intro g cap w5 o5 g5 a5 l5
        have N5 : Hid (Nr w W H (.slice a1 gs.length c) (.slice b1 os.length d) (l1 ++ [(a : Int) - 1]) _ w5) := N1.out.grow g5 o5
        clear o5 g5 a5 l5
        go_wp2
        go_meet
        case rel => rw [if_pos q]; exact N5
      · have q0 : p = 0 := by omega
        subst q0
        go_wp2_with fail
        go_meet
        case rel => rw [if_neg q, List.append_nil]; exact N1
    case rest =>
      have L2 : Hid ((l1 ++ (if 0 < p then [(a : Int) - 1] else [])).length ≤ 2) := by have h1 := L1.out; have h2 := len_if (0 < p) ((a : Int) - 1); unfold Hid; rw [List.length_append]; omega
      have N2 : Hid (Nr w W H (.slice a1 gs.length c) (.slice b1 os.length d) (l1 ++ (if 0 < p then [(a : Int) - 1] else [])) _ wc) := hcut
      have E2 : Hid (l1 ++ ((if 0 < p then [(a : Int) - 1] else []) ++ ((if p + 1 < W then [(a : Int) + 1] else []) ++ (if r + 1 < H then [(a : Int) + W] else []))) = (l1 ++ (if 0 < p then [(a : Int) - 1] else [])) ++ ((if p + 1 < W then [(a : Int) + 1] else []) ++ (if r + 1 < H then [(a : Int) + W] else []))) := (List.append_assoc _ _ _).symm
      clear hcut N1
      generalize l1 ++ (if 0 < p then [(a : Int) - 1] else []) = l2 at *
      obtain ⟨x0, x1, x2, x3⟩ := N2.out.x
      go_upto_if 36 with fail
      go_cut [5] (fun v5 W' => Nr w W H (.slice a1 gs.length c) (.slice b1 os.length d) (l2 ++ (if p + 1 < W then [(a : Int) + 1] else [])) v5 W')
      case first =>
        by_cases q : p + 1 < W
        · go_wp2_with (at_builtin; refine app_int _ rfl _ _ rfl (w.heap.size + 1) _ l2 rfl (N2.out.o.alloc _) ⟨wc.heap.size, 0, none⟩ ((a : Int) + 1) rfl (by simp) (by have := L2.out; omega) (by have := N2.out.x.lt; simp; omega) ?_)
          intro g cap w5 o5 g5 a5 l5
          have N5 : Hid (Nr w W H (.slice a1 gs.length c) (.slice b1 os.length d) (l2 ++ [(a : Int) + 1]) _ w5) := N2.out.grow g5 o5
          clear o5 g5 a5 l5
          go_wp2
          go_meet
          case rel => rw [if_pos q]; exact N5
        · have q1 : ¬ (p : Int) < (W : Int) - 1 := by omega
          go_wp2_with fail
          go_meet
          case rel => rw [if_neg q, List.append_nil]; exact N2
      case rest =>
        have L3 : Hid ((l2 ++ (if p + 1 < W then [(a : Int) + 1] else [])).length ≤ 3) := by have h1 := L2.out; have h2 := len_if (p + 1 < W) ((a : Int) + 1); unfold Hid; rw [List.length_append]; omega
        have N3 : Hid (Nr w W H (.slice a1 gs.length c) (.slice b1 os.length d) (l2 ++ (if p + 1 < W then [(a : Int) + 1] else [])) _ wc) := hcut
        have E3 : Hid (l2 ++ ((if p + 1 < W then [(a : Int) + 1] else []) ++ (if r + 1 < H then [(a : Int) + W] else [])) = (l2 ++ (if p + 1 < W then [(a : Int) + 1] else [])) ++ (if r + 1 < H then [(a : Int) + W] else [])) := (List.append_assoc _ _ _).symm
        clear hcut N2 x0 x1 x2 x3
        generalize l2 ++ (if p + 1 < W then [(a : Int) + 1] else []) = l3 at *
        obtain ⟨x0, x1, x2, x3⟩ := N3.out.x
        by_cases q : r + 1 < H
        · go_wp2_with (at_builtin; refine app_int _ rfl _ _ rfl (w.heap.size + 1) _ l3 rfl (N3.out.o.alloc _) ⟨wc.heap.size, 0, none⟩ ((a : Int) + W) rfl (by simp) (by have := L3.out; omega) (by have := N3.out.x.lt; simp; omega) ?_)
          intro g cap w5 o5 g5 a5 l5
          have N5 : Hid (Nr w W H (.slice a1 gs.length c) (.slice b1 os.length d) (l3 ++ [(a : Int) + W]) _ w5) := N3.out.grow g5 o5
          clear o5 g5 a5 l5
          go_wp2
          go_ret
          refine ⟨_, rfl, ?_, N5.out.b⟩
          rw [En.out, E2.out, E3.out, if_pos q]
          exact N5.out.o.mono (Nat.le_succ _)
        · have q1 : ¬ (r : Int) < (H : Int) - 1 := by omega
          go_wp2
          go_ret
          refine ⟨_, rfl, ?_, N3.out.b⟩
          rw [En.out, E2.out, E3.out, if_neg q, List.append_nil]
          exact N3.out.o.mono (Nat.le_succ _)
theorem ref_near (v : Value) (W H : Nat) (gs os : List Int) (a : Nat) (w : World) (h : Fl w v W H gs os) (h1 : 0 < W) (h2 : W ≤ 12) (h3 : H ≤ 12) (ha : a < W * H) :
    Calls Tryz.prog 30 #[v, .int .i64 (a : Nat)] w fun e w' => ∃ u, e = .returned u ∧ Ro w' u (Fd.near W H a) ∧ Below w.heap.size w w' :=
  (ref_near_own v W H gs os a w h h1 h2 h3 ha).mono fun e w' ⟨u, h1, h2, h3⟩ => ⟨u, h1, h2.ro, h3⟩
end Go.Proofs.YteieikgkmfglaaaGreatDoor

namespace Go.Proofs.YteieikgkmfglaaaGreatDoor.Fd

theorem near_mem {W H a : Nat} {x : Int} : x ∈ near W H a ↔ (0 < a / W ∧ x = (a : Int) - W) ∨ (0 < a % W ∧ x = (a : Int) - 1) ∨ (a % W + 1 < W ∧ x = (a : Int) + 1) ∨ (a / W + 1 < H ∧ x = (a : Int) + W) := by
  unfold near
  simp only [List.mem_append]
  constructor
  · rintro (h | h | h | h)
    · split at h
      · simp at h; left; exact ⟨by assumption, h⟩
      · simp at h
    · split at h
      · simp at h; right; left; exact ⟨by assumption, h⟩
      · simp at h
    · split at h
      · simp at h; right; right; left; exact ⟨by assumption, h⟩
      · simp at h
    · split at h
      · simp at h; right; right; right; exact ⟨by assumption, h⟩
      · simp at h
  · rintro (⟨h, e⟩ | ⟨h, e⟩ | ⟨h, e⟩ | ⟨h, e⟩)
    · left; rw [if_pos h, e]; simp
    · right; left; rw [if_pos h, e]; simp
    · right; right; left; rw [if_pos h, e]; simp
    · right; right; right; rw [if_pos h, e]; simp
theorem near_len (W H a : Nat) : (near W H a).length ≤ 4 := by
  unfold near
  simp only [List.length_append]
  have h : ∀ (c : Prop) [Decidable c] (x : Int), (if c then [x] else []).length ≤ 1 := by
    intro c _ x
    split <;> simp
  have h1 := h (0 < a / W) ((a : Int) - W)
  have h2 := h (0 < a % W) ((a : Int) - 1)
  have h3 := h (a % W + 1 < W) ((a : Int) + 1)
  have h4 := h (a / W + 1 < H) ((a : Int) + W)
  omega

/-- where a cell beside one lies; and that it has that one beside. -/
theorem near_cell {W H a : Nat} {x : Int} (hW : 0 < W) (ha : a < W * H) (h : x ∈ near W H a) : ∃ t : Nat, x = t ∧ t < W * H ∧ (a : Int) ∈ near W H t := by
  have e := Nat.div_add_mod a W
  have hr : a / W < H := Nat.div_lt_of_lt_mul ha
  have hc := Nat.mod_lt a hW
  have key : ∀ r c : Nat, c < W → (W * r + c) / W = r ∧ (W * r + c) % W = c := by
    intro r c h
    constructor
    · rw [Nat.mul_add_div hW, Nat.div_eq_of_lt h]; omega
    · rw [Nat.mul_add_mod, Nat.mod_eq_of_lt h]
  have bd : ∀ r c : Nat, r < H → c < W → W * r + c < W * H := by
    intro r c h1 h2
    have := Nat.mul_le_mul_left W (show r + 1 ≤ H by omega)
    rw [Nat.mul_add, Nat.mul_one] at this
    omega
  generalize a / W = r at *
  generalize a % W = c at *
  have ei : (a : Int) = (W : Int) * r + c := by rw [← e]; simp
  have hh := near_mem.1 h
  have e1 := (key r c hc).1
  have e2 := (key r c hc).2
  rw [e] at e1 e2
  rw [e1, e2] at hh
  rcases hh with ⟨h1, hx⟩ | ⟨h1, hx⟩ | ⟨h1, hx⟩ | ⟨h1, hx⟩
  · obtain ⟨r', rfl⟩ : ∃ r', r = r' + 1 := ⟨r - 1, by omega⟩
    have k := key r' c hc
    refine ⟨W * r' + c, ?_, bd r' c (by omega) hc, near_mem.2 ?_⟩
    · rw [hx, ei]; simp [Int.mul_add]; omega
    · rw [k.1, k.2]
      right; right; right
      refine ⟨hr, ?_⟩
      rw [ei]; simp [Int.mul_add]; omega
  · obtain ⟨c', rfl⟩ : ∃ c', c = c' + 1 := ⟨c - 1, by omega⟩
    have k := key r c' (by omega)
    refine ⟨W * r + c', ?_, bd r c' hr (by omega), near_mem.2 ?_⟩
    · rw [hx, ei]; simp; omega
    · rw [k.1, k.2]
      right; right; left
      refine ⟨hc, ?_⟩
      rw [ei]; simp; omega
  · have k := key r (c + 1) h1
    refine ⟨W * r + (c + 1), ?_, bd r (c + 1) hr h1, near_mem.2 ?_⟩
    · rw [hx, ei]; simp; omega
    · rw [k.1, k.2]
      right; left
      refine ⟨by omega, ?_⟩
      rw [ei]; simp; omega
  · have k := key (r + 1) c hc
    refine ⟨W * (r + 1) + c, ?_, bd (r + 1) c h1 hc, near_mem.2 ?_⟩
    · rw [hx, ei]; simp [Int.mul_add]; omega
    · rw [k.1, k.2]
      left
      refine ⟨by omega, ?_⟩
      rw [ei]; simp [Int.mul_add]; omega

theorem pair_app {l m : List Int} (h1 : l.Pairwise (· < ·)) (h2 : m.Pairwise (· < ·)) (h3 : ∀ x ∈ l, ∀ y ∈ m, x < y) : (l ++ m).Pairwise (· < ·) := List.pairwise_append.2 ⟨h1, h2, h3⟩
theorem pair_if (c : Prop) [Decidable c] (x : Int) : (if c then [x] else []).Pairwise (· < ·) := by
  split <;> simp
theorem mem_if {c : Prop} [Decidable c] {x y : Int} (h : y ∈ (if c then [x] else [])) : c ∧ y = x := by
  split at h
  · simp at h; exact ⟨by assumption, h⟩
  · simp at h
/-- the cells beside one rise (a field is 2 wide at least where there are two beside one another in a row). -/
theorem near_rise (W H a : Nat) (hW : 0 < W) : (near W H a).Pairwise (· ≠ ·) := by
  unfold near
  by_cases h1 : W = 1
  · subst h1
    rw [if_neg (show ¬ 0 < a % 1 by omega), if_neg (show ¬ a % 1 + 1 < 1 by omega), List.nil_append, List.nil_append]
    refine (pair_app (pair_if _ _) (pair_if _ _) ?_).imp (fun h => by omega)
    intro x hx y hy
    have := mem_if hx
    have := mem_if hy
    omega
  · refine (pair_app (pair_if _ _) (pair_app (pair_if _ _) (pair_app (pair_if _ _) (pair_if _ _) ?_) ?_) ?_).imp (fun h => by omega)
    · intro x hx y hy
      have := mem_if hx
      have := mem_if hy
      omega
    · intro x hx y hy
      have := mem_if hx
      rcases List.mem_append.1 hy with hy | hy
      · have := mem_if hy; omega
      · have := mem_if hy; omega
    · intro x hx y hy
      have := mem_if hx
      rcases List.mem_append.1 hy with hy | hy
      · have := mem_if hy; omega
      · rcases List.mem_append.1 hy with hy | hy
        · have := mem_if hy; omega
        · have := mem_if hy; omega
end Go.Proofs.YteieikgkmfglaaaGreatDoor.Fd

