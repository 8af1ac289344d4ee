/- The reference's Give. -/
import Derived.Test.YteieikgkmfglaaaGreatDoorZTurnGives5
import Derived.Test.YteieikgkmfglaaaGreatDoorZTurnGives7
import Derived.BigQuiet
namespace Go.Proofs.YteieikgkmfglaaaGreatDoor
open Go.RowKit Go.Proofs.YteieikgkmfglaaaGreatDoor.So
set_option linter.unusedVariables false

theorem Orc.kp9o {w w' : World} {z : Nat} {y : Addr} {u : OrV} (h : Orc w y u) (k : Kp z w w') (hn : y.block ≠ z) : Orc w' y u := ⟨cell_kp9 h.c0 k hn, cell_kp9 h.c1 k hn, cell_kp9 h.c2 k hn, cell_kp9 h.c3 k hn⟩
theorem gv_refs {ks : List KV} {Y : WV} {out : List OrV} : ∀ q, (gv ks Y out q).2.length ≤ q
  | 0 => by simp [gv]
  | q + 1 => by
    have ih := gv_refs (ks := ks) (Y := Y) (out := out) q
    rw [gv]
    split
    · omega
    · split
      · show (gv ks Y out q).2.length ≤ q + 1; omega
      · simp; omega
def RvI (ks : List KV) (X : WV) (out : List OrV) (b : Nat) (w0 : World) (lv v8 v9 : Value) (V : World) : Prop :=
  ∃ (n : Nat) (u1 u2 u3 u4 u5 ur : Value), n ≤ out.length ∧ v9 = .int .i64 (n : Nat) ∧ ur = v8 ∧ GvS ks (gv ks X out n).1 (gv ks X out n).2 (b + 2) b w0 u1 u2 u3 u4 u5 ur V ∧ Oro V (b + 2) lv out
set_option maxRecDepth 100000 in
set_option maxHeartbeats 32000000 in
theorem rgive_any (vk vw vl : Value) (ks : List KV) (X : WV) (l : List OrV) (w : World) (hk : Kl w vk ks) (hw : Wl w vw X) (hl : Orl w vl l) (hr : WRight ks X) (hf : Od.faults l = 0) :
    Calls Tryz.prog 18 #[vk, vw, vl] w fun e w' => ∃ v ur out, e = .returned (.tuple #[v, ur]) ∧ LastSays l out ∧ Wo w' w.heap.size v (gv ks X out out.length).1 ∧ Ow w' w.heap.size ur (gv ks X out out.length).2 ∧ Below w.heap.size w w' := by
  have K : Hid (Kl w vk ks) := hk
  have H : Hid (Wl w vw X) := hw
  have L : Hid (Orl w vl l) := hl
  have WR : Hid (WRight ks X) := hr
  have LF : Hid (Od.faults l = 0) := hf
  have l60 : l.length ≤ 60 := by
    unfold Od.faults at hf
    split at hf
    · cases hf
    · omega
  obtain ⟨p1, q1, p2, q2, p3, q3, p4, q4, p5, q5, rfl⟩ := wl_shape9 hw
  obtain ⟨pk, qk, rfl, ck1, ck2, kc⟩ := hk
  obtain ⟨pl, ql, rfl, cl1, cl2, lc0⟩ := hl
  have KC : Hid (ks ≠ [] → ∃ x, pk = some x ∧ x.block < w.heap.size ∧ ∀ (i : Nat) k, ks[i]? = some k → Kc w (x.add (i * 11)) k) := kc
  have kl8 : ks.length ≤ 8 := hr.gfit.kinds.1
  clear hw hr kc lc0 hf
  go_enter Tryz.func18, Tryz.ntmps18
  go_upto_region 1 with fail
  obtain ⟨b, hb0⟩ : ∃ z, w.heap.size = z := ⟨_, rfl⟩
  have B0 : Hid (Below w.heap.size w ((w.alloc (Obj.cells #[.int .i64 X.turn, .int .i64 X.next, .int .i64 X.wide, .int .i64 X.high, .slice p1 X.gs.length q1, .slice p2 X.os.length q2, .slice p3 X.gold.length q3, .slice p4 X.us.length q4, .slice p5 X.qs.length q5] 29)).alloc (Obj.cells #[.int .i64 0, .int .i64 0, .int .i64 0, .int .i64 0, .slice none 0 0, .slice none 0 0, .slice none 0 0, .slice none 0 0, .slice none 0 0] 29))) := ((Below.refl _ _).alloc (Nat.le_refl _) _).alloc (by simp) _
  have X0 : Hid (Wx ((w.alloc (Obj.cells #[.int .i64 X.turn, .int .i64 X.next, .int .i64 X.wide, .int .i64 X.high, .slice p1 X.gs.length q1, .slice p2 X.os.length q2, .slice p3 X.gold.length q3, .slice p4 X.us.length q4, .slice p5 X.qs.length q5] 29)).alloc (Obj.cells #[.int .i64 0, .int .i64 0, .int .i64 0, .int .i64 0, .slice none 0 0, .slice none 0 0, .slice none 0 0, .slice none 0 0, .slice none 0 0] 29)) b (.int .i64 X.turn) (.int .i64 X.next) (.int .i64 X.wide) (.int .i64 X.high) (.slice p1 X.gs.length q1) (.slice p2 X.os.length q2) (.slice p3 X.gold.length q3) (.slice p4 X.us.length q4) (.slice p5 X.qs.length q5)) := (Wx.new (w := w) _ _ _ _ _ _ _ _ _ hb0).below ((Below.refl _ _).alloc (Nat.le_refl _) _) (by rw [← hb0]; simp)
  have Z0 : Hid (Wx ((w.alloc (Obj.cells #[.int .i64 X.turn, .int .i64 X.next, .int .i64 X.wide, .int .i64 X.high, .slice p1 X.gs.length q1, .slice p2 X.os.length q2, .slice p3 X.gold.length q3, .slice p4 X.us.length q4, .slice p5 X.qs.length q5] 29)).alloc (Obj.cells #[.int .i64 0, .int .i64 0, .int .i64 0, .int .i64 0, .slice none 0 0, .slice none 0 0, .slice none 0 0, .slice none 0 0, .slice none 0 0] 29)) (b + 1) (.int .i64 0) (.int .i64 0) (.int .i64 0) (.int .i64 0) (.slice none 0 0) (.slice none 0 0) (.slice none 0 0) (.slice none 0 0) (.slice none 0 0)) := Wx.new _ _ _ _ _ _ _ _ _ (by rw [← hb0]; simp)
  have N0 : Hid (((w.alloc (Obj.cells #[.int .i64 X.turn, .int .i64 X.next, .int .i64 X.wide, .int .i64 X.high, .slice p1 X.gs.length q1, .slice p2 X.os.length q2, .slice p3 X.gold.length q3, .slice p4 X.us.length q4, .slice p5 X.qs.length q5] 29)).alloc (Obj.cells #[.int .i64 0, .int .i64 0, .int .i64 0, .int .i64 0, .slice none 0 0, .slice none 0 0, .slice none 0 0, .slice none 0 0, .slice none 0 0] 29)).heap.size = b + 2) := by unfold Hid; rw [← hb0]; simp
  have HB : Hid (w.heap.size = b) := hb0
  (try rw [hb0])
  clear hb0
  generalize ((w.alloc (Obj.cells #[.int .i64 X.turn, .int .i64 X.next, .int .i64 X.wide, .int .i64 X.high, .slice p1 X.gs.length q1, .slice p2 X.os.length q2, .slice p3 X.gold.length q3, .slice p4 X.us.length q4, .slice p5 X.qs.length q5] 29)).alloc (Obj.cells #[.int .i64 0, .int .i64 0, .int .i64 0, .int .i64 0, .slice none 0 0, .slice none 0 0, .slice none 0 0, .slice none 0 0, .slice none 0 0] 29)) = w0 at *
  obtain ⟨x0, x1, x2, x3, x4, x5, x6, x7, x8⟩ := X0.out.cells
  go_wp2_with fail
  refine (rcopy_any _ X w0 (H.out.below B0.out) WR.out.len).mono ?_
  rintro e w1 ⟨cu, rfl, ⟨k1, k2, k3, k4, k5, rfl, ⟨o1, o2, o3, o4, o5⟩, d12, d13, d14, d15, d23, d24, d25, d34, d35, d45⟩, hb⟩
  obtain ⟨a1, r1, rfl⟩ := o1.len
  obtain ⟨a2, r2, rfl⟩ := o2.len
  obtain ⟨a3, r3, rfl⟩ := o3.len
  obtain ⟨a4, r4, rfl⟩ := o4.len
  obtain ⟨a5, r5, rfl⟩ := o5.len
  rw [N0.out] at o1 o2 o3 o4 o5
  have X1 : Hid (Wx w1 b (.int .i64 X.turn) (.int .i64 X.next) (.int .i64 X.wide) (.int .i64 X.high) (.slice p1 X.gs.length q1) (.slice p2 X.os.length q2) (.slice p3 X.gold.length q3) (.slice p4 X.us.length q4) (.slice p5 X.qs.length q5)) := X0.out.below hb X0.out.lt
  have KB1 : Hid (Below w0.heap.size w0 w1) := hb
  clear x0 x1 x2 x3 x4 x5 x6 x7 x8 X0
  obtain ⟨x0, x1, x2, x3, x4, x5, x6, x7, x8⟩ := X1.out.cells
  obtain ⟨t0, t1, t2, t3, t4, t5, t6, t7, t8⟩ := X1.out.thaws
  have KW : Hid (Kp b w1 (((((((((w1.setCell ⟨b, 0, none⟩ (.int .i64 X.turn)).setCell ⟨b, 1, none⟩ (.int .i64 X.next)).setCell ⟨b, 2, none⟩ (.int .i64 X.wide)).setCell ⟨b, 3, none⟩ (.int .i64 X.high)).setCell ⟨b, 4, none⟩ (Value.slice a1 X.gs.length r1)).setCell ⟨b, 5, none⟩ (Value.slice a2 X.os.length r2)).setCell ⟨b, 6, none⟩ (Value.slice a3 X.gold.length r3)).setCell ⟨b, 7, none⟩ (Value.slice a4 X.us.length r4)).setCell ⟨b, 8, none⟩ (Value.slice a5 X.qs.length r5))) := put_kp _ _ _ _ _ _ _ _ _ _ _
  have X2 : Hid (Wx (((((((((w1.setCell ⟨b, 0, none⟩ (.int .i64 X.turn)).setCell ⟨b, 1, none⟩ (.int .i64 X.next)).setCell ⟨b, 2, none⟩ (.int .i64 X.wide)).setCell ⟨b, 3, none⟩ (.int .i64 X.high)).setCell ⟨b, 4, none⟩ (Value.slice a1 X.gs.length r1)).setCell ⟨b, 5, none⟩ (Value.slice a2 X.os.length r2)).setCell ⟨b, 6, none⟩ (Value.slice a3 X.gold.length r3)).setCell ⟨b, 7, none⟩ (Value.slice a4 X.us.length r4)).setCell ⟨b, 8, none⟩ (Value.slice a5 X.qs.length r5)) b (.int .i64 X.turn) (.int .i64 X.next) (.int .i64 X.wide) (.int .i64 X.high) (Value.slice a1 X.gs.length r1) (Value.slice a2 X.os.length r2) (Value.slice a3 X.gold.length r3) (Value.slice a4 X.us.length r4) (Value.slice a5 X.qs.length r5)) := X1.out.put _ _ _ _ _ _ _ _ _
  have T2 : Hid (GvS ks X [] (b + 2) b w0 (Value.slice a1 X.gs.length r1) (Value.slice a2 X.os.length r2) (Value.slice a3 X.gold.length r3) (Value.slice a4 X.us.length r4) (Value.slice a5 X.qs.length r5) (.slice none 0 0) (((((((((w1.setCell ⟨b, 0, none⟩ (.int .i64 X.turn)).setCell ⟨b, 1, none⟩ (.int .i64 X.next)).setCell ⟨b, 2, none⟩ (.int .i64 X.wide)).setCell ⟨b, 3, none⟩ (.int .i64 X.high)).setCell ⟨b, 4, none⟩ (Value.slice a1 X.gs.length r1)).setCell ⟨b, 5, none⟩ (Value.slice a2 X.os.length r2)).setCell ⟨b, 6, none⟩ (Value.slice a3 X.gold.length r3)).setCell ⟨b, 7, none⟩ (Value.slice a4 X.us.length r4)).setCell ⟨b, 8, none⟩ (Value.slice a5 X.qs.length r5))) := by
    refine ⟨X2.out, owns_kp o1 KW.out (by omega), owns_kp o2 KW.out (by omega), owns_kp o3 KW.out (by omega), owns_kp o4 KW.out (by omega), owns_kp o5 KW.out (by omega), Ow.nil _ _, ?_, (Kp.of KB1.out).trans KW.out, WR.out.gfit⟩
    simp only [List.pairwise_cons, List.mem_cons, List.not_mem_nil, or_false, forall_eq_or_imp, forall_eq]
    have nn : ∀ u : Value, Dif u (.slice none 0 0) := fun u k h1 h2 => by cases h2
    exact ⟨⟨d12, d13, d14, d15, nn _⟩, ⟨d23, d24, d25, nn _⟩, ⟨d34, d35, nn _⟩, ⟨d45, nn _⟩, nn _, fun _ h => h.elim, List.Pairwise.nil⟩
  go_upto_region 2 with fail
  clear o1 o2 o3 o4 o5 d12 d13 d14 d15 d23 d24 d25 d34 d35 d45 hb x0 x1 x2 x3 x4 x5 x6 x7 x8 t0 t1 t2 t3 t4 t5 t6 t7 t8 X1 KW KB1
  generalize (((((((((w1.setCell ⟨b, 0, none⟩ (.int .i64 X.turn)).setCell ⟨b, 1, none⟩ (.int .i64 X.next)).setCell ⟨b, 2, none⟩ (.int .i64 X.wide)).setCell ⟨b, 3, none⟩ (.int .i64 X.high)).setCell ⟨b, 4, none⟩ (Value.slice a1 X.gs.length r1)).setCell ⟨b, 5, none⟩ (Value.slice a2 X.os.length r2)).setCell ⟨b, 6, none⟩ (Value.slice a3 X.gold.length r3)).setCell ⟨b, 7, none⟩ (Value.slice a4 X.us.length r4)).setCell ⟨b, 8, none⟩ (Value.slice a5 X.qs.length r5)) = w2 at *
  have B2 : Hid (Below w.heap.size w w2) := T2.out.k.below B0.out B0.out.size (by rw [HB.out]; exact Nat.le_refl _)
  go_wp2_with fail
  refine (ref_last _ l w2 (L.out.below B2.out) l60).mono ?_
  rintro e w3 ⟨lv, out, rfl, hls, hlo, hb⟩
  have LS : Hid (LastSays l out) := hls
  have ol60 : out.length ≤ 60 := Nat.le_trans hls.len l60
  obtain ⟨la, lc, rfl⟩ := hlo.len
  have T3 : Hid (GvS ks X [] (b + 2) b w0 (Value.slice a1 X.gs.length r1) (Value.slice a2 X.os.length r2) (Value.slice a3 X.gold.length r3) (Value.slice a4 X.us.length r4) (Value.slice a5 X.qs.length r5) (.slice none 0 0) w3) := T2.out.below hb
  have O3 : Hid (Oro w3 (b + 2) (Value.slice la out.length lc) out) := hlo.mono (by have h1 := T2.out.k.size; rw [N0.out] at h1; exact h1)
  clear hls hlo hb T2 B2 X2
  go_upto_region 5 with fail
  go_loopw [8, 9] (fun v8 v9 V => RvI ks X out b w0 (Value.slice la out.length lc) v8 v9 V) (fun _ v9 _ => out.length - (intOf v9).toNat)
  case atStart => exact ⟨0, _, _, _, _, _, _, Nat.zero_le _, rfl, rfl, T3.out, O3.out⟩
  case round =>
    obtain ⟨n, u1, u2, u3, u4, u5, ur, hn, rfl, hur, ht, ho⟩ := hrel
    obtain ⟨Y, hY⟩ : ∃ Y, (gv ks X out n).1 = Y := ⟨_, rfl⟩
    obtain ⟨rf, hR⟩ : ∃ r, (gv ks X out n).2 = r := ⟨_, rfl⟩
    have HQ : Hid ((gv ks X out n).1 = Y ∧ (gv ks X out n).2 = rf) := ⟨hY, hR⟩
    have RL : Hid (rf.length ≤ 60) := by have := gv_refs (ks := ks) (Y := X) (out := out) n; rw [hR] at this; unfold Hid; omega
    have RY : Hid (WRight ks Y) := by rw [← hY]; exact gv_right WR.out (fun o ho => faults_mem LS.out LF.out ho) n
    rw [hY, hR] at ht
    clear hY hR
    obtain ⟨f1, c1, rfl⟩ := ht.o1.len
    obtain ⟨f2, c2, rfl⟩ := ht.o2.len
    obtain ⟨f3, c3, rfl⟩ := ht.o3.len
    obtain ⟨f4, c4, rfl⟩ := ht.o4.len
    obtain ⟨f5, c5, rfl⟩ := ht.o5.len
    obtain ⟨fr, cr, rfl⟩ := ht.r.len
    subst hur
    have TS : Hid (GvS ks Y rf (b + 2) b w0 (Value.slice f1 Y.gs.length c1) (Value.slice f2 Y.os.length c2) (Value.slice f3 Y.gold.length c3) (Value.slice f4 Y.us.length c4) (Value.slice f5 Y.qs.length c5) (Value.slice fr rf.length cr) wr) := ht
    have OR : Hid (Oro wr (b + 2) (Value.slice la out.length lc) out) := ho
    have BWR : Hid (Below w.heap.size w wr) := ht.k.below B0.out B0.out.size (by rw [HB.out]; exact Nat.le_refl _)
    clear ht ho
    by_cases hnn : n = out.length
    · subst hnn
      have hnl : ¬ (((out.length : Nat) : Int) < (out.length : Nat)) := by omega
      have ED : Hid ((gv ks X out out.length).1 = Y ∧ (gv ks X out out.length).2 = rf) := HQ.out
      have Z9 : Hid (Wx wr (b + 1) (.int .i64 0) (.int .i64 0) (.int .i64 0) (.int .i64 0) (.slice none 0 0) (.slice none 0 0) (.slice none 0 0) (.slice none 0 0) (.slice none 0 0)) := Z0.out.kp TS.out.k (by omega)
      go_upto_region 37 with fail
      clear hnl
      generalize wr = w9 at *
      obtain ⟨x0, x1, x2, x3, x4, x5, x6, x7, x8⟩ := TS.out.x.cells
      obtain ⟨z0, z1, z2, z3, z4, z5, z6, z7, z8⟩ := Z9.out.cells
      obtain ⟨t0, t1, t2, t3, t4, t5, t6, t7, t8⟩ := Z9.out.thaws
      have KZ : Hid (Kp (b + 1) w9 (((((((((w9.setCell ⟨b + 1, 0, none⟩ (.int .i64 Y.turn)).setCell ⟨b + 1, 1, none⟩ (.int .i64 Y.next)).setCell ⟨b + 1, 2, none⟩ (.int .i64 Y.wide)).setCell ⟨b + 1, 3, none⟩ (.int .i64 Y.high)).setCell ⟨b + 1, 4, none⟩ (Value.slice f1 Y.gs.length c1)).setCell ⟨b + 1, 5, none⟩ (Value.slice f2 Y.os.length c2)).setCell ⟨b + 1, 6, none⟩ (Value.slice f3 Y.gold.length c3)).setCell ⟨b + 1, 7, none⟩ (Value.slice f4 Y.us.length c4)).setCell ⟨b + 1, 8, none⟩ (Value.slice f5 Y.qs.length c5))) := put_kp _ _ _ _ _ _ _ _ _ _ _
      obtain ⟨y0, y1, y2, y3, y4, y5, y6, y7, y8⟩ := (Z9.out.put (.int .i64 Y.turn) (.int .i64 Y.next) (.int .i64 Y.wide) (.int .i64 Y.high) (Value.slice f1 Y.gs.length c1) (Value.slice f2 Y.os.length c2) (Value.slice f3 Y.gold.length c3) (Value.slice f4 Y.us.length c4) (Value.slice f5 Y.qs.length c5)).cells
      go_wp2
      clear x0 x1 x2 x3 x4 x5 x6 x7 x8 z0 z1 z2 z3 z4 z5 z6 z7 z8 t0 t1 t2 t3 t4 t5 t6 t7 t8
      generalize (((((((((w9.setCell ⟨b + 1, 0, none⟩ (.int .i64 Y.turn)).setCell ⟨b + 1, 1, none⟩ (.int .i64 Y.next)).setCell ⟨b + 1, 2, none⟩ (.int .i64 Y.wide)).setCell ⟨b + 1, 3, none⟩ (.int .i64 Y.high)).setCell ⟨b + 1, 4, none⟩ (Value.slice f1 Y.gs.length c1)).setCell ⟨b + 1, 5, none⟩ (Value.slice f2 Y.os.length c2)).setCell ⟨b + 1, 6, none⟩ (Value.slice f3 Y.gold.length c3)).setCell ⟨b + 1, 7, none⟩ (Value.slice f4 Y.us.length c4)).setCell ⟨b + 1, 8, none⟩ (Value.slice f5 Y.qs.length c5)) = wz at *
      refine bodyPost_ret (v := .tuple #[.agg #[.int .i64 Y.turn, .int .i64 Y.next, .int .i64 Y.wide, .int .i64 Y.high, Value.slice f1 Y.gs.length c1, Value.slice f2 Y.os.length c2, Value.slice f3 Y.gold.length c3, Value.slice f4 Y.us.length c4, Value.slice f5 Y.qs.length c5], (Value.slice fr rf.length cr)]) (by simp [results, Tryz.results18, go_sem, y0, y1, y2, y3, y4, y5, y6, y7, y8]) rfl ⟨_, _, out, rfl, LS.out, ?_, ?_, KZ.out.below BWR.out BWR.out.size (by rw [HB.out]; omega)⟩
      · rw [ED.out.1]
        have h := HB.out
        exact (TS.out.wo.kp KZ.out (by omega)).mono (by omega)
      · rw [ED.out.2]
        have h := HB.out
        exact (TS.out.r.kp KZ.out (by omega)).mono (by omega)
    · have hnl : n < out.length := by omega
      have hni : ((n : Nat) : Int) < (out.length : Nat) := by omega
      obtain ⟨o, ho⟩ : ∃ o, out[n]? = some o := ⟨_, List.getElem?_eq_getElem hnl⟩
      have OQ : Hid (out[n]? = some o) := ho
      have OB : Hid (¬ Od.bad o) := faults_mem LS.out LF.out (List.mem_of_getElem? ho)
      obtain ⟨la', lc', el, -, -, hlx⟩ := OR.out.l
      obtain ⟨xo, hxo, hxol, hxoc⟩ := hlx (by intro h; rw [h] at hnl; simp at hnl)
      injection el with el1 el2 el3
      subst el1
      subst hxo
      obtain ⟨y0, y1, y2, y3⟩ := hxoc n o ho
      clear ho hlx hxol hxoc el2 el3
      go_upto_region 8 with fail
      obtain ⟨zo, hzo⟩ : ∃ z, wr.heap.size = z := ⟨_, rfl⟩
      have D3 : Hid (Below wr.heap.size wr (wr.alloc (Obj.cells #[.int .i64 o.player, .int .i64 o.unit, .int .i64 o.what, .int .i64 o.arg] 89))) := (Below.refl _ _).alloc (Nat.le_refl _) _
      have OC3 : Hid (Orc (wr.alloc (Obj.cells #[.int .i64 o.player, .int .i64 o.unit, .int .i64 o.what, .int .i64 o.arg] 89)) ⟨zo, 0, none⟩ o) := Orc.mk' o hzo
      have ZO : Hid (b + 2 ≤ zo ∧ ∀ x ∈ [(Value.slice f3 Y.gold.length c3), (Value.slice f4 Y.us.length c4)], ∀ k, x.ownBlock = some k → k < zo) := by
        unfold Hid
        rw [← hzo]
        refine ⟨by have h1 := TS.out.k.size; rw [N0.out] at h1; exact h1, fun x hx k hk => ?_⟩
        simp only [List.mem_cons, List.not_mem_nil, or_false] at hx
        rcases hx with rfl | rfl
        · exact (TS.out.o3.block k hk).2
        · exact (TS.out.o4.block k hk).2
      (try rw [hzo])
      clear y0 y1 y2 y3 hzo
      generalize wr.alloc (Obj.cells #[.int .i64 o.player, .int .i64 o.unit, .int .i64 o.what, .int .i64 o.arg] 89) = w3' at *
      have TS3 : Hid (GvS ks Y rf (b + 2) b w0 (Value.slice f1 Y.gs.length c1) (Value.slice f2 Y.os.length c2) (Value.slice f3 Y.gold.length c3) (Value.slice f4 Y.us.length c4) (Value.slice f5 Y.qs.length c5) (Value.slice fr rf.length cr) w3') := TS.out.below D3.out
      have OR3 : Hid (Oro w3' (b + 2) (Value.slice (some xo) out.length lc) out) := OR.out.below D3.out
      have W3 : Hid (Below w.heap.size w w3') := BWR.out.trans (D3.out.mono BWR.out.size)
      obtain ⟨y0, y1, y2, y3⟩ := OC3.out
      simp only [Nat.zero_add] at y0 y1 y2 y3
      obtain ⟨x0, x1, x2, x3, x4, x5, x6, x7, x8⟩ := TS3.out.x.cells
      go_wp2_with fail
      refine (rfind_any _ Y o.unit w3' TS3.out.wo.l).mono ?_
      rintro e w4 ⟨r, rfl, hf, hb4⟩
      have TS4 : Hid (GvS ks Y rf (b + 2) b w0 (Value.slice f1 Y.gs.length c1) (Value.slice f2 Y.os.length c2) (Value.slice f3 Y.gold.length c3) (Value.slice f4 Y.us.length c4) (Value.slice f5 Y.qs.length c5) (Value.slice fr rf.length cr) w4) := TS3.out.below hb4
      have OR4 : Hid (Oro w4 (b + 2) (Value.slice (some xo) out.length lc) out) := OR3.out.below hb4
      have OC4 : Hid (Orc w4 ⟨zo, 0, none⟩ o) := OC3.out.below hb4 OC3.out.lt
      have W4 : Hid (Below w.heap.size w w4) := W3.out.trans (hb4.mono W3.out.size)
      clear hb4 y0 y1 y2 y3 x0 x1 x2 x3 x4 x5 x6 x7 x8 TS OR TS3 OR3 OC3 W3 BWR D3
      rcases hf with ⟨rfl, hf⟩ | ⟨i, u, rfl, hu, hid, -⟩
      · have NOQ : Hid (given1 ks Y o = none) := g1_no hf
        clear hf
        go_upto_region 9 with fail
        go_quiet (fail)
        have DQ : Hid (Below w4.heap.size w4 (w4.drewN nq)) := ⟨rfl, rfl, rfl, Nat.le_refl _, fun _ _ => rfl⟩
        generalize w4.drewN nq = w5 at *
        have TS5 : Hid (GvS ks Y rf (b + 2) b w0 (Value.slice f1 Y.gs.length c1) (Value.slice f2 Y.os.length c2) (Value.slice f3 Y.gold.length c3) (Value.slice f4 Y.us.length c4) (Value.slice f5 Y.qs.length c5) (Value.slice fr rf.length cr) w5) := TS4.out.below DQ.out
        have OR5 : Hid (Oro w5 (b + 2) (Value.slice (some xo) out.length lc) out) := OR4.out.below DQ.out
        as_aux_lemma =>
          have NX : Hid (gv ks X out (n + 1) = (Y, rf ++ [(n : Int)])) := by
            have h9 := gv_no (ks := ks) (Y := X) (out := out) (q := n) (o := o) OQ.out (by rw [HQ.out.1]; exact NOQ.out)
            unfold Hid
            rw [h9, HQ.out.1, HQ.out.2]
          have BA : Hid (Below w5.heap.size w5 (w5.alloc (Obj.cells #[.int .i64 (n : Nat)] 3))) := (Below.refl _ _).alloc (Nat.le_refl _) _
          have TA : Hid (GvS ks Y rf (b + 2) b w0 (Value.slice f1 Y.gs.length c1) (Value.slice f2 Y.os.length c2) (Value.slice f3 Y.gold.length c3) (Value.slice f4 Y.us.length c4) (Value.slice f5 Y.qs.length c5) (Value.slice fr rf.length cr) (w5.alloc (Obj.cells #[.int .i64 (n : Nat)] 3))) := TS5.out.below BA.out
          have OA : Hid (Oro (w5.alloc (Obj.cells #[.int .i64 (n : Nat)] 3)) (b + 2) (Value.slice (some xo) out.length lc) out) := OR5.out.below BA.out
          have NC : Hid ((w5.alloc (Obj.cells #[.int .i64 (n : Nat)] 3)).cell? ⟨w5.heap.size, 0, none⟩ = some (.int .i64 (n : Nat))) := by unfold Hid; simp
          have SA : Hid (b + 2 ≤ (w5.alloc (Obj.cells #[.int .i64 (n : Nat)] 3)).heap.size) := by have h1 := TA.out.k.size; rw [N0.out] at h1; exact h1
          go_wp2_with (at_builtin; refine app_int _ rfl _ _ rfl (b + 2) _ rf rfl TA.out.r ⟨w5.heap.size, 0, none⟩ (n : Int) rfl NC.out (by have := RL.out; omega) SA.out ?_)
          intro gq cq wE o8 g8 a8 l8
          have TE : Hid (GvS ks Y (rf ++ [(n : Int)]) (b + 2) b w0 (Value.slice f1 Y.gs.length c1) (Value.slice f2 Y.os.length c2) (Value.slice f3 Y.gold.length c3) (Value.slice f4 Y.us.length c4) (Value.slice f5 Y.qs.length c5) (Value.slice (some ⟨gq, 0, none⟩) (rf.length + 1) cq) wE) := TA.out.refuse (by omega) N0.out g8 o8 (by
            rcases a8 with a8 | a8
            · exact .inl a8.symm
            · exact .inr ⟨gq, rfl, by simp at a8 ⊢; omega⟩)
          have OE : Hid (Oro wE (b + 2) (Value.slice (some xo) out.length lc) out) := (Fr.gb (S := fun q => (Value.slice fr rf.length cr).ownBlock = some q) g8 (fun k hk => hk)).own OA.out (own_two OA.out TA.out.r (by decide))
          clear o8 g8 a8 l8
          go_wp2
          go_round
          case rel => exact ⟨n + 1, _, _, _, _, _, _, by omega, by go_num, rfl, by rw [NX.out]; exact TE.out, OE.out⟩
          case measure => simp [intOf]; omega
      replace hid := eq_of_beq hid
      obtain ⟨-, pn, hpu, hpl⟩ := RY.out.gfit.units u (List.mem_of_getElem? hu)
      have PL : Hid (pn < Y.gold.length) := hpl
      clear hpl
      by_cases hpq : u.player = o.player
      case neg =>
        have NOQ : Hid (given1 ks Y o = none) := g1_other RY.out hu hid hpq
        have hil : i < Y.us.length := (List.getElem?_eq_some_iff.1 hu).1
        have hii : ((i : Nat) : Int) < (Y.us.length : Nat) := by omega
        have hi0 : 0 ≤ ((i : Nat) : Int) := by omega
        obtain ⟨gu, cu, rest, e4, -, -, -, -, hub⟩ : ∃ g cap rest, (Value.slice f4 Y.us.length c4) = .slice (some ⟨g, 0, none⟩) Y.us.length cap ∧ b + 2 ≤ g ∧ Y.us.length ≤ cap ∧ cap ≤ maxLen ∧ Y.us.length * 8 + rest.length = cap * 8 ∧ Ub w4 g Y.us rest := by
          rcases TS4.out.o4.ub with ⟨-, h⟩ | h
          · rw [h] at hil; simp at hil
          · exact h
        injection e4 with e41 e42 e43
        subst e41 e43
        obtain ⟨-, v1, -, -⟩ := hub.unc hu
        have hp1 : (u.player == o.player) = false := beq_eq_false_iff_ne.2 hpq
        have hp2 : decide (u.player = o.player) = false := decide_eq_false hpq
        obtain ⟨y0, y1, y2, y3⟩ := OC4.out
        simp only [Nat.zero_add] at y0 y1 y2 y3
        obtain ⟨x0, x1, x2, x3, x4, x5, x6, x7, x8⟩ := TS4.out.x.cells
        clear hpu hid hu hpq hub e42 hil
        go_upto_region 9 with fail
        go_quiet (fail)
        have DQ : Hid (Below w4.heap.size w4 (w4.drewN nq)) := ⟨rfl, rfl, rfl, Nat.le_refl _, fun _ _ => rfl⟩
        clear x0 x1 x2 x3 x4 x5 x6 x7 x8 y0 y1 y2 y3 v1
        generalize w4.drewN nq = w5 at *
        have TS5 : Hid (GvS ks Y rf (b + 2) b w0 (Value.slice f1 Y.gs.length c1) (Value.slice f2 Y.os.length c2) (Value.slice f3 Y.gold.length c3) (Value.slice (some ⟨gu, 0, none⟩) Y.us.length c4) (Value.slice f5 Y.qs.length c5) (Value.slice fr rf.length cr) w5) := TS4.out.below DQ.out
        have OR5 : Hid (Oro w5 (b + 2) (Value.slice (some xo) out.length lc) out) := OR4.out.below DQ.out
        have HP : Hid ((u.player == o.player) = false) := hp1
        as_aux_lemma =>
          have NX : Hid (gv ks X out (n + 1) = (Y, rf ++ [(n : Int)])) := by
            have h9 := gv_no (ks := ks) (Y := X) (out := out) (q := n) (o := o) OQ.out (by rw [HQ.out.1]; exact NOQ.out)
            unfold Hid
            rw [h9, HQ.out.1, HQ.out.2]
          have BA : Hid (Below w5.heap.size w5 (w5.alloc (Obj.cells #[.int .i64 (n : Nat)] 3))) := (Below.refl _ _).alloc (Nat.le_refl _) _
          have TA : Hid (GvS ks Y rf (b + 2) b w0 (Value.slice f1 Y.gs.length c1) (Value.slice f2 Y.os.length c2) (Value.slice f3 Y.gold.length c3) (Value.slice (some ⟨gu, 0, none⟩) Y.us.length c4) (Value.slice f5 Y.qs.length c5) (Value.slice fr rf.length cr) (w5.alloc (Obj.cells #[.int .i64 (n : Nat)] 3))) := TS5.out.below BA.out
          have OA : Hid (Oro (w5.alloc (Obj.cells #[.int .i64 (n : Nat)] 3)) (b + 2) (Value.slice (some xo) out.length lc) out) := OR5.out.below BA.out
          have NC : Hid ((w5.alloc (Obj.cells #[.int .i64 (n : Nat)] 3)).cell? ⟨w5.heap.size, 0, none⟩ = some (.int .i64 (n : Nat))) := by unfold Hid; simp
          have SA : Hid (b + 2 ≤ (w5.alloc (Obj.cells #[.int .i64 (n : Nat)] 3)).heap.size) := by have h1 := TA.out.k.size; rw [N0.out] at h1; exact h1
          go_wp2_with (at_builtin; refine app_int _ rfl _ _ rfl (b + 2) _ rf rfl TA.out.r ⟨w5.heap.size, 0, none⟩ (n : Int) rfl NC.out (by have := RL.out; omega) SA.out ?_)
          intro gq cq wE o8 g8 a8 l8
          have TE : Hid (GvS ks Y (rf ++ [(n : Int)]) (b + 2) b w0 (Value.slice f1 Y.gs.length c1) (Value.slice f2 Y.os.length c2) (Value.slice f3 Y.gold.length c3) (Value.slice (some ⟨gu, 0, none⟩) Y.us.length c4) (Value.slice f5 Y.qs.length c5) (Value.slice (some ⟨gq, 0, none⟩) (rf.length + 1) cq) wE) := TA.out.refuse (by omega) N0.out g8 o8 (by
            rcases a8 with a8 | a8
            · exact .inl a8.symm
            · exact .inr ⟨gq, rfl, by simp at a8 ⊢; omega⟩)
          have OE : Hid (Oro wE (b + 2) (Value.slice (some xo) out.length lc) out) := (Fr.gb (S := fun q => (Value.slice fr rf.length cr).ownBlock = some q) g8 (fun k hk => hk)).own OA.out (own_two OA.out TA.out.r (by decide))
          clear o8 g8 a8 l8
          go_wp2
          go_round
          case rel => exact ⟨n + 1, _, _, _, _, _, _, by omega, by go_num, rfl, by rw [NX.out]; exact TE.out, OE.out⟩
          case measure => simp [intOf]; omega
      case pos =>
      have hpo : o.player = (pn : Nat) := hpq.symm.trans hpu
      clear hpq
      -- it is a unit of the player's
      have PN : Hid (o.player = (pn : Nat)) := hpo
      obtain ⟨kn, k, hkn, hkk⟩ := (RY.out.gfit.units u (List.mem_of_getElem? hu)).1
      have hkl : kn < ks.length := (List.getElem?_eq_some_iff.1 hkk).1
      have hki : ((kn : Nat) : Int) < (ks.length : Nat) := by omega
      obtain ⟨xk, rfl, hxk, hkc⟩ := KC.out (by intro h; rw [h] at hkl; simp at hkl)
      have XKL : Hid (xk.block < w.heap.size) := hxk
      have KCA : Hid (∀ (i : Nat) k, ks[i]? = some k → Kc w (xk.add (i * 11)) k) := hkc
      have G1 : Hid (given1 ks Y o = if mayB ks Y k o = true then some (if o.what = 3 then hired ks Y o else sentW Y i u o) else none) := g1_is RY.out hu hid (by rw [hpu, hpo]) (by rw [hkn, Int.toNat_natCast]; exact hkk)
      have UU : Hid (Y.us[i]? = some u ∧ u.kind = (kn : Nat) ∧ ks[kn]? = some k) := ⟨hu, hkn, hkk⟩
      have hil : i < Y.us.length := (List.getElem?_eq_some_iff.1 hu).1
      have hii : ((i : Nat) : Int) < (Y.us.length : Nat) := by omega
      have hi0 : 0 ≤ ((i : Nat) : Int) := by omega
      obtain ⟨gu, cu, rest, e4, hgu, h1u, h2u, h3u, hub⟩ : ∃ g cap rest, (Value.slice f4 Y.us.length c4) = .slice (some ⟨g, 0, none⟩) Y.us.length cap ∧ b + 2 ≤ g ∧ Y.us.length ≤ cap ∧ cap ≤ maxLen ∧ Y.us.length * 8 + rest.length = cap * 8 ∧ Ub w4 g Y.us rest := by
        rcases TS4.out.o4.ub with ⟨-, h⟩ | h
        · rw [h] at hil; simp at hil
        · exact h
      injection e4 with e41 e42 e43
      subst e41 e43
      have GB : Hid (b + 2 ≤ gu ∧ gu < zo ∧ Y.us.length ≤ c4 ∧ c4 ≤ maxLen ∧ Y.us.length * 8 + rest.length = c4 * 8) := ⟨hgu, ZO.out.2 (Value.slice (some ⟨gu, 0, none⟩) Y.us.length c4) (by simp) gu rfl, h1u, h2u, h3u⟩
      have UB4 : Hid (Ub w4 gu Y.us rest) := hub
      obtain ⟨-, v1, v2, -⟩ := hub.unc hu
      rw [hpu] at v1
      obtain ⟨y0, y1, y2, y3⟩ := OC4.out
      simp only [Nat.zero_add] at y0 y1 y2 y3
      rw [hpo] at y0
      obtain ⟨x0, x1, x2, x3, x4, x5, x6, x7, x8⟩ := TS4.out.x.cells
      clear hpo hkn hkk hkl hxk hkc hid hpu hgu h1u h2u h3u hub e42 hu hil
      go_upto_region 9 with fail
      go_quiet (fail)
      have DQ : Hid (Below w4.heap.size w4 (w4.drewN nq)) := ⟨rfl, rfl, rfl, Nat.le_refl _, fun _ _ => rfl⟩
      clear x0 x1 x2 x3 x4 x5 x6 x7 x8 y0 y1 y2 y3 v1 v2
      generalize w4.drewN nq = w5 at *
      have TS5 : Hid (GvS ks Y rf (b + 2) b w0 (Value.slice f1 Y.gs.length c1) (Value.slice f2 Y.os.length c2) (Value.slice f3 Y.gold.length c3) (Value.slice (some ⟨gu, 0, none⟩) Y.us.length c4) (Value.slice f5 Y.qs.length c5) (Value.slice fr rf.length cr) w5) := TS4.out.below DQ.out
      have OR5 : Hid (Oro w5 (b + 2) (Value.slice (some xo) out.length lc) out) := OR4.out.below DQ.out
      have OC5 : Hid (Orc w5 ⟨zo, 0, none⟩ o) := OC4.out.below DQ.out OC4.out.lt
      have UB5 : Hid (Ub w5 gu Y.us rest) := UB4.out.below DQ.out UB4.out.lt
      have W5 : Hid (Below w.heap.size w w5) := W4.out.trans (DQ.out.mono W4.out.size)
      clear DQ TS4 OR4 OC4 UB4 W4
      obtain ⟨-, -, v2, -⟩ := UB5.out.unc UU.out.1
      rw [UU.out.2.1] at v2
      obtain ⟨x0, x1, x2, x3, x4, x5, x6, x7, x8⟩ := TS5.out.x.cells
      obtain ⟨z0, z1, z2, z3, z4, z5, z6, z7, z8, z9, z10⟩ := (KCA.out kn k UU.out.2.2).below W5.out (by rw [add_block]; exact XKL.out)
      go_upto_region 12 with fail
      obtain ⟨zk, hzk⟩ : ∃ z, w5.heap.size = z := ⟨_, rfl⟩
      have D6 : Hid (Below w5.heap.size w5 (w5.alloc (Obj.cells #[.string k.b, .int .i64 k.n0, .int .i64 k.n1, .int .i64 k.n2, .int .i64 k.n3, .int .i64 k.n4, .int .i64 k.n5, .int .i64 k.n6, .int .i64 k.n7, .bool k.f, .bool k.t] 68))) := (Below.refl _ _).alloc (Nat.le_refl _) _
      have KK : Hid (Kc (w5.alloc (Obj.cells #[.string k.b, .int .i64 k.n0, .int .i64 k.n1, .int .i64 k.n2, .int .i64 k.n3, .int .i64 k.n4, .int .i64 k.n5, .int .i64 k.n6, .int .i64 k.n7, .bool k.f, .bool k.t] 68)) ⟨zk, 0, none⟩ k) := kind_new k hzk
      (try rw [hzk])
      clear x0 x1 x2 x3 x4 x5 x6 x7 x8 z0 z1 z2 z3 z4 z5 z6 z7 z8 z9 z10 v2 hzk
      generalize w5.alloc (Obj.cells #[.string k.b, .int .i64 k.n0, .int .i64 k.n1, .int .i64 k.n2, .int .i64 k.n3, .int .i64 k.n4, .int .i64 k.n5, .int .i64 k.n6, .int .i64 k.n7, .bool k.f, .bool k.t] 68) = w6 at *
      have TS6 : Hid (GvS ks Y rf (b + 2) b w0 (Value.slice f1 Y.gs.length c1) (Value.slice f2 Y.os.length c2) (Value.slice f3 Y.gold.length c3) (Value.slice (some ⟨gu, 0, none⟩) Y.us.length c4) (Value.slice f5 Y.qs.length c5) (Value.slice fr rf.length cr) w6) := TS5.out.below D6.out
      have OR6 : Hid (Oro w6 (b + 2) (Value.slice (some xo) out.length lc) out) := OR5.out.below D6.out
      have OC6 : Hid (Orc w6 ⟨zo, 0, none⟩ o) := OC5.out.below D6.out OC5.out.lt
      have UB6 : Hid (Ub w6 gu Y.us rest) := UB5.out.below D6.out UB5.out.lt
      have W6 : Hid (Below w.heap.size w w6) := W5.out.trans (D6.out.mono W5.out.size)
      clear D6 TS5 OR5 OC5 UB5 W5
      obtain ⟨an, han⟩ : ∃ a : Nat, o.arg = a := ⟨o.arg.toNat, by have := OB.out; unfold Od.bad at this; omega⟩
      have AN : Hid (o.arg = (an : Nat)) := han
      obtain ⟨y0, y1, y2, y3⟩ := OC6.out
      simp only [Nat.zero_add] at y0 y1 y2 y3
      rw [han] at y3
      rw [PN.out] at y0
      obtain ⟨-, -, -, -, -, -, -, -, z8, z9, z10⟩ := KK.out
      simp only [Nat.zero_add] at z8 z9 z10
      obtain ⟨x0, x1, x2, x3, x4, x5, x6, x7, x8⟩ := TS6.out.x.cells
      clear han
      have hws : o.what = 0 ∨ o.what = 1 ∨ o.what = 2 ∨ o.what = 3 := by have := OB.out; unfold Od.bad at this; omega
      obtain ⟨Wn, Hn, -, -, G⟩ := RY.out.good
      have GD : Hid (Fd.Good Wn Hn Y.gs Y.os) := G
      clear G
      rcases hws with hw | hw | hw | hw
      · -- stop
        have HW : Hid (o.what = 0) := hw
        have AZ : Hid (o.arg = 0) := by have := OB.out; unfold Od.bad at this; unfold Hid; omega
        have MB : Hid (mayB ks Y k o = true) := by unfold Hid mayB; rw [if_neg (by rw [hw]; decide), if_neg (by rw [hw]; decide), if_neg (by rw [hw]; decide)]
        rw [hw] at y2
        clear hw
        obtain ⟨cb, hcb⟩ : ∃ c : Bool, decide (((an : Nat) : Int) < (Y.gs.length : Nat)) = c := ⟨_, rfl⟩
        as_aux_lemma =>
          have YS : Hid (given1 ks Y o = some (sentW Y i u o)) := by unfold Hid; rw [G1.out, if_pos MB.out, if_neg (by rw [HW.out]; decide)]
          have NX : Hid (gv ks X out (n + 1) = (sentW Y i u o, rf)) := by
            have h9 := gv_yes (ks := ks) (Y := X) (out := out) (q := n) (o := o) OQ.out (by rw [HQ.out.1]; exact YS.out)
            unfold Hid
            rw [h9, HQ.out.2]
          have t6 := UB6.out.thaw (i * 8 + 6)
          have v6 := (UB6.out.unc UU.out.1).c6
          have U2 : Hid (Ub (w6.setCell ⟨gu, i * 8 + 6, none⟩ (.int .i64 0)) gu (Y.us.set i { u with task := 0 }) rest) := UB6.out.set6 UU.out.1 _
          have K2 : Hid (Kp gu w6 (w6.setCell ⟨gu, i * 8 + 6, none⟩ (.int .i64 0))) := Kp.set _ _ _
          go_upto_region 16 with fail
          clear t6 v6
          generalize (w6.setCell ⟨gu, i * 8 + 6, none⟩ (.int .i64 0)) = wf at *
          have h2i : (Y.us.set i { u with task := 0 })[i]? = some { u with task := 0 } := by rw [List.getElem?_set_self (List.getElem?_eq_some_iff.1 UU.out.1).1]
          have XF := (TS6.out.x.kp K2.out (by have := GB.out; omega)).cells
          obtain ⟨x0, x1, x2, x3, x4, x5, x6, x7, x8⟩ := XF
          obtain ⟨y0, y1, y2, y3⟩ := OC6.out.kp9o K2.out (by show zo ≠ gu; have := GB.out; have := ZO.out; omega)
          simp only [Nat.zero_add] at y0 y1 y2 y3
          rw [AN.out] at y3
          have t7 := U2.out.thaw (i * 8 + 7)
          have v7 := (U2.out.unc h2i).c7
          have U3 : Hid (Ub (wf.setCell ⟨gu, i * 8 + 7, none⟩ (.int .i64 0)) gu (Y.us.set i (sentU o u)) rest) := by
            have h := U2.out.set7 h2i 0
            rw [List.set_set] at h
            have e : sentU o u = { u with task := 0, goal := 0 } := by unfold sentU; rw [HW.out, AZ.out]
            rw [e]
            exact h
          have K3 : Hid (Kp gu w6 (wf.setCell ⟨gu, i * 8 + 7, none⟩ (.int .i64 0))) := K2.out.trans (Kp.set _ _ _)
          clear h2i
          go_upto_region 35 with fail
          clear x0 x1 x2 x3 x4 x5 x6 x7 x8 y0 y1 y2 y3 t7 v7
          generalize (wf.setCell ⟨gu, i * 8 + 7, none⟩ (.int .i64 0)) = wg at *
          have TE : Hid (GvS ks (sentW Y i u o) rf (b + 2) b w0 (Value.slice f1 Y.gs.length c1) (Value.slice f2 Y.os.length c2) (Value.slice f3 Y.gold.length c3) (Value.slice (some ⟨gu, 0, none⟩) Y.us.length c4) (Value.slice f5 Y.qs.length c5) (Value.slice fr rf.length cr) wg) := TS6.out.send (by omega) N0.out UU.out.1 GB.out.1 GB.out.2.2.1 GB.out.2.2.2.1 GB.out.2.2.2.2 U3.out K3.out
          have OE : Hid (Oro wg (b + 2) (Value.slice (some xo) out.length lc) out) := (Fr.kp (S := fun q => q = gu) K3.out rfl).own OR6.out (fun k hk e => own_two OR6.out TS6.out.o4 (by decide) k hk (by rw [e]; rfl))
          go_wp2
          go_round
          case rel => exact ⟨n + 1, _, _, _, _, _, _, by omega, by go_num, rfl, by rw [NX.out]; exact TE.out, OE.out⟩
          case measure => simp [intOf]; omega
      · -- march
        have HW : Hid (o.what = 1) := hw
        rw [hw] at y2
        clear hw
        by_cases hca : an < Y.gs.length
        case neg =>
          have hcai : ¬ ((an : Nat) : Int) < (Y.gs.length : Nat) := by omega
          have NOQ : Hid (given1 ks Y o = none) := by
            unfold Hid
            rw [G1.out, if_neg]
            unfold mayB
            rw [if_pos HW.out]
            simp only [decide_eq_true_eq]
            rintro ⟨h1, -⟩
            rw [AN.out] at h1
            omega
          as_aux_lemma =>
            have NX : Hid (gv ks X out (n + 1) = (Y, rf ++ [(n : Int)])) := by
              have h9 := gv_no (ks := ks) (Y := X) (out := out) (q := n) (o := o) OQ.out (by rw [HQ.out.1]; exact NOQ.out)
              unfold Hid
              rw [h9, HQ.out.1, HQ.out.2]
            have BA : Hid (Below w6.heap.size w6 (w6.alloc (Obj.cells #[.int .i64 (n : Nat)] 3))) := (Below.refl _ _).alloc (Nat.le_refl _) _
            have TA : Hid (GvS ks Y rf (b + 2) b w0 (Value.slice f1 Y.gs.length c1) (Value.slice f2 Y.os.length c2) (Value.slice f3 Y.gold.length c3) (Value.slice (some ⟨gu, 0, none⟩) Y.us.length c4) (Value.slice f5 Y.qs.length c5) (Value.slice fr rf.length cr) (w6.alloc (Obj.cells #[.int .i64 (n : Nat)] 3))) := TS6.out.below BA.out
            have OA : Hid (Oro (w6.alloc (Obj.cells #[.int .i64 (n : Nat)] 3)) (b + 2) (Value.slice (some xo) out.length lc) out) := OR6.out.below BA.out
            have NC : Hid ((w6.alloc (Obj.cells #[.int .i64 (n : Nat)] 3)).cell? ⟨w6.heap.size, 0, none⟩ = some (.int .i64 (n : Nat))) := by unfold Hid; simp
            have SA : Hid (b + 2 ≤ (w6.alloc (Obj.cells #[.int .i64 (n : Nat)] 3)).heap.size) := by have h1 := TA.out.k.size; rw [N0.out] at h1; exact h1
            go_wp2_with (at_builtin; refine app_int _ rfl _ _ rfl (b + 2) _ rf rfl TA.out.r ⟨w6.heap.size, 0, none⟩ (n : Int) rfl NC.out (by have := RL.out; omega) SA.out ?_)
            intro gq cq wE o8 g8 a8 l8
            have TE : Hid (GvS ks Y (rf ++ [(n : Int)]) (b + 2) b w0 (Value.slice f1 Y.gs.length c1) (Value.slice f2 Y.os.length c2) (Value.slice f3 Y.gold.length c3) (Value.slice (some ⟨gu, 0, none⟩) Y.us.length c4) (Value.slice f5 Y.qs.length c5) (Value.slice (some ⟨gq, 0, none⟩) (rf.length + 1) cq) wE) := TA.out.refuse (by omega) N0.out g8 o8 (by
              rcases a8 with a8 | a8
              · exact .inl a8.symm
              · exact .inr ⟨gq, rfl, by simp at a8 ⊢; omega⟩)
            have OE : Hid (Oro wE (b + 2) (Value.slice (some xo) out.length lc) out) := (Fr.gb (S := fun q => (Value.slice fr rf.length cr).ownBlock = some q) g8 (fun k hk => hk)).own OA.out (own_two OA.out TA.out.r (by decide))
            clear o8 g8 a8 l8
            go_wp2
            go_round
            case rel => exact ⟨n + 1, _, _, _, _, _, _, by omega, by go_num, rfl, by rw [NX.out]; exact TE.out, OE.out⟩
            case measure => simp [intOf]; omega
        case pos =>
        have hcai : ((an : Nat) : Int) < (Y.gs.length : Nat) := by omega
        obtain ⟨g, hg⟩ : ∃ g, Y.gs[an]? = some g := ⟨_, List.getElem?_eq_getElem hca⟩
        have HG : Hid (Y.gs[an]? = some g) := hg
        have g03 : 0 ≤ g ∧ g ≤ 3 := by
          have hx := List.getElem?_eq_getElem (l := Y.os) (i := an) (by rw [GD.out.ol, ← GD.out.gl]; exact hca)
          have := GD.out.cell an g _ hg hx
          omega
        clear hg
        go_wp2_with fail
        refine (ref_onto _ _ _ Y.gs Y.os an g k.f w6 ⟨_, _, rfl, TS6.out.o1.ro, TS6.out.o2.ro⟩ (by rw [GD.out.gl]; exact GD.out.pos.2) HG.out g03.1 g03.2).mono ?_
        rintro e w7 ⟨rfl, hb7⟩
        have TS7 : Hid (GvS ks Y rf (b + 2) b w0 (Value.slice f1 Y.gs.length c1) (Value.slice f2 Y.os.length c2) (Value.slice f3 Y.gold.length c3) (Value.slice (some ⟨gu, 0, none⟩) Y.us.length c4) (Value.slice f5 Y.qs.length c5) (Value.slice fr rf.length cr) w7) := TS6.out.below hb7
        have OR7 : Hid (Oro w7 (b + 2) (Value.slice (some xo) out.length lc) out) := OR6.out.below hb7
        have OC7 : Hid (Orc w7 ⟨zo, 0, none⟩ o) := OC6.out.below hb7 OC6.out.lt
        have UB7 : Hid (Ub w7 gu Y.us rest) := UB6.out.below hb7 UB6.out.lt
        clear hb7 x0 x1 x2 x3 x4 x5 x6 x7 x8 y0 y1 y2 y3 z8 z9 z10 TS6 OR6 OC6 UB6 g03
        have EO : Hid (Y.gs.getD o.arg.toNat 0 = g) := by unfold Hid; rw [AN.out, Int.toNat_natCast, List.getD_eq_getElem?_getD, HG.out]; rfl
        obtain ⟨ov, hov⟩ : ∃ v, Fd.onto g k.f = v := ⟨_, rfl⟩
        have OV : Hid (Fd.onto g k.f = ov) := hov
        rw [hov]
        clear hov
        by_cases ho0 : 0 < ov
        case neg =>
          have NOQ : Hid (given1 ks Y o = none) := by
            unfold Hid
            rw [G1.out, if_neg]
            unfold mayB
            rw [if_pos HW.out]
            simp only [decide_eq_true_eq]
            rintro ⟨-, h1⟩
            rw [EO.out, OV.out] at h1
            exact ho0 h1
          have ho0d : decide (0 < ov) = false := decide_eq_false ho0
          as_aux_lemma =>
            have NX : Hid (gv ks X out (n + 1) = (Y, rf ++ [(n : Int)])) := by
              have h9 := gv_no (ks := ks) (Y := X) (out := out) (q := n) (o := o) OQ.out (by rw [HQ.out.1]; exact NOQ.out)
              unfold Hid
              rw [h9, HQ.out.1, HQ.out.2]
            have BA : Hid (Below w7.heap.size w7 (w7.alloc (Obj.cells #[.int .i64 (n : Nat)] 3))) := (Below.refl _ _).alloc (Nat.le_refl _) _
            have TA : Hid (GvS ks Y rf (b + 2) b w0 (Value.slice f1 Y.gs.length c1) (Value.slice f2 Y.os.length c2) (Value.slice f3 Y.gold.length c3) (Value.slice (some ⟨gu, 0, none⟩) Y.us.length c4) (Value.slice f5 Y.qs.length c5) (Value.slice fr rf.length cr) (w7.alloc (Obj.cells #[.int .i64 (n : Nat)] 3))) := TS7.out.below BA.out
            have OA : Hid (Oro (w7.alloc (Obj.cells #[.int .i64 (n : Nat)] 3)) (b + 2) (Value.slice (some xo) out.length lc) out) := OR7.out.below BA.out
            have NC : Hid ((w7.alloc (Obj.cells #[.int .i64 (n : Nat)] 3)).cell? ⟨w7.heap.size, 0, none⟩ = some (.int .i64 (n : Nat))) := by unfold Hid; simp
            have SA : Hid (b + 2 ≤ (w7.alloc (Obj.cells #[.int .i64 (n : Nat)] 3)).heap.size) := by have h1 := TA.out.k.size; rw [N0.out] at h1; exact h1
            go_wp2_with (at_builtin; refine app_int _ rfl _ _ rfl (b + 2) _ rf rfl TA.out.r ⟨w7.heap.size, 0, none⟩ (n : Int) rfl NC.out (by have := RL.out; omega) SA.out ?_)
            intro gq cq wE o8 g8 a8 l8
            have TE : Hid (GvS ks Y (rf ++ [(n : Int)]) (b + 2) b w0 (Value.slice f1 Y.gs.length c1) (Value.slice f2 Y.os.length c2) (Value.slice f3 Y.gold.length c3) (Value.slice (some ⟨gu, 0, none⟩) Y.us.length c4) (Value.slice f5 Y.qs.length c5) (Value.slice (some ⟨gq, 0, none⟩) (rf.length + 1) cq) wE) := TA.out.refuse (by omega) N0.out g8 o8 (by
              rcases a8 with a8 | a8
              · exact .inl a8.symm
              · exact .inr ⟨gq, rfl, by simp at a8 ⊢; omega⟩)
            have OE : Hid (Oro wE (b + 2) (Value.slice (some xo) out.length lc) out) := (Fr.gb (S := fun q => (Value.slice fr rf.length cr).ownBlock = some q) g8 (fun k hk => hk)).own OA.out (own_two OA.out TA.out.r (by decide))
            clear o8 g8 a8 l8
            go_wp2
            go_round
            case rel => exact ⟨n + 1, _, _, _, _, _, _, by omega, by go_num, rfl, by rw [NX.out]; exact TE.out, OE.out⟩
            case measure => simp [intOf]; omega
        case pos =>
        have MB : Hid (mayB ks Y k o = true) := by
          unfold Hid mayB
          rw [if_pos HW.out]
          exact decide_eq_true ⟨by rw [AN.out]; exact hcai, by rw [EO.out, OV.out]; exact ho0⟩
        obtain ⟨x0, x1, x2, x3, x4, x5, x6, x7, x8⟩ := TS7.out.x.cells
        obtain ⟨y0, y1, y2, y3⟩ := OC7.out
        simp only [Nat.zero_add] at y0 y1 y2 y3
        rw [AN.out] at y3
        as_aux_lemma =>
          have YS : Hid (given1 ks Y o = some (sentW Y i u o)) := by unfold Hid; rw [G1.out, if_pos MB.out, if_neg (by rw [HW.out]; decide)]
          have NX : Hid (gv ks X out (n + 1) = (sentW Y i u o, rf)) := by
            have h9 := gv_yes (ks := ks) (Y := X) (out := out) (q := n) (o := o) OQ.out (by rw [HQ.out.1]; exact YS.out)
            unfold Hid
            rw [h9, HQ.out.2]
          have t6 := UB7.out.thaw (i * 8 + 6)
          have v6 := (UB7.out.unc UU.out.1).c6
          have U2 : Hid (Ub (w7.setCell ⟨gu, i * 8 + 6, none⟩ (.int .i64 1)) gu (Y.us.set i { u with task := 1 }) rest) := UB7.out.set6 UU.out.1 _
          have K2 : Hid (Kp gu w7 (w7.setCell ⟨gu, i * 8 + 6, none⟩ (.int .i64 1))) := Kp.set _ _ _
          go_upto_region 21 with fail
          clear t6 v6
          generalize (w7.setCell ⟨gu, i * 8 + 6, none⟩ (.int .i64 1)) = wf at *
          have h2i : (Y.us.set i { u with task := 1 })[i]? = some { u with task := 1 } := by rw [List.getElem?_set_self (List.getElem?_eq_some_iff.1 UU.out.1).1]
          have XF := (TS7.out.x.kp K2.out (by have := GB.out; omega)).cells
          obtain ⟨x0, x1, x2, x3, x4, x5, x6, x7, x8⟩ := XF
          obtain ⟨y0, y1, y2, y3⟩ := OC7.out.kp9o K2.out (by show zo ≠ gu; have := GB.out; have := ZO.out; omega)
          simp only [Nat.zero_add] at y0 y1 y2 y3
          rw [AN.out] at y3
          have t7 := U2.out.thaw (i * 8 + 7)
          have v7 := (U2.out.unc h2i).c7
          have U3 : Hid (Ub (wf.setCell ⟨gu, i * 8 + 7, none⟩ (.int .i64 (an : Nat))) gu (Y.us.set i (sentU o u)) rest) := by
            have h := U2.out.set7 h2i (an : Nat)
            rw [List.set_set] at h
            have e : sentU o u = { u with task := 1, goal := (an : Nat) } := by unfold sentU; rw [HW.out, AN.out]
            rw [e]
            exact h
          have K3 : Hid (Kp gu w7 (wf.setCell ⟨gu, i * 8 + 7, none⟩ (.int .i64 (an : Nat)))) := K2.out.trans (Kp.set _ _ _)
          clear h2i
          go_upto_region 35 with fail
          clear x0 x1 x2 x3 x4 x5 x6 x7 x8 y0 y1 y2 y3 t7 v7
          generalize (wf.setCell ⟨gu, i * 8 + 7, none⟩ (.int .i64 (an : Nat))) = wg at *
          have TE : Hid (GvS ks (sentW Y i u o) rf (b + 2) b w0 (Value.slice f1 Y.gs.length c1) (Value.slice f2 Y.os.length c2) (Value.slice f3 Y.gold.length c3) (Value.slice (some ⟨gu, 0, none⟩) Y.us.length c4) (Value.slice f5 Y.qs.length c5) (Value.slice fr rf.length cr) wg) := TS7.out.send (by omega) N0.out UU.out.1 GB.out.1 GB.out.2.2.1 GB.out.2.2.2.1 GB.out.2.2.2.2 U3.out K3.out
          have OE : Hid (Oro wg (b + 2) (Value.slice (some xo) out.length lc) out) := (Fr.kp (S := fun q => q = gu) K3.out rfl).own OR7.out (fun k hk e => own_two OR7.out TS7.out.o4 (by decide) k hk (by rw [e]; rfl))
          go_wp2
          go_round
          case rel => exact ⟨n + 1, _, _, _, _, _, _, by omega, by go_num, rfl, by rw [NX.out]; exact TE.out, OE.out⟩
          case measure => simp [intOf]; omega
      · -- gather
        have HW : Hid (o.what = 2) := hw
        rw [hw] at y2
        clear hw
        by_cases hca : an < Y.gs.length
        case neg =>
          have hcai : ¬ ((an : Nat) : Int) < (Y.gs.length : Nat) := by omega
          have NOQ : Hid (given1 ks Y o = none) := by
            unfold Hid
            rw [G1.out, if_neg]
            unfold mayB
            rw [if_neg (by rw [HW.out]; decide), if_pos HW.out]
            simp only [decide_eq_true_eq]
            rintro ⟨h1, -⟩
            rw [AN.out, GD.out.ol, ← GD.out.gl] at h1
            omega
          as_aux_lemma =>
            have NX : Hid (gv ks X out (n + 1) = (Y, rf ++ [(n : Int)])) := by
              have h9 := gv_no (ks := ks) (Y := X) (out := out) (q := n) (o := o) OQ.out (by rw [HQ.out.1]; exact NOQ.out)
              unfold Hid
              rw [h9, HQ.out.1, HQ.out.2]
            have BA : Hid (Below w6.heap.size w6 (w6.alloc (Obj.cells #[.int .i64 (n : Nat)] 3))) := (Below.refl _ _).alloc (Nat.le_refl _) _
            have TA : Hid (GvS ks Y rf (b + 2) b w0 (Value.slice f1 Y.gs.length c1) (Value.slice f2 Y.os.length c2) (Value.slice f3 Y.gold.length c3) (Value.slice (some ⟨gu, 0, none⟩) Y.us.length c4) (Value.slice f5 Y.qs.length c5) (Value.slice fr rf.length cr) (w6.alloc (Obj.cells #[.int .i64 (n : Nat)] 3))) := TS6.out.below BA.out
            have OA : Hid (Oro (w6.alloc (Obj.cells #[.int .i64 (n : Nat)] 3)) (b + 2) (Value.slice (some xo) out.length lc) out) := OR6.out.below BA.out
            have NC : Hid ((w6.alloc (Obj.cells #[.int .i64 (n : Nat)] 3)).cell? ⟨w6.heap.size, 0, none⟩ = some (.int .i64 (n : Nat))) := by unfold Hid; simp
            have SA : Hid (b + 2 ≤ (w6.alloc (Obj.cells #[.int .i64 (n : Nat)] 3)).heap.size) := by have h1 := TA.out.k.size; rw [N0.out] at h1; exact h1
            go_wp2_with (at_builtin; refine app_int _ rfl _ _ rfl (b + 2) _ rf rfl TA.out.r ⟨w6.heap.size, 0, none⟩ (n : Int) rfl NC.out (by have := RL.out; omega) SA.out ?_)
            intro gq cq wE o8 g8 a8 l8
            have TE : Hid (GvS ks Y (rf ++ [(n : Int)]) (b + 2) b w0 (Value.slice f1 Y.gs.length c1) (Value.slice f2 Y.os.length c2) (Value.slice f3 Y.gold.length c3) (Value.slice (some ⟨gu, 0, none⟩) Y.us.length c4) (Value.slice f5 Y.qs.length c5) (Value.slice (some ⟨gq, 0, none⟩) (rf.length + 1) cq) wE) := TA.out.refuse (by omega) N0.out g8 o8 (by
              rcases a8 with a8 | a8
              · exact .inl a8.symm
              · exact .inr ⟨gq, rfl, by simp at a8 ⊢; omega⟩)
            have OE : Hid (Oro wE (b + 2) (Value.slice (some xo) out.length lc) out) := (Fr.gb (S := fun q => (Value.slice fr rf.length cr).ownBlock = some q) g8 (fun k hk => hk)).own OA.out (own_two OA.out TA.out.r (by decide))
            clear o8 g8 a8 l8
            go_wp2
            go_round
            case rel => exact ⟨n + 1, _, _, _, _, _, _, by omega, by go_num, rfl, by rw [NX.out]; exact TE.out, OE.out⟩
            case measure => simp [intOf]; omega
        case pos =>
        have hcai : ((an : Nat) : Int) < (Y.gs.length : Nat) := by omega
        have hco : an < Y.os.length := by rw [GD.out.ol, ← GD.out.gl]; exact hca
        have hcoi : ((an : Nat) : Int) < (Y.os.length : Nat) := by omega
        obtain ⟨x, hx⟩ : ∃ x, Y.os[an]? = some x := ⟨_, List.getElem?_eq_getElem hco⟩
        have EO : Hid (Y.os.getD o.arg.toNat 0 = x) := by unfold Hid; rw [AN.out, Int.toNat_natCast, List.getD_eq_getElem?_getD, hx]; rfl
        obtain ⟨go_, cgo, gro, e2, -, -, -, -, hbo⟩ : ∃ g cap rest, (Value.slice f2 Y.os.length c2) = .slice (some ⟨g, 0, none⟩) Y.os.length cap ∧ b + 2 ≤ g ∧ Y.os.length ≤ cap ∧ cap ≤ maxLen ∧ Y.os.length + rest.size = cap ∧ Bk w6 g Y.os rest := by
          rcases TS6.out.o2.bk with ⟨-, h⟩ | h
          · rw [h] at hco; simp at hco
          · exact h
        injection e2 with e21 e22 e23
        subst e21 e23
        have co := hbo.cell hx
        clear hbo e22 hx hco
        by_cases hx0 : 0 < x
        case neg =>
          have NOQ : Hid (given1 ks Y o = none) := by
            unfold Hid
            rw [G1.out, if_neg]
            unfold mayB
            rw [if_neg (by rw [HW.out]; decide), if_pos HW.out]
            simp only [decide_eq_true_eq]
            rintro ⟨-, h1, -⟩
            rw [EO.out] at h1
            exact hx0 h1
          as_aux_lemma =>
            have NX : Hid (gv ks X out (n + 1) = (Y, rf ++ [(n : Int)])) := by
              have h9 := gv_no (ks := ks) (Y := X) (out := out) (q := n) (o := o) OQ.out (by rw [HQ.out.1]; exact NOQ.out)
              unfold Hid
              rw [h9, HQ.out.1, HQ.out.2]
            have BA : Hid (Below w6.heap.size w6 (w6.alloc (Obj.cells #[.int .i64 (n : Nat)] 3))) := (Below.refl _ _).alloc (Nat.le_refl _) _
            have TA : Hid (GvS ks Y rf (b + 2) b w0 (Value.slice f1 Y.gs.length c1) (Value.slice (some ⟨go_, 0, none⟩) Y.os.length c2) (Value.slice f3 Y.gold.length c3) (Value.slice (some ⟨gu, 0, none⟩) Y.us.length c4) (Value.slice f5 Y.qs.length c5) (Value.slice fr rf.length cr) (w6.alloc (Obj.cells #[.int .i64 (n : Nat)] 3))) := TS6.out.below BA.out
            have OA : Hid (Oro (w6.alloc (Obj.cells #[.int .i64 (n : Nat)] 3)) (b + 2) (Value.slice (some xo) out.length lc) out) := OR6.out.below BA.out
            have NC : Hid ((w6.alloc (Obj.cells #[.int .i64 (n : Nat)] 3)).cell? ⟨w6.heap.size, 0, none⟩ = some (.int .i64 (n : Nat))) := by unfold Hid; simp
            have SA : Hid (b + 2 ≤ (w6.alloc (Obj.cells #[.int .i64 (n : Nat)] 3)).heap.size) := by have h1 := TA.out.k.size; rw [N0.out] at h1; exact h1
            go_wp2_with (at_builtin; refine app_int _ rfl _ _ rfl (b + 2) _ rf rfl TA.out.r ⟨w6.heap.size, 0, none⟩ (n : Int) rfl NC.out (by have := RL.out; omega) SA.out ?_)
            intro gq cq wE o8 g8 a8 l8
            have TE : Hid (GvS ks Y (rf ++ [(n : Int)]) (b + 2) b w0 (Value.slice f1 Y.gs.length c1) (Value.slice (some ⟨go_, 0, none⟩) Y.os.length c2) (Value.slice f3 Y.gold.length c3) (Value.slice (some ⟨gu, 0, none⟩) Y.us.length c4) (Value.slice f5 Y.qs.length c5) (Value.slice (some ⟨gq, 0, none⟩) (rf.length + 1) cq) wE) := TA.out.refuse (by omega) N0.out g8 o8 (by
              rcases a8 with a8 | a8
              · exact .inl a8.symm
              · exact .inr ⟨gq, rfl, by simp at a8 ⊢; omega⟩)
            have OE : Hid (Oro wE (b + 2) (Value.slice (some xo) out.length lc) out) := (Fr.gb (S := fun q => (Value.slice fr rf.length cr).ownBlock = some q) g8 (fun k hk => hk)).own OA.out (own_two OA.out TA.out.r (by decide))
            clear o8 g8 a8 l8
            go_wp2
            go_round
            case rel => exact ⟨n + 1, _, _, _, _, _, _, by omega, by go_num, rfl, by rw [NX.out]; exact TE.out, OE.out⟩
            case measure => simp [intOf]; omega
        case pos =>
        by_cases hk0 : 0 < k.n7
        case neg =>
          have NOQ : Hid (given1 ks Y o = none) := by
            unfold Hid
            rw [G1.out, if_neg]
            unfold mayB
            rw [if_neg (by rw [HW.out]; decide), if_pos HW.out]
            simp only [decide_eq_true_eq]
            rintro ⟨-, -, h1⟩
            exact hk0 h1
          as_aux_lemma =>
            have NX : Hid (gv ks X out (n + 1) = (Y, rf ++ [(n : Int)])) := by
              have h9 := gv_no (ks := ks) (Y := X) (out := out) (q := n) (o := o) OQ.out (by rw [HQ.out.1]; exact NOQ.out)
              unfold Hid
              rw [h9, HQ.out.1, HQ.out.2]
            have BA : Hid (Below w6.heap.size w6 (w6.alloc (Obj.cells #[.int .i64 (n : Nat)] 3))) := (Below.refl _ _).alloc (Nat.le_refl _) _
            have TA : Hid (GvS ks Y rf (b + 2) b w0 (Value.slice f1 Y.gs.length c1) (Value.slice (some ⟨go_, 0, none⟩) Y.os.length c2) (Value.slice f3 Y.gold.length c3) (Value.slice (some ⟨gu, 0, none⟩) Y.us.length c4) (Value.slice f5 Y.qs.length c5) (Value.slice fr rf.length cr) (w6.alloc (Obj.cells #[.int .i64 (n : Nat)] 3))) := TS6.out.below BA.out
            have OA : Hid (Oro (w6.alloc (Obj.cells #[.int .i64 (n : Nat)] 3)) (b + 2) (Value.slice (some xo) out.length lc) out) := OR6.out.below BA.out
            have NC : Hid ((w6.alloc (Obj.cells #[.int .i64 (n : Nat)] 3)).cell? ⟨w6.heap.size, 0, none⟩ = some (.int .i64 (n : Nat))) := by unfold Hid; simp
            have SA : Hid (b + 2 ≤ (w6.alloc (Obj.cells #[.int .i64 (n : Nat)] 3)).heap.size) := by have h1 := TA.out.k.size; rw [N0.out] at h1; exact h1
            go_wp2_with (at_builtin; refine app_int _ rfl _ _ rfl (b + 2) _ rf rfl TA.out.r ⟨w6.heap.size, 0, none⟩ (n : Int) rfl NC.out (by have := RL.out; omega) SA.out ?_)
            intro gq cq wE o8 g8 a8 l8
            have TE : Hid (GvS ks Y (rf ++ [(n : Int)]) (b + 2) b w0 (Value.slice f1 Y.gs.length c1) (Value.slice (some ⟨go_, 0, none⟩) Y.os.length c2) (Value.slice f3 Y.gold.length c3) (Value.slice (some ⟨gu, 0, none⟩) Y.us.length c4) (Value.slice f5 Y.qs.length c5) (Value.slice (some ⟨gq, 0, none⟩) (rf.length + 1) cq) wE) := TA.out.refuse (by omega) N0.out g8 o8 (by
              rcases a8 with a8 | a8
              · exact .inl a8.symm
              · exact .inr ⟨gq, rfl, by simp at a8 ⊢; omega⟩)
            have OE : Hid (Oro wE (b + 2) (Value.slice (some xo) out.length lc) out) := (Fr.gb (S := fun q => (Value.slice fr rf.length cr).ownBlock = some q) g8 (fun k hk => hk)).own OA.out (own_two OA.out TA.out.r (by decide))
            clear o8 g8 a8 l8
            go_wp2
            go_round
            case rel => exact ⟨n + 1, _, _, _, _, _, _, by omega, by go_num, rfl, by rw [NX.out]; exact TE.out, OE.out⟩
            case measure => simp [intOf]; omega
        case pos =>
        have MB : Hid (mayB ks Y k o = true) := by
          unfold Hid mayB
          rw [if_neg (by rw [HW.out]; decide), if_pos HW.out]
          exact decide_eq_true ⟨by rw [AN.out]; exact hcoi, by rw [EO.out]; exact hx0, hk0⟩
        as_aux_lemma =>
          have YS : Hid (given1 ks Y o = some (sentW Y i u o)) := by unfold Hid; rw [G1.out, if_pos MB.out, if_neg (by rw [HW.out]; decide)]
          have NX : Hid (gv ks X out (n + 1) = (sentW Y i u o, rf)) := by
            have h9 := gv_yes (ks := ks) (Y := X) (out := out) (q := n) (o := o) OQ.out (by rw [HQ.out.1]; exact YS.out)
            unfold Hid
            rw [h9, HQ.out.2]
          have t6 := UB6.out.thaw (i * 8 + 6)
          have v6 := (UB6.out.unc UU.out.1).c6
          have U2 : Hid (Ub (w6.setCell ⟨gu, i * 8 + 6, none⟩ (.int .i64 2)) gu (Y.us.set i { u with task := 2 }) rest) := UB6.out.set6 UU.out.1 _
          have K2 : Hid (Kp gu w6 (w6.setCell ⟨gu, i * 8 + 6, none⟩ (.int .i64 2))) := Kp.set _ _ _
          go_upto_region 26 with fail
          clear t6 v6
          generalize (w6.setCell ⟨gu, i * 8 + 6, none⟩ (.int .i64 2)) = wf at *
          have h2i : (Y.us.set i { u with task := 2 })[i]? = some { u with task := 2 } := by rw [List.getElem?_set_self (List.getElem?_eq_some_iff.1 UU.out.1).1]
          have XF := (TS6.out.x.kp K2.out (by have := GB.out; omega)).cells
          obtain ⟨x0, x1, x2, x3, x4, x5, x6, x7, x8⟩ := XF
          obtain ⟨y0, y1, y2, y3⟩ := OC6.out.kp9o K2.out (by show zo ≠ gu; have := GB.out; have := ZO.out; omega)
          simp only [Nat.zero_add] at y0 y1 y2 y3
          rw [AN.out] at y3
          have t7 := U2.out.thaw (i * 8 + 7)
          have v7 := (U2.out.unc h2i).c7
          have U3 : Hid (Ub (wf.setCell ⟨gu, i * 8 + 7, none⟩ (.int .i64 (an : Nat))) gu (Y.us.set i (sentU o u)) rest) := by
            have h := U2.out.set7 h2i (an : Nat)
            rw [List.set_set] at h
            have e : sentU o u = { u with task := 2, goal := (an : Nat) } := by unfold sentU; rw [HW.out, AN.out]
            rw [e]
            exact h
          have K3 : Hid (Kp gu w6 (wf.setCell ⟨gu, i * 8 + 7, none⟩ (.int .i64 (an : Nat)))) := K2.out.trans (Kp.set _ _ _)
          clear h2i
          go_upto_region 35 with fail
          clear x0 x1 x2 x3 x4 x5 x6 x7 x8 y0 y1 y2 y3 t7 v7
          generalize (wf.setCell ⟨gu, i * 8 + 7, none⟩ (.int .i64 (an : Nat))) = wg at *
          have TE : Hid (GvS ks (sentW Y i u o) rf (b + 2) b w0 (Value.slice f1 Y.gs.length c1) (Value.slice (some ⟨go_, 0, none⟩) Y.os.length c2) (Value.slice f3 Y.gold.length c3) (Value.slice (some ⟨gu, 0, none⟩) Y.us.length c4) (Value.slice f5 Y.qs.length c5) (Value.slice fr rf.length cr) wg) := TS6.out.send (by omega) N0.out UU.out.1 GB.out.1 GB.out.2.2.1 GB.out.2.2.2.1 GB.out.2.2.2.2 U3.out K3.out
          have OE : Hid (Oro wg (b + 2) (Value.slice (some xo) out.length lc) out) := (Fr.kp (S := fun q => q = gu) K3.out rfl).own OR6.out (fun k hk e => own_two OR6.out TS6.out.o4 (by decide) k hk (by rw [e]; rfl))
          go_wp2
          go_round
          case rel => exact ⟨n + 1, _, _, _, _, _, _, by omega, by go_num, rfl, by rw [NX.out]; exact TE.out, OE.out⟩
          case measure => simp [intOf]; omega
      · -- train
        have HW : Hid (o.what = 3) := hw
        rw [hw] at y2
        clear hw
        cases hkt : k.t
        case false =>
          rw [hkt] at z10
          have NOQ : Hid (given1 ks Y o = none) := by
            unfold Hid
            rw [G1.out, if_neg]
            unfold mayB
            rw [if_neg (by rw [HW.out]; decide), if_neg (by rw [HW.out]; decide), if_pos HW.out]
            simp only [decide_eq_true_eq]
            rintro ⟨h1, -⟩
            rw [hkt] at h1
            cases h1
          go_upto_region 28 with fail
          go_quiet (fail)
          have DQ : Hid (Below w6.heap.size w6 (w6.drewN nq)) := ⟨rfl, rfl, rfl, Nat.le_refl _, fun _ _ => rfl⟩
          clear x0 x1 x2 x3 x4 x5 x6 x7 x8 y0 y1 y2 y3 z8 z9 z10
          generalize w6.drewN nq = w7 at *
          have TS7 : Hid (GvS ks Y rf (b + 2) b w0 (Value.slice f1 Y.gs.length c1) (Value.slice f2 Y.os.length c2) (Value.slice f3 Y.gold.length c3) (Value.slice (some ⟨gu, 0, none⟩) Y.us.length c4) (Value.slice f5 Y.qs.length c5) (Value.slice fr rf.length cr) w7) := TS6.out.below DQ.out
          have OR7 : Hid (Oro w7 (b + 2) (Value.slice (some xo) out.length lc) out) := OR6.out.below DQ.out
          clear DQ
          as_aux_lemma =>
            have NX : Hid (gv ks X out (n + 1) = (Y, rf ++ [(n : Int)])) := by
              have h9 := gv_no (ks := ks) (Y := X) (out := out) (q := n) (o := o) OQ.out (by rw [HQ.out.1]; exact NOQ.out)
              unfold Hid
              rw [h9, HQ.out.1, HQ.out.2]
            have BA : Hid (Below w7.heap.size w7 (w7.alloc (Obj.cells #[.int .i64 (n : Nat)] 3))) := (Below.refl _ _).alloc (Nat.le_refl _) _
            have TA : Hid (GvS ks Y rf (b + 2) b w0 (Value.slice f1 Y.gs.length c1) (Value.slice f2 Y.os.length c2) (Value.slice f3 Y.gold.length c3) (Value.slice (some ⟨gu, 0, none⟩) Y.us.length c4) (Value.slice f5 Y.qs.length c5) (Value.slice fr rf.length cr) (w7.alloc (Obj.cells #[.int .i64 (n : Nat)] 3))) := TS7.out.below BA.out
            have OA : Hid (Oro (w7.alloc (Obj.cells #[.int .i64 (n : Nat)] 3)) (b + 2) (Value.slice (some xo) out.length lc) out) := OR7.out.below BA.out
            have NC : Hid ((w7.alloc (Obj.cells #[.int .i64 (n : Nat)] 3)).cell? ⟨w7.heap.size, 0, none⟩ = some (.int .i64 (n : Nat))) := by unfold Hid; simp
            have SA : Hid (b + 2 ≤ (w7.alloc (Obj.cells #[.int .i64 (n : Nat)] 3)).heap.size) := by have h1 := TA.out.k.size; rw [N0.out] at h1; exact h1
            go_wp2_with (at_builtin; refine app_int _ rfl _ _ rfl (b + 2) _ rf rfl TA.out.r ⟨w7.heap.size, 0, none⟩ (n : Int) rfl NC.out (by have := RL.out; omega) SA.out ?_)
            intro gq cq wE o8 g8 a8 l8
            have TE : Hid (GvS ks Y (rf ++ [(n : Int)]) (b + 2) b w0 (Value.slice f1 Y.gs.length c1) (Value.slice f2 Y.os.length c2) (Value.slice f3 Y.gold.length c3) (Value.slice (some ⟨gu, 0, none⟩) Y.us.length c4) (Value.slice f5 Y.qs.length c5) (Value.slice (some ⟨gq, 0, none⟩) (rf.length + 1) cq) wE) := TA.out.refuse (by omega) N0.out g8 o8 (by
              rcases a8 with a8 | a8
              · exact .inl a8.symm
              · exact .inr ⟨gq, rfl, by simp at a8 ⊢; omega⟩)
            have OE : Hid (Oro wE (b + 2) (Value.slice (some xo) out.length lc) out) := (Fr.gb (S := fun q => (Value.slice fr rf.length cr).ownBlock = some q) g8 (fun k hk => hk)).own OA.out (own_two OA.out TA.out.r (by decide))
            clear o8 g8 a8 l8
            go_wp2
            go_round
            case rel => exact ⟨n + 1, _, _, _, _, _, _, by omega, by go_num, rfl, by rw [NX.out]; exact TE.out, OE.out⟩
            case measure => simp [intOf]; omega
        case true =>
        rw [hkt] at z10
        by_cases hak : an < ks.length
        case neg =>
          have haki : decide (((an : Nat) : Int) < (ks.length : Nat)) = false := decide_eq_false (by omega)
          have hakn : decide (an < ks.length) = false := decide_eq_false hak
          have NOQ : Hid (given1 ks Y o = none) := by
            unfold Hid
            rw [G1.out, if_neg]
            unfold mayB
            rw [if_neg (by rw [HW.out]; decide), if_neg (by rw [HW.out]; decide), if_pos HW.out]
            simp only [decide_eq_true_eq]
            rintro ⟨-, h1, -⟩
            rw [AN.out] at h1
            omega
          go_upto_region 28 with fail
          go_quiet (fail)
          have DQ : Hid (Below w6.heap.size w6 (w6.drewN nq)) := ⟨rfl, rfl, rfl, Nat.le_refl _, fun _ _ => rfl⟩
          clear x0 x1 x2 x3 x4 x5 x6 x7 x8 y0 y1 y2 y3 z8 z9 z10
          generalize w6.drewN nq = w7 at *
          have TS7 : Hid (GvS ks Y rf (b + 2) b w0 (Value.slice f1 Y.gs.length c1) (Value.slice f2 Y.os.length c2) (Value.slice f3 Y.gold.length c3) (Value.slice (some ⟨gu, 0, none⟩) Y.us.length c4) (Value.slice f5 Y.qs.length c5) (Value.slice fr rf.length cr) w7) := TS6.out.below DQ.out
          have OR7 : Hid (Oro w7 (b + 2) (Value.slice (some xo) out.length lc) out) := OR6.out.below DQ.out
          clear DQ
          as_aux_lemma =>
            have NX : Hid (gv ks X out (n + 1) = (Y, rf ++ [(n : Int)])) := by
              have h9 := gv_no (ks := ks) (Y := X) (out := out) (q := n) (o := o) OQ.out (by rw [HQ.out.1]; exact NOQ.out)
              unfold Hid
              rw [h9, HQ.out.1, HQ.out.2]
            have BA : Hid (Below w7.heap.size w7 (w7.alloc (Obj.cells #[.int .i64 (n : Nat)] 3))) := (Below.refl _ _).alloc (Nat.le_refl _) _
            have TA : Hid (GvS ks Y rf (b + 2) b w0 (Value.slice f1 Y.gs.length c1) (Value.slice f2 Y.os.length c2) (Value.slice f3 Y.gold.length c3) (Value.slice (some ⟨gu, 0, none⟩) Y.us.length c4) (Value.slice f5 Y.qs.length c5) (Value.slice fr rf.length cr) (w7.alloc (Obj.cells #[.int .i64 (n : Nat)] 3))) := TS7.out.below BA.out
            have OA : Hid (Oro (w7.alloc (Obj.cells #[.int .i64 (n : Nat)] 3)) (b + 2) (Value.slice (some xo) out.length lc) out) := OR7.out.below BA.out
            have NC : Hid ((w7.alloc (Obj.cells #[.int .i64 (n : Nat)] 3)).cell? ⟨w7.heap.size, 0, none⟩ = some (.int .i64 (n : Nat))) := by unfold Hid; simp
            have SA : Hid (b + 2 ≤ (w7.alloc (Obj.cells #[.int .i64 (n : Nat)] 3)).heap.size) := by have h1 := TA.out.k.size; rw [N0.out] at h1; exact h1
            go_wp2_with (at_builtin; refine app_int _ rfl _ _ rfl (b + 2) _ rf rfl TA.out.r ⟨w7.heap.size, 0, none⟩ (n : Int) rfl NC.out (by have := RL.out; omega) SA.out ?_)
            intro gq cq wE o8 g8 a8 l8
            have TE : Hid (GvS ks Y (rf ++ [(n : Int)]) (b + 2) b w0 (Value.slice f1 Y.gs.length c1) (Value.slice f2 Y.os.length c2) (Value.slice f3 Y.gold.length c3) (Value.slice (some ⟨gu, 0, none⟩) Y.us.length c4) (Value.slice f5 Y.qs.length c5) (Value.slice (some ⟨gq, 0, none⟩) (rf.length + 1) cq) wE) := TA.out.refuse (by omega) N0.out g8 o8 (by
              rcases a8 with a8 | a8
              · exact .inl a8.symm
              · exact .inr ⟨gq, rfl, by simp at a8 ⊢; omega⟩)
            have OE : Hid (Oro wE (b + 2) (Value.slice (some xo) out.length lc) out) := (Fr.gb (S := fun q => (Value.slice fr rf.length cr).ownBlock = some q) g8 (fun k hk => hk)).own OA.out (own_two OA.out TA.out.r (by decide))
            clear o8 g8 a8 l8
            go_wp2
            go_round
            case rel => exact ⟨n + 1, _, _, _, _, _, _, by omega, by go_num, rfl, by rw [NX.out]; exact TE.out, OE.out⟩
            case measure => simp [intOf]; omega
        case pos =>
        have haki : ((an : Nat) : Int) < (ks.length : Nat) := by omega
        obtain ⟨k3, hk3⟩ : ∃ k3, ks[an]? = some k3 := ⟨_, List.getElem?_eq_getElem hak⟩
        have K3C : Hid (Kc w (xk.add (an * 11)) k3) := KCA.out an k3 hk3
        have PR : Hid (priceOf ks o.arg = k3.n5) := by unfold Hid priceOf; rw [AN.out, Int.toNat_natCast, hk3]
        have TN : Hid (turnsOf ks o.arg = k3.n6) := by unfold Hid turnsOf; rw [AN.out, Int.toNat_natCast, hk3]
        have KN5 : Hid (0 ≤ k3.n5 ∧ k3.n5 ≤ 1000) := by have := RY.out.gfit.kinds.2 k3 (List.mem_of_getElem? hk3); exact ⟨this.1, this.2.1⟩
        have hpl : pn < Y.gold.length := PL.out
        have hpi : ((pn : Nat) : Int) < (Y.gold.length : Nat) := by omega
        obtain ⟨x, hx⟩ : ∃ x, Y.gold[pn]? = some x := ⟨_, List.getElem?_eq_getElem hpl⟩
        have PG0 : Hid (Y.gold[pn]? = some x) := hx
        have PG : Hid (Y.gold.getD o.player.toNat 0 = x) := by unfold Hid; rw [PN.out, Int.toNat_natCast, List.getD_eq_getElem?_getD, hx]; rfl
        have XB : Hid ((0 ≤ x ∧ x ≤ 1000000) ∧ 0 ≤ k3.n5 ∧ k3.n5 ≤ 1000) := ⟨RY.out.gfit.gold x (List.mem_of_getElem? hx), KN5.out⟩
        obtain ⟨gg, cgw, gr, e3w, hgg, d1, d2, d3, hbw⟩ : ∃ g cap rest, (Value.slice f3 Y.gold.length c3) = .slice (some ⟨g, 0, none⟩) Y.gold.length cap ∧ b + 2 ≤ g ∧ Y.gold.length ≤ cap ∧ cap ≤ maxLen ∧ Y.gold.length + rest.size = cap ∧ Bk w6 g Y.gold rest := by
          rcases TS6.out.o3.bk with ⟨-, h⟩ | h
          · rw [h] at hpl; simp at hpl
          · exact h
        injection e3w with e31w e32w e33w
        subst e31w e33w
        have GG : Hid (b + 2 ≤ gg ∧ Y.gold.length ≤ c3 ∧ c3 ≤ maxLen ∧ Y.gold.length + gr.size = c3 ∧ gg < zo) := ⟨hgg, d1, d2, d3, ZO.out.2 (Value.slice (some ⟨gg, 0, none⟩) Y.gold.length c3) (by simp) gg rfl⟩
        have BK6 : Hid (Bk w6 gg Y.gold gr) := hbw
        clear hgg d1 d2 d3
        have cg := hbw.cell hx
        have q6 := (K3C.out.below W6.out (by rw [add_block]; exact XKL.out)).c6
        clear hbw e32w hx hk3 KN5 hpl hak
        by_cases g3 : k3.n5 ≤ x
        case neg =>
          have g3i : decide (k3.n5 ≤ x) = false := decide_eq_false g3
          have NOQ : Hid (given1 ks Y o = none) := by
            unfold Hid
            rw [G1.out, if_neg]
            unfold mayB
            rw [if_neg (by rw [HW.out]; decide), if_neg (by rw [HW.out]; decide), if_pos HW.out]
            simp only [decide_eq_true_eq]
            rintro ⟨-, -, h1, -⟩
            rw [PR.out, PG.out] at h1
            exact g3 h1
          go_upto_region 28 with fail
          go_quiet (fail)
          have DQ : Hid (Below w6.heap.size w6 (w6.drewN nq)) := ⟨rfl, rfl, rfl, Nat.le_refl _, fun _ _ => rfl⟩
          clear cg q6 x0 x1 x2 x3 x4 x5 x6 x7 x8 y0 y1 y2 y3 z8 z9 z10
          generalize w6.drewN nq = w7 at *
          have TS7 : Hid (GvS ks Y rf (b + 2) b w0 (Value.slice f1 Y.gs.length c1) (Value.slice f2 Y.os.length c2) (Value.slice (some ⟨gg, 0, none⟩) Y.gold.length c3) (Value.slice (some ⟨gu, 0, none⟩) Y.us.length c4) (Value.slice f5 Y.qs.length c5) (Value.slice fr rf.length cr) w7) := TS6.out.below DQ.out
          have OR7 : Hid (Oro w7 (b + 2) (Value.slice (some xo) out.length lc) out) := OR6.out.below DQ.out
          clear DQ
          as_aux_lemma =>
            have NX : Hid (gv ks X out (n + 1) = (Y, rf ++ [(n : Int)])) := by
              have h9 := gv_no (ks := ks) (Y := X) (out := out) (q := n) (o := o) OQ.out (by rw [HQ.out.1]; exact NOQ.out)
              unfold Hid
              rw [h9, HQ.out.1, HQ.out.2]
            have BA : Hid (Below w7.heap.size w7 (w7.alloc (Obj.cells #[.int .i64 (n : Nat)] 3))) := (Below.refl _ _).alloc (Nat.le_refl _) _
            have TA : Hid (GvS ks Y rf (b + 2) b w0 (Value.slice f1 Y.gs.length c1) (Value.slice f2 Y.os.length c2) (Value.slice (some ⟨gg, 0, none⟩) Y.gold.length c3) (Value.slice (some ⟨gu, 0, none⟩) Y.us.length c4) (Value.slice f5 Y.qs.length c5) (Value.slice fr rf.length cr) (w7.alloc (Obj.cells #[.int .i64 (n : Nat)] 3))) := TS7.out.below BA.out
            have OA : Hid (Oro (w7.alloc (Obj.cells #[.int .i64 (n : Nat)] 3)) (b + 2) (Value.slice (some xo) out.length lc) out) := OR7.out.below BA.out
            have NC : Hid ((w7.alloc (Obj.cells #[.int .i64 (n : Nat)] 3)).cell? ⟨w7.heap.size, 0, none⟩ = some (.int .i64 (n : Nat))) := by unfold Hid; simp
            have SA : Hid (b + 2 ≤ (w7.alloc (Obj.cells #[.int .i64 (n : Nat)] 3)).heap.size) := by have h1 := TA.out.k.size; rw [N0.out] at h1; exact h1
            go_wp2_with (at_builtin; refine app_int _ rfl _ _ rfl (b + 2) _ rf rfl TA.out.r ⟨w7.heap.size, 0, none⟩ (n : Int) rfl NC.out (by have := RL.out; omega) SA.out ?_)
            intro gq cq wE o8 g8 a8 l8
            have TE : Hid (GvS ks Y (rf ++ [(n : Int)]) (b + 2) b w0 (Value.slice f1 Y.gs.length c1) (Value.slice f2 Y.os.length c2) (Value.slice (some ⟨gg, 0, none⟩) Y.gold.length c3) (Value.slice (some ⟨gu, 0, none⟩) Y.us.length c4) (Value.slice f5 Y.qs.length c5) (Value.slice (some ⟨gq, 0, none⟩) (rf.length + 1) cq) wE) := TA.out.refuse (by omega) N0.out g8 o8 (by
              rcases a8 with a8 | a8
              · exact .inl a8.symm
              · exact .inr ⟨gq, rfl, by simp at a8 ⊢; omega⟩)
            have OE : Hid (Oro wE (b + 2) (Value.slice (some xo) out.length lc) out) := (Fr.gb (S := fun q => (Value.slice fr rf.length cr).ownBlock = some q) g8 (fun k hk => hk)).own OA.out (own_two OA.out TA.out.r (by decide))
            clear o8 g8 a8 l8
            go_wp2
            go_round
            case rel => exact ⟨n + 1, _, _, _, _, _, _, by omega, by go_num, rfl, by rw [NX.out]; exact TE.out, OE.out⟩
            case measure => simp [intOf]; omega
        case pos =>
        by_cases hq12 : Y.qs.length < 12
        case neg =>
          have g4i : decide (((Y.qs.length : Nat) : Int) < 12) = false := decide_eq_false (by omega)
          have g4n : decide (Y.qs.length < 12) = false := decide_eq_false hq12
          have NOQ : Hid (given1 ks Y o = none) := by
            unfold Hid
            rw [G1.out, if_neg]
            unfold mayB
            rw [if_neg (by rw [HW.out]; decide), if_neg (by rw [HW.out]; decide), if_pos HW.out]
            simp only [decide_eq_true_eq]
            rintro ⟨-, -, -, h1⟩
            exact hq12 h1
          go_upto_region 28 with fail
          go_quiet (fail)
          have DQ : Hid (Below w6.heap.size w6 (w6.drewN nq)) := ⟨rfl, rfl, rfl, Nat.le_refl _, fun _ _ => rfl⟩
          clear cg q6 x0 x1 x2 x3 x4 x5 x6 x7 x8 y0 y1 y2 y3 z8 z9 z10
          generalize w6.drewN nq = w7 at *
          have TS7 : Hid (GvS ks Y rf (b + 2) b w0 (Value.slice f1 Y.gs.length c1) (Value.slice f2 Y.os.length c2) (Value.slice (some ⟨gg, 0, none⟩) Y.gold.length c3) (Value.slice (some ⟨gu, 0, none⟩) Y.us.length c4) (Value.slice f5 Y.qs.length c5) (Value.slice fr rf.length cr) w7) := TS6.out.below DQ.out
          have OR7 : Hid (Oro w7 (b + 2) (Value.slice (some xo) out.length lc) out) := OR6.out.below DQ.out
          clear DQ
          as_aux_lemma =>
            have NX : Hid (gv ks X out (n + 1) = (Y, rf ++ [(n : Int)])) := by
              have h9 := gv_no (ks := ks) (Y := X) (out := out) (q := n) (o := o) OQ.out (by rw [HQ.out.1]; exact NOQ.out)
              unfold Hid
              rw [h9, HQ.out.1, HQ.out.2]
            have BA : Hid (Below w7.heap.size w7 (w7.alloc (Obj.cells #[.int .i64 (n : Nat)] 3))) := (Below.refl _ _).alloc (Nat.le_refl _) _
            have TA : Hid (GvS ks Y rf (b + 2) b w0 (Value.slice f1 Y.gs.length c1) (Value.slice f2 Y.os.length c2) (Value.slice (some ⟨gg, 0, none⟩) Y.gold.length c3) (Value.slice (some ⟨gu, 0, none⟩) Y.us.length c4) (Value.slice f5 Y.qs.length c5) (Value.slice fr rf.length cr) (w7.alloc (Obj.cells #[.int .i64 (n : Nat)] 3))) := TS7.out.below BA.out
            have OA : Hid (Oro (w7.alloc (Obj.cells #[.int .i64 (n : Nat)] 3)) (b + 2) (Value.slice (some xo) out.length lc) out) := OR7.out.below BA.out
            have NC : Hid ((w7.alloc (Obj.cells #[.int .i64 (n : Nat)] 3)).cell? ⟨w7.heap.size, 0, none⟩ = some (.int .i64 (n : Nat))) := by unfold Hid; simp
            have SA : Hid (b + 2 ≤ (w7.alloc (Obj.cells #[.int .i64 (n : Nat)] 3)).heap.size) := by have h1 := TA.out.k.size; rw [N0.out] at h1; exact h1
            go_wp2_with (at_builtin; refine app_int _ rfl _ _ rfl (b + 2) _ rf rfl TA.out.r ⟨w7.heap.size, 0, none⟩ (n : Int) rfl NC.out (by have := RL.out; omega) SA.out ?_)
            intro gq cq wE o8 g8 a8 l8
            have TE : Hid (GvS ks Y (rf ++ [(n : Int)]) (b + 2) b w0 (Value.slice f1 Y.gs.length c1) (Value.slice f2 Y.os.length c2) (Value.slice (some ⟨gg, 0, none⟩) Y.gold.length c3) (Value.slice (some ⟨gu, 0, none⟩) Y.us.length c4) (Value.slice f5 Y.qs.length c5) (Value.slice (some ⟨gq, 0, none⟩) (rf.length + 1) cq) wE) := TA.out.refuse (by omega) N0.out g8 o8 (by
              rcases a8 with a8 | a8
              · exact .inl a8.symm
              · exact .inr ⟨gq, rfl, by simp at a8 ⊢; omega⟩)
            have OE : Hid (Oro wE (b + 2) (Value.slice (some xo) out.length lc) out) := (Fr.gb (S := fun q => (Value.slice fr rf.length cr).ownBlock = some q) g8 (fun k hk => hk)).own OA.out (own_two OA.out TA.out.r (by decide))
            clear o8 g8 a8 l8
            go_wp2
            go_round
            case rel => exact ⟨n + 1, _, _, _, _, _, _, by omega, by go_num, rfl, by rw [NX.out]; exact TE.out, OE.out⟩
            case measure => simp [intOf]; omega
        case pos =>
        as_aux_lemma =>
          -- it trains
          have g4 : Y.qs.length < 12 ∧ ((Y.qs.length : Nat) : Int) < 12 := by omega
          obtain ⟨g4n, g4i⟩ := g4
          go_upto_region 28 with fail
          go_quiet (fail)
          have DQ : Hid (Below w6.heap.size w6 (w6.drewN nq)) := ⟨rfl, rfl, rfl, Nat.le_refl _, fun _ _ => rfl⟩
          clear x0 x1 x2 x3 x4 x5 x6 x7 x8 y0 y1 y2 y3 z8 z9 z10 cg q6
          generalize w6.drewN nq = w7 at *
          have TS7 : Hid (GvS ks Y rf (b + 2) b w0 (Value.slice f1 Y.gs.length c1) (Value.slice f2 Y.os.length c2) (Value.slice (some ⟨gg, 0, none⟩) Y.gold.length c3) (Value.slice (some ⟨gu, 0, none⟩) Y.us.length c4) (Value.slice f5 Y.qs.length c5) (Value.slice fr rf.length cr) w7) := TS6.out.below DQ.out
          have OR7 : Hid (Oro w7 (b + 2) (Value.slice (some xo) out.length lc) out) := OR6.out.below DQ.out
          have OC7 : Hid (Orc w7 ⟨zo, 0, none⟩ o) := OC6.out.below DQ.out OC6.out.lt
          have W7 : Hid (Below w.heap.size w w7) := W6.out.trans (DQ.out.mono W6.out.size)
          have MB : Hid (mayB ks Y k o = true) := by
            unfold Hid mayB
            rw [if_neg (by rw [HW.out]; decide), if_neg (by rw [HW.out]; decide), if_pos HW.out]
            exact decide_eq_true ⟨hkt, by rw [AN.out]; omega, by rw [PR.out, PG.out]; exact g3, g4n⟩
          have YS : Hid (given1 ks Y o = some (hired ks Y o)) := by unfold Hid; rw [G1.out, if_pos MB.out, if_pos HW.out]
          have NX : Hid (gv ks X out (n + 1) = (hired ks Y o, rf)) := by
            have h9 := gv_yes (ks := ks) (Y := X) (out := out) (q := n) (o := o) OQ.out (by rw [HQ.out.1]; exact YS.out)
            unfold Hid
            rw [h9, HQ.out.2]
          obtain ⟨lf, hlf⟩ : ∃ l, max k3.n6 1 = l := ⟨_, rfl⟩
          have LFH : Hid (max k3.n6 1 = lf) := hlf
          have QL : Hid (Y.qs.length < 12) := g4n
          have G3 : Hid (k3.n5 ≤ x) := g3
          have DQ7 : Hid (Below w6.heap.size w6 w7) := DQ.out
          clear hlf DQ hkt g4n g4i g3
          have q7 := (K3C.out.below (W7.out) (by rw [add_block]; exact XKL.out)).c7
          have y3 := OC7.out.c3
          simp only [Nat.zero_add] at y3
          rw [AN.out] at y3
          go_upto_if 175 with fail
          go_cut [15] from 20 to 212 (fun v15 V => v15 = .int .i64 lf ∧ V = w7)
          case first =>
            by_cases hc1 : k3.n6 < 1
            · have E1 : Hid (lf = 1) := by have := LFH.out; unfold Hid; omega
              go_wp2_with fail
              go_meet
              case rel => exact ⟨by rw [E1.out], rfl⟩
            · have E1 : Hid (lf = k3.n6) := by have := LFH.out; unfold Hid; omega
              go_wp2_with fail
              go_meet
              case rel => exact ⟨by rw [E1.out], rfl⟩
          case rest =>
          obtain ⟨rfl, hV⟩ := hcut
          obtain rfl : w7 = wc := hV.symm
          clear hV q7 y3
          have BK7 : Hid (Bk w7 gg Y.gold gr) := BK6.out.below DQ7.out
          clear DQ7
          go_upto_region 33 with fail
          have CB : Hid (∀ V, Below w7.heap.size w7 V → (V.cell? ⟨b, 6, none⟩ = some (.slice (some ⟨gg, 0, none⟩) Y.gold.length c3) ∧ V.cell? ⟨zo, 0, none⟩ = some (.int .i64 (pn : Nat)) ∧ V.cell? ⟨gg, pn, none⟩ = some (.int .i64 x) ∧ V.cell? ⟨zo, 3, none⟩ = some (.int .i64 (an : Nat)) ∧ V.cell? ⟨(xk.add (an * 11)).block, (xk.add (an * 11)).off + 6, none⟩ = some (.int .i64 k3.n5))) := fun V hV => by
            have h0 := (OC7.out.below hV OC7.out.lt).c0
            have h3 := (OC7.out.below hV OC7.out.lt).c3
            simp only [Nat.zero_add] at h0 h3
            rw [PN.out] at h0
            rw [AN.out] at h3
            exact ⟨(TS7.out.x.below hV TS7.out.x.lt).cells.2.2.2.2.2.2.1, h0, (BK7.out.below hV).cell PG0.out, h3, (K3C.out.below (W7.out.trans (hV.mono W7.out.size)) (by rw [add_block]; exact XKL.out)).c6⟩
          have wr2 : IntKind.i64.wrap (x - k3.n5) = x - k3.n5 := by rw [IntKind.wrap_i64]; have := XB.out; omega
          refine wp_region_two [(true, 0), (true, 1), (true, 2), (true, 3), (true, 4), (true, 5), (true, 6), (true, 7), (true, 8), (true, 9), (true, 10), (true, 11), (true, 12), (true, 13), (true, 14), (true, 15), (true, 16), (true, 17)] [(false, 18)] (fun V => V.cell? ⟨b, 6, none⟩ = some (.slice (some ⟨gg, 0, none⟩) Y.gold.length c3) ∧ V.cell? ⟨zo, 0, none⟩ = some (.int .i64 (pn : Nat)) ∧ V.cell? ⟨gg, pn, none⟩ = some (.int .i64 x) ∧ V.cell? ⟨zo, 3, none⟩ = some (.int .i64 (an : Nat)) ∧ V.cell? ⟨(xk.add (an * 11)).block, (xk.add (an * 11)).off + 6, none⟩ = some (.int .i64 k3.n5)) (by kernel_rfl) (by kernel_rfl) (by kernel_rfl) (by decide +kernel) (by decide +kernel) (CB.out _ (Below.refl _ _).drew) ?_
          have DD : Hid (Below w7.heap.size w7 { w7 with drawn := w7.drawn + 1 }) := (Below.refl _ _).drew
          generalize ({ w7 with drawn := w7.drawn + 1 } : World) = wd at *
          have BD : Hid (Bk wd gg Y.gold gr) := BK7.out.below DD.out
          refine headT_read rfl (.pointer (some ⟨b, 6, none⟩)) (by go_simp) (fun V hV => by go_simp) ?_
          go_simp
          refine headT_read rfl (.slice (some ⟨gg, 0, none⟩) Y.gold.length c3) (by go_simp) (fun V hV => by obtain ⟨d1, d2, d3, d4, d5⟩ := hV; go_simp) ?_
          go_simp
          refine headT_read rfl (.pointer (some ⟨zo, 0, none⟩)) (by go_simp) (fun V hV => by go_simp) ?_
          go_simp
          refine headT_read rfl (.int .i64 (pn : Nat)) (by go_simp) (fun V hV => by obtain ⟨d1, d2, d3, d4, d5⟩ := hV; go_simp) ?_
          go_simp
          refine headT_read rfl (.pointer (some ⟨b, 6, none⟩)) (by go_simp) (fun V hV => by go_simp) ?_
          go_simp
          refine headT_read rfl (.slice (some ⟨gg, 0, none⟩) Y.gold.length c3) (by go_simp) (fun V hV => by obtain ⟨d1, d2, d3, d4, d5⟩ := hV; go_simp) ?_
          go_simp
          refine headT_read rfl (.pointer (some ⟨zo, 0, none⟩)) (by go_simp) (fun V hV => by go_simp) ?_
          go_simp
          refine headT_read rfl (.int .i64 (pn : Nat)) (by go_simp) (fun V hV => by obtain ⟨d1, d2, d3, d4, d5⟩ := hV; go_simp) ?_
          go_simp
          refine headT_read rfl (.pointer (some ⟨gg, pn, none⟩)) (by go_simp) (fun V hV => by go_simp) ?_
          go_simp
          refine headT_read rfl (.int .i64 x) (by go_simp) (fun V hV => by obtain ⟨d1, d2, d3, d4, d5⟩ := hV; go_simp) ?_
          go_simp
          refine headT_read rfl (.slice (some xk) ks.length qk) (by go_simp) (fun V hV => by go_simp) ?_
          go_simp
          refine headT_read rfl (.pointer (some ⟨zo, 3, none⟩)) (by go_simp) (fun V hV => by go_simp) ?_
          go_simp
          refine headT_read rfl (.int .i64 (an : Nat)) (by go_simp) (fun V hV => by obtain ⟨d1, d2, d3, d4, d5⟩ := hV; go_simp) ?_
          go_simp
          refine headT_read rfl (.pointer (some (xk.add (an * 11)))) (by go_simp) (fun V hV => by go_simp) ?_
          go_simp
          refine headT_read rfl (.pointer (some ⟨(xk.add (an * 11)).block, (xk.add (an * 11)).off + 6, none⟩)) (by go_simp) (fun V hV => by go_simp) ?_
          go_simp
          refine headT_read rfl (.int .i64 k3.n5) (by go_simp) (fun V hV => by obtain ⟨d1, d2, d3, d4, d5⟩ := hV; go_simp) ?_
          go_simp
          refine headT_read rfl (.int .i64 (x - k3.n5)) (by go_simp) (fun V hV => by go_simp) ?_
          go_simp
          refine headT_read rfl (.pointer (some ⟨gg, pn, none⟩)) (by go_simp) (fun V hV => by go_simp) ?_
          go_simp
          unfold wpHeadT
          have ts := BD.out.thaw pn
          have co := BD.out.cell PG0.out
          have K9 : Hid (Kp gg wd (wd.setCell ⟨gg, pn, none⟩ (.int .i64 (x - k3.n5)))) := Kp.set _ _ _
          have B9 : Hid (Bk (wd.setCell ⟨gg, pn, none⟩ (.int .i64 (x - k3.n5))) gg (Y.gold.set pn (x - k3.n5)) gr) := BD.out.set pn _ (List.getElem?_eq_some_iff.1 PG0.out).1
          refine sched_skip rfl (wd.setCell ⟨gg, pn, none⟩ (.int .i64 (x - k3.n5))) (by go_simp) (by go_simp) trivial ?_
          go_simp
          clear ts co wr2 CB BD
          generalize wd.setCell ⟨gg, pn, none⟩ (.int .i64 (x - k3.n5)) = w9 at *
          have F9 : Hid (Fr (fun q => q = gg) w7 w9) := (Fr.below DD.out).trans (Fr.kp K9.out rfl)
          have X9 : Hid (Wx w9 b (.int .i64 Y.turn) (.int .i64 Y.next) (.int .i64 Y.wide) (.int .i64 Y.high) (Value.slice f1 Y.gs.length c1) (Value.slice f2 Y.os.length c2) (.slice (some ⟨gg, 0, none⟩) Y.gold.length c3) (Value.slice (some ⟨gu, 0, none⟩) Y.us.length c4) (Value.slice f5 Y.qs.length c5)) := F9.out.wx TS7.out.x (by have := GG.out; omega)
          have J9 : Hid (Jbo w9 (b + 2) (Value.slice f5 Y.qs.length c5) Y.qs) := F9.out.own TS7.out.o5 (fun k hk e => own_two TS7.out.o5 TS7.out.o3 (by decide) k hk (by rw [e]; rfl))
          have O9 : Hid (Orc w9 ⟨zo, 0, none⟩ o) := (OC7.out.below DD.out OC7.out.lt).kp9o K9.out (by show zo ≠ gg; have := GG.out; omega)
          obtain ⟨x0, x1, x2, x3, x4, x5, x6, x7, x8⟩ := X9.out.cells
          obtain ⟨y0, y1, y2, y3⟩ := O9.out
          simp only [Nat.zero_add] at y0 y1 y2 y3
          rw [PN.out] at y0
          rw [AN.out] at y3
          have BA : Hid (Below w9.heap.size w9 (w9.alloc (Obj.cells #[.int .i64 (pn : Nat), .int .i64 o.unit, .int .i64 (an : Nat), .int .i64 lf] 71))) := (Below.refl _ _).alloc (Nat.le_refl _) _
          have JC : Hid (Jbc (w9.alloc (Obj.cells #[.int .i64 (pn : Nat), .int .i64 o.unit, .int .i64 (an : Nat), .int .i64 lf] 71)) ⟨w9.heap.size, 0, none⟩ ⟨(pn : Nat), o.unit, (an : Nat), lf⟩) := Jbc.mk' (w := w9) ⟨(pn : Nat), o.unit, (an : Nat), lf⟩ rfl
          have JA : Hid (Jbo (w9.alloc (Obj.cells #[.int .i64 (pn : Nat), .int .i64 o.unit, .int .i64 (an : Nat), .int .i64 lf] 71)) (b + 2) (Value.slice f5 Y.qs.length c5) Y.qs) := J9.out.below BA.out
          have SB : Hid (b + 2 ≤ (w9.alloc (Obj.cells #[.int .i64 (pn : Nat), .int .i64 o.unit, .int .i64 (an : Nat), .int .i64 lf] 71)).heap.size) := Nat.le_trans (Nat.le_trans (by have h1 := TS7.out.k.size; rw [N0.out] at h1; exact h1) F9.out.size) BA.out.size
          unfold wpSched
          go_wp2_with (at_builtin; refine app_jb _ rfl _ _ rfl (b + 2) _ Y.qs rfl JA.out w9.heap.size ⟨(pn : Nat), o.unit, (an : Nat), lf⟩ rfl JC.out (by have := QL.out; omega) SB.out ?_)
          intro gq cq wE o8 g8 a8 l8
          have JE : Hid (Jbo wE (b + 2) (.slice (some ⟨gq, 0, none⟩) (Y.qs.length + 1) cq) (Y.qs ++ [⟨(pn : Nat), o.unit, (an : Nat), lf⟩])) := o8
          have FE : Hid (Fr (fun q => (Value.slice f5 Y.qs.length c5).ownBlock = some q) w9 wE) := (Fr.below BA.out).trans (Fr.gb g8 (fun k hk => hk))
          have NE : Hid (∀ k, k = b ∨ k = gg → ¬ (Value.slice f5 Y.qs.length c5).ownBlock = some k) := fun k hk e => by
            rcases hk with rfl | rfl
            · have := (J9.out.block _ e).1; omega
            · exact own_two TS7.out.o5 TS7.out.o3 (by decide) _ e rfl
          have XE : Hid (Wx wE b (.int .i64 Y.turn) (.int .i64 Y.next) (.int .i64 Y.wide) (.int .i64 Y.high) (Value.slice f1 Y.gs.length c1) (Value.slice f2 Y.os.length c2) (.slice (some ⟨gg, 0, none⟩) Y.gold.length c3) (Value.slice (some ⟨gu, 0, none⟩) Y.us.length c4) (Value.slice f5 Y.qs.length c5)) := FE.out.wx X9.out (NE.out b (.inl rfl))
          have BE : Hid (Bk wE gg (Y.gold.set pn (x - k3.n5)) gr) := (FE.out.block gg B9.out.lt (NE.out gg (.inr rfl))).trans B9.out
          have GN : Hid ((Value.slice f5 Y.qs.length c5).ownBlock = some gq ∨ w7.heap.size ≤ gq) := by
            rcases a8 with a8 | a8
            · exact .inl a8
            · refine .inr ?_
              have h1 := F9.out.size
              (try simp at a8)
              omega
          clear x0 x1 x2 x3 x4 x5 x6 x7 x8 y0 y1 y2 y3 o8 g8 a8 l8
          obtain ⟨x0, x1, x2, x3, x4, x5, x6, x7, x8⟩ := XE.out.cells
          have t8 := XE.out.thaw 8
          have XG : Hid (Wx (wE.setCell ⟨b, 8, none⟩ (.slice (some ⟨gq, 0, none⟩) (Y.qs.length + 1) cq)) b (.int .i64 Y.turn) (.int .i64 Y.next) (.int .i64 Y.wide) (.int .i64 Y.high) (Value.slice f1 Y.gs.length c1) (Value.slice f2 Y.os.length c2) (.slice (some ⟨gg, 0, none⟩) Y.gold.length c3) (Value.slice (some ⟨gu, 0, none⟩) Y.us.length c4) (.slice (some ⟨gq, 0, none⟩) (Y.qs.length + 1) cq)) := XE.out.set8 _
          have KG : Hid (Kp b wE (wE.setCell ⟨b, 8, none⟩ (.slice (some ⟨gq, 0, none⟩) (Y.qs.length + 1) cq))) := Kp.set _ _ _
          go_upto_region 35 with fail
          clear x0 x1 x2 x3 x4 x5 x6 x7 x8 t8
          generalize wE.setCell ⟨b, 8, none⟩ (.slice (some ⟨gq, 0, none⟩) (Y.qs.length + 1) cq) = wg at *
          have EH : Hid ((hired ks Y o).gold = Y.gold.set pn (x - k3.n5) ∧ (hired ks Y o).qs = Y.qs ++ [⟨(pn : Nat), o.unit, (an : Nat), lf⟩]) := hired_parts PR.out PG.out PN.out AN.out TN.out LFH.out
          have FA : Hid (Fr (fun q => q = b ∨ q = gg ∨ (Value.slice f5 Y.qs.length c5).ownBlock = some q) w7 wg) := ((F9.out.mono (fun k hk => .inr (.inl hk))).trans (FE.out.mono (fun k hk => .inr (.inr hk)))).trans (Fr.kp KG.out (.inl rfl))
          have GF : Hid (GFit ks (hired ks Y o)) := GFit.hire2 TS7.out.f PR.out PG.out PN.out PG0.out G3.out QL.out
          have TE : Hid (GvS ks (hired ks Y o) rf (b + 2) b w0 (Value.slice f1 Y.gs.length c1) (Value.slice f2 Y.os.length c2) (.slice (some ⟨gg, 0, none⟩) Y.gold.length c3) (Value.slice (some ⟨gu, 0, none⟩) Y.us.length c4) (.slice (some ⟨gq, 0, none⟩) (Y.qs.length + 1) cq) (Value.slice fr rf.length cr) wg) := by
            have q1 : Bk wg gg (hired ks Y o).gold gr := by
              rw [EH.out.1]
              exact (KG.out.block gg BE.out.lt (by have := GG.out; omega)).trans BE.out
            have q2 : Jbo wg (b + 2) (.slice (some ⟨gq, 0, none⟩) (Y.qs.length + 1) cq) (hired ks Y o).qs := by
              rw [EH.out.2]
              exact owns_kp JE.out KG.out (by omega)
            have q3 : (Value.slice (some ⟨gq, 0, none⟩) (Y.qs.length + 1) cq).ownBlock = (Value.slice f5 Y.qs.length c5).ownBlock ∨ ∃ q, (Value.slice (some ⟨gq, 0, none⟩) (Y.qs.length + 1) cq).ownBlock = some q ∧ w7.heap.size ≤ q := by
              rcases GN.out with h | h
              · exact .inl h.symm
              · exact .inr ⟨gq, rfl, h⟩
            exact TS7.out.hire (pn := 0) (g := 0) (by omega) N0.out GG.out.1 GG.out.2.1 GG.out.2.2.1 GG.out.2.2.2.1 XG.out q1 q2 FA.out q3 GF.out
          have OE : Hid (Oro wg (b + 2) (Value.slice (some xo) out.length lc) out) := FA.out.own OR7.out (fun k hk e => by
            rcases e with e | e | e
            · have := (OR7.out.block k hk).1; omega
            · exact own_two OR7.out TS7.out.o3 (by decide) k hk (by rw [e]; rfl)
            · exact own_two OR7.out TS7.out.o5 (by decide) k hk e)
          go_wp2
          go_round
          case rel => exact ⟨n + 1, _, _, _, _, _, _, by omega, by go_num, rfl, by rw [NX.out]; exact TE.out, OE.out⟩
          case measure => simp [intOf]; omega
end Go.Proofs.YteieikgkmfglaaaGreatDoor

