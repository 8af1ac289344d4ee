/- The reference: a text at each byte. -/
import Derived.Test.YtkceccajamdbjaaDoorRows
import Derived.Test.YtkceccajamdbjaaDoorOsA
import Derived.Test.YtkceccajamdbjaaDoorTxM
import Derived.OwnWalk
import Derived.Deep.AppendLies
import Derived.WalkKit
import Derived.WalkSpells
import Derived.WalkLawsBesides
import Derived.IntWalk
namespace Go.Proofs.YtkceccajamdbjaaDoor
open Go.RowKit Tx
set_option linter.unusedVariables false

theorem extract_list (s : ByteArray) (a b : Nat) : (s.extract a b).data.toList = (s.data.toList.drop a).take (b - a) := by
  rw [ByteArray.data_extract]
  simp

set_option maxRecDepth 100000 in
set_option maxHeartbeats 2000000 in
theorem ref_cut (s : ByteArray) (c : UInt8) (w : World) (hs : s.size ≤ 1048576) :
    Calls Tryd.prog 37 #[.string s, .int .u8 (c.toNat : Nat)] w fun e w' => ∃ u bs, e = .returned u ∧ Os w' w.heap.size u bs ∧ bs.map (fun b => b.data.toList) = cut c s.data.toList ∧ Below w.heap.size w w' := by
  obtain ⟨l, hl⟩ : ∃ l, s.data.toList = l := ⟨_, rfl⟩
  have Hl : Hid (s.data.toList = l) := hl
  have Ll : Hid (l.length = s.size) := by unfold Hid; rw [← hl]; rfl
  rw [hl]
  clear hl
  go_enter Tryd.func37, Tryd.ntmps37
  go_wp2
  go_loopw [5, 6, 7] (fun v fr i W' => ∃ (k f : Nat) (bs : List ByteArray), k ≤ s.size ∧ f ≤ k ∧ bs.length ≤ f ∧ i = .int .i64 (k : Nat) ∧ fr = .int .i64 (f : Nat) ∧ Os W' w.heap.size v bs ∧ bs.map (fun b => b.data.toList) ++ cut c (l.drop f) = cut c l ∧ c ∉ (l.drop f).take (k - f) ∧ Below w.heap.size w W') (fun _ _ i _ => s.size - (intOf i).toNat)
  case atStart => exact ⟨0, 0, [], Nat.zero_le _, Nat.le_refl _, by simp, rfl, rfl, Os.nil _ _, by simp, by simp, Below.refl _ _⟩
  case round =>
    obtain ⟨k, f, bs, hk, hf, hbl, rfl, rfl, ho, hc, hn, hb⟩ := hrel
    have O : Hid (Os wr w.heap.size u5 bs) := ho
    have C : Hid (bs.map (fun b => b.data.toList) ++ cut c (l.drop f) = cut c l) := hc
    have Nn : Hid (c ∉ (l.drop f).take (k - f)) := hn
    have B : Hid (Below w.heap.size w wr) := hb
    clear ho hc hn hb
    have z1 : Hid (w.heap.size ≤ wr.heap.size) := B.out.size
    by_cases h0 : k = s.size
    · have E : Hid ((bs ++ [s.extract f s.size]).map (fun b => b.data.toList) = cut c l) := by
        have h2 : (l.drop f).take (k - f) = l.drop f := List.take_of_length_le (by rw [List.length_drop, Ll.out, h0]; exact Nat.le_refl _)
        have h3 := Nn.out
        rw [h2] at h3
        have h4 := C.out
        rw [cut_word h3] at h4
        unfold Hid
        rw [List.map_append, ← h4]
        show _ ++ [(s.extract f s.size).data.toList] = _
        rw [extract_list, Hl.out, ← h0, h2]
      subst h0
      have ba : Below wr.heap.size wr (wr.alloc (Obj.cells #[.string (s.extract f s.size)] 9)) := (Below.refl _ _).alloc (Nat.le_refl _) _
      have O2 : Hid (Os (wr.alloc (Obj.cells #[.string (s.extract f s.size)] 9)) w.heap.size u5 bs) := O.out.alloc _
      have B2 : Hid (Below w.heap.size w (wr.alloc (Obj.cells #[.string (s.extract f s.size)] 9))) := B.out.trans (ba.mono B.out.size)
      have Cd : Hid ((wr.alloc (Obj.cells #[.string (s.extract f s.size)] 9)).cell? ⟨wr.heap.size, 0, none⟩ = some (.string (s.extract f s.size))) := by unfold Hid; simp
      clear ba
      go_wp2_with (at_builtin; refine app_str _ rfl _ _ rfl w.heap.size _ bs rfl O2.out ⟨wr.heap.size, 0, none⟩ _ rfl Cd.out (by omega) B2.out.size ?_)
      intro g cap w6 o6 g6 a6 l6
      have P6 : Hid (Os w6 w.heap.size (.slice (some ⟨g, 0, none⟩) (bs.length + 1) cap) (bs ++ [s.extract f s.size])) := o6
      have B6 : Hid (Below w.heap.size w w6) := B2.out.trans ((Below.refl _ _).grown g6 B2.out.size (fun k hk => (O2.out.block k hk).1))
      clear o6 g6 a6 l6 O2 B2 Cd
      go_wp2
      go_ret
      exact ⟨_, _, rfl, P6, E, B6⟩
    · have hks : k < s.size := by omega
      have hkl : k < l.length := by rw [Ll.out]; exact hks
      have eb : l[k] = s[k] := by
        have := Hl.out
        subst this
        rfl
      have dr : l.drop f = (l.drop f).take (k - f) ++ l[k] :: l.drop (k + 1) := by
        have h2 := (List.take_append_drop (k - f) (l.drop f)).symm
        rw [List.drop_drop, show f + (k - f) = k by omega, List.drop_eq_getElem_cons hkl] at h2
        exact h2
      by_cases hq : s[k].toNat = c.toNat
      · have ec : l[k] = c := by rw [eb]; exact UInt8.toNat_inj.1 hq
        have E : Hid ((bs ++ [s.extract f k]).map (fun b => b.data.toList) ++ cut c (l.drop (k + 1)) = cut c l) := by
          have h4 := C.out
          rw [dr, ec, cut_app Nn.out] at h4
          unfold Hid
          rw [List.map_append, ← h4]
          show _ ++ [(s.extract f k).data.toList] ++ _ = _
          rw [extract_list, Hl.out, List.append_assoc]
          rfl
        have ba : Below wr.heap.size wr (wr.alloc (Obj.cells #[.string (s.extract f k)] 9)) := (Below.refl _ _).alloc (Nat.le_refl _) _
        have O2 : Hid (Os (wr.alloc (Obj.cells #[.string (s.extract f k)] 9)) w.heap.size u5 bs) := O.out.alloc _
        have B2 : Hid (Below w.heap.size w (wr.alloc (Obj.cells #[.string (s.extract f k)] 9))) := B.out.trans (ba.mono B.out.size)
        have Cd : Hid ((wr.alloc (Obj.cells #[.string (s.extract f k)] 9)).cell? ⟨wr.heap.size, 0, none⟩ = some (.string (s.extract f k))) := by unfold Hid; simp
        clear ba dr ec eb C Nn
        go_wp2_with (at_builtin; refine app_str _ rfl _ _ rfl w.heap.size _ bs rfl O2.out ⟨wr.heap.size, 0, none⟩ _ rfl Cd.out (by omega) B2.out.size ?_)
        intro g cap w6 o6 g6 a6 l6
        have P6 : Hid (Os w6 w.heap.size (.slice (some ⟨g, 0, none⟩) (bs.length + 1) cap) (bs ++ [s.extract f k])) := o6
        have B6 : Hid (Below w.heap.size w w6) := B2.out.trans ((Below.refl _ _).grown g6 B2.out.size (fun k hk => (O2.out.block k hk).1))
        clear o6 g6 a6 l6 O2 B2 Cd
        go_wp2
        go_round
        case rel => exact ⟨k + 1, k + 1, bs ++ [s.extract f k], by omega, Nat.le_refl _, by simp; omega, by go_num, by go_num, P6, E, by simp, B6⟩
        case measure => simp [intOf]; omega
      · have ec : ¬ c = l[k] := by
          intro e
          rw [eb] at e
          exact hq (by rw [e])
        have N2 : Hid (c ∉ (l.drop f).take (k + 1 - f)) := by
          have h2 : (l.drop f).take (k + 1 - f) = (l.drop f).take (k - f) ++ [l[k]] := by
            rw [show k + 1 - f = (k - f) + 1 by omega, List.take_succ_eq_append_getElem (by rw [List.length_drop]; omega), List.getElem_drop]
            congr 2
            congr 1
            omega
          unfold Hid
          rw [h2, List.mem_append, not_or]
          exact ⟨Nn.out, by simpa using ec⟩
        have hq' : ¬ (s[k].toNat : Int) = (c.toNat : Int) := by omega
        have hq2 : ((s[k].toNat : Int) == (c.toNat : Int)) = false := by simpa using hq'
        clear dr ec eb Nn
        go_wp2
        go_round
        case rel => exact ⟨k + 1, f, bs, by omega, by omega, hbl, by go_num, rfl, O, C, N2, B⟩
        case measure => simp [intOf]; omega
end Go.Proofs.YtkceccajamdbjaaDoor
