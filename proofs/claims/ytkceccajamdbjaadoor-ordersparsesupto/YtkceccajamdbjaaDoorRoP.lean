/- The reference's orders: the orders of a text. -/
import Derived.Test.YtkceccajamdbjaaDoorRoA
import Derived.Test.YtkceccajamdbjaaDoorRkC
import Derived.Test.YtkceccajamdbjaaDoorRkW
import Derived.Test.YtkceccajamdbjaaDoorOdR
import Derived.Test.YtkceccajamdbjaaDoorOrO
import Derived.Test.YtkceccajamdbjaaDoorOpM
import Derived.Deep.DeepCutAuto
namespace Go.Proofs.YtkceccajamdbjaaDoor
open Go.RowKit
set_option linter.unusedVariables false

theorem cut32 (s : ByteArray) (w : World) (hs : s.size ≤ 1048576) : Calls Tryd.prog 37 #[.string s, .int .u8 32] w fun e w' => ∃ u bs, e = .returned u ∧ Os w' w.heap.size u bs ∧ bs.map (fun b => b.data.toList) = Tx.cut 32 s.data.toList ∧ Below w.heap.size w w' := ref_cut s 32 w hs
theorem cut10 (s : ByteArray) (w : World) (hs : s.size ≤ 1048576) : Calls Tryd.prog 37 #[.string s, .int .u8 10] w fun e w' => ∃ u bs, e = .returned u ∧ Os w' w.heap.size u bs ∧ bs.map (fun b => b.data.toList) = Tx.cut 10 s.data.toList ∧ Below w.heap.size w w' := ref_cut s 10 w hs
theorem whole_seven (s : ByteArray) (w : World) (hs : s.size ≤ 1048576) : Calls Tryd.prog 38 #[.string s, .int .i64 7] w fun e w' => e = .returned (.int .i64 (wholeInt 7 s.data.toList)) ∧ w' = w := ref_whole s 7 w (by decide) (by omega)
theorem cut_small (c : UInt8) (l : List UInt8) : ∀ x ∈ Tx.cut c l, x.length ≤ l.length := by
  induction l with
  | nil => intro x hx; simp [Tx.cut] at hx; subst hx; simp
  | cons b r ih =>
    intro x hx
    unfold Tx.cut at hx
    split at hx
    · rcases List.mem_cons.1 hx with rfl | hx
      · simp
      · have := ih x hx; simp; omega
    · cases hc : Tx.cut c r with
      | nil => exact absurd hc (Tx.cut_ne c r)
      | cons v vs =>
        rw [hc] at hx ih
        rcases List.mem_cons.1 hx with rfl | hx
        · have := ih v (List.mem_cons_self ..); simp; omega
        · have := ih x (List.mem_cons_of_mem _ hx); simp; omega
theorem wI (l : List UInt8) : (wholeInt 7 l = -1 ∧ Tx.whole 7 l = none) ∨ ∃ m : Nat, wholeInt 7 l = m ∧ Tx.whole 7 l = some m := by
  cases h : Tx.whole 7 l with
  | none => exact .inl ⟨wholeInt_none h, rfl⟩
  | some m => exact .inr ⟨m, wholeInt_some h, rfl⟩
theorem Orb.set0 {w : World} {b : Nat} {p u n a : Int} (h : Orb w b ⟨p, u, n, a⟩) (x : Int) : Orb (w.setCell ⟨b, 0, none⟩ (.int .i64 x)) b ⟨x, u, n, a⟩ := heap_setCell_same w b 0 _ _ (.int .i64 x) h
theorem Orb.set1 {w : World} {b : Nat} {p u n a : Int} (h : Orb w b ⟨p, u, n, a⟩) (x : Int) : Orb (w.setCell ⟨b, 1, none⟩ (.int .i64 x)) b ⟨p, x, n, a⟩ := heap_setCell_same w b 1 _ _ (.int .i64 x) h
theorem Orb.set2 {w : World} {b : Nat} {p u n a : Int} (h : Orb w b ⟨p, u, n, a⟩) (x : Int) : Orb (w.setCell ⟨b, 2, none⟩ (.int .i64 x)) b ⟨p, u, x, a⟩ := heap_setCell_same w b 2 _ _ (.int .i64 x) h
theorem Orb.set3 {w : World} {b : Nat} {p u n a : Int} (h : Orb w b ⟨p, u, n, a⟩) (x : Int) : Orb (w.setCell ⟨b, 3, none⟩ (.int .i64 x)) b ⟨p, u, n, x⟩ := heap_setCell_same w b 3 _ _ (.int .i64 x) h
/-- the number of a word for What; -1: none. -/
def nameInt (l : List UInt8) : Int := match Od.unname l with
  | some n => n
  | none => -1

theorem of_none3 {a b c : List UInt8} (h : Tx.whole 7 a = none ∨ Tx.whole 7 b = none) : Od.ofWords [a, b, c] = none := by
  cases hu : Od.unname c <;> cases h1 : Tx.whole 7 a <;> cases h2 : Tx.whole 7 b <;> simp_all [Od.ofWords]
theorem of_none4 {a b c d : List UInt8} (h : Tx.whole 7 a = none ∨ Tx.whole 7 b = none ∨ Tx.whole 7 d = none) : Od.ofWords [a, b, c, d] = none := by
  cases hu : Od.unname c <;> cases h1 : Tx.whole 7 a <;> cases h2 : Tx.whole 7 b <;> cases h3 : Tx.whole 7 d <;> simp_all [Od.ofWords]
theorem of_some3 {a b c : List UInt8} {x y : Nat} (h : Od.unname c = some 0) (h1 : Tx.whole 7 a = some x) (h2 : Tx.whole 7 b = some y) : Od.ofWords [a, b, c] = some ⟨x, y, 0, 0⟩ := by
  simp [Od.ofWords, h, h1, h2]
theorem of_some4 {a b c d : List UInt8} {n : Int} {x y z : Nat} (h : Od.unname c = some n) (hn : n ≠ 0) (h1 : Tx.whole 7 a = some x) (h2 : Tx.whole 7 b = some y) (h3 : Tx.whole 7 d = some z) : Od.ofWords [a, b, c, d] = some ⟨x, y, n, z⟩ := by
  simp [Od.ofWords, h, h1, h2, h3, hn]
def RoSays (l : List UInt8) (w : World) (e : Ending) (w' : World) : Prop := ∃ v k f ks, e = .returned (.tuple #[v, .int .i64 k, .int .i64 f]) ∧ Orl w' v ks ∧ ParSays l ks k f ∧ Below w.heap.size w w'
/-- at a line: what was read so far. -/
structure RP (w1 : World) (cuts : List (List UInt8)) (n k : Nat) (acc : List OrV) (v : Value) (W : World) : Prop where
  own : Oro W w1.heap.size v acc
  below : Below w1.heap.size w1 W
  few : acc.length ≤ 60
  at_ : (k < n ∧ acc.length = k ∧ Od.goCut [] cuts = Od.goCut acc (cuts.drop k)) ∨ (k = n ∧ Od.goCut [] cuts = .inr acc)

set_option maxRecDepth 100000 in
set_option maxHeartbeats 16000000 in
theorem ref_oparse (s : ByteArray) (w : World) (hs : s.size ≤ 1048576) :
    Calls Tryd.prog 19 #[.string s] w (RoSays s.data.toList w) := by
  have C10 : Hid (Calls Tryd.prog 37 #[.string s, .int .u8 10] w fun e w' => ∃ u bs, e = .returned u ∧ Os w' w.heap.size u bs ∧ bs.map (fun b => b.data.toList) = Tx.cut 10 s.data.toList ∧ Below w.heap.size w w') := cut10 s w hs
  go_enter Tryd.func19, Tryd.ntmps19
  go_wp2_with fail
  refine C10.out.mono ?_
  rintro e w1 ⟨u, bs, rfl, hos, hcut, b1⟩
  clear C10
  obtain ⟨cuts, hcuts⟩ : ∃ cuts, Tx.cut 10 s.data.toList = cuts := ⟨_, rfl⟩
  have PS : Hid (∀ (n : Nat) (x : Int), Od.goCut [] cuts = .inl (n, x) → ParSays s.data.toList [] n x) := fun n x h => by
    rw [← hcuts, Od.goCut_go] at h
    unfold ParSays Od.parse
    rw [h]
    exact ⟨rfl, rfl, rfl⟩
  have PR : Hid (∀ l, Od.goCut [] cuts = .inr l → ParSays s.data.toList l 0 0) := fun l h => by
    rw [← hcuts, Od.goCut_go] at h
    unfold ParSays Od.parse
    rw [h]
    exact ⟨rfl, rfl, rfl⟩
  have CB : Hid (bs.map (fun b => b.data.toList) = cuts) := by unfold Hid; rw [hcut, hcuts]
  have SB : Hid (∀ x ∈ bs, x.size ≤ 1048576) := fun x hx => by
    have h1 : x.data.toList ∈ Tx.cut 10 s.data.toList := by rw [← hcut]; exact List.mem_map.2 ⟨x, hx, rfl⟩
    have h2 : x.data.toList.length ≤ s.data.toList.length := cut_small 10 _ _ h1
    have h3 : x.data.toList.length = x.size := rfl
    have h4 : s.data.toList.length = s.size := rfl
    omega
  have hne : bs ≠ [] := by
    rintro rfl
    exact Tx.cut_ne 10 s.data.toList hcut.symm
  have B1 : Hid (Below w.heap.size w w1) := b1
  clear hcut hcuts b1
  obtain ⟨a, c, rfl, hc1, hc2, hcell⟩ := hos.cells
  obtain ⟨g, rfl, -, hcell⟩ := hcell hne
  have hbl : bs.length ≤ 9223372036854775807 := by omega
  have hpos : 0 < bs.length := List.length_pos_iff.2 hne
  have hg : g < w1.heap.size := cell_lt (hcell 0 _ (List.getElem?_eq_getElem hpos))
  have HC : Hid (∀ (i : Nat) b, bs[i]? = some b → w1.cell? ⟨g, i, none⟩ = some (.string b)) := hcell
  clear hos hcell hne
  go_wp2_with fail
  go_loopw [5, 7] (fun v i W' => ∃ (k : Nat) (acc : List OrV), k ≤ bs.length ∧ i = .int .i64 (k : Nat) ∧ RP w1 cuts bs.length k acc v W') (fun _ i _ => bs.length - (intOf i).toNat)
  case atStart => exact ⟨0, [], Nat.zero_le _, rfl, Oro.nil _ _, Below.refl _ _, by simp, .inl ⟨hpos, rfl, rfl⟩⟩
  case round =>
    obtain ⟨k, acc, hk, rfl, ho, hb, h60, hat⟩ := hrel
    obtain ⟨aa, cc, hv⟩ := ho.len
    subst hv
    have O : Hid (Oro wr w1.heap.size (.slice aa acc.length cc) acc) := ho
    have B : Hid (Below w1.heap.size w1 wr) := hb
    clear ho hb
    rcases hat with ⟨hlt, hak, hgo⟩ | ⟨hkn, hgo⟩
    · have hlti : ((k : Nat) : Int) < (bs.length : Nat) := by omega
      obtain ⟨x, hx⟩ : ∃ x, bs[k]? = some x := ⟨_, List.getElem?_eq_getElem hlt⟩
      have sx : x.size ≤ 1048576 := SB.out x (List.mem_of_getElem? hx)
      have cx : wr.cell? ⟨g, k, none⟩ = some (.string x) := by rw [B.out.cell (p := ⟨g, k, none⟩) hg]; exact HC.out k x hx
      have DR : Hid (cuts.drop k = x.data.toList :: cuts.drop (k + 1)) := by
        have hl : k < cuts.length := by rw [← CB.out, List.length_map]; exact hlt
        have e : cuts[k] = x.data.toList := by
          have h1 : cuts[k]? = some x.data.toList := by rw [← CB.out, List.getElem?_map, hx]; rfl
          rw [List.getElem?_eq_getElem hl] at h1
          exact Option.some.inj h1
        unfold Hid
        rw [List.drop_eq_getElem_cons hl, e]
      have GO : Hid (Od.goCut [] cuts = Od.goCut acc (x.data.toList :: cuts.drop (k + 1))) := by unfold Hid; rw [hgo, DR.out]
      have BW : Hid (Below w.heap.size w wr) := B1.out.trans (B.out.mono B1.out.size)
      have HK : Hid (acc.length = k) := hak
      clear hx hgo hak DR
      by_cases hl : k + 1 = bs.length
      · have hlb : (((k : Nat) : Int) == ((bs.length : Nat) : Int) - 1) = true := by rw [beq_iff_eq]; omega
        have RS : Hid (cuts.drop (k + 1) = []) := by
          unfold Hid
          rw [List.drop_eq_nil_iff, ← CB.out, List.length_map]
          omega
        by_cases he : x.data.toList = []
        · have hel : x.toList.isEmpty = true := empty_yes he
          have GO2 : Hid (Od.goCut [] cuts = .inr acc) := by
            unfold Hid
            rw [GO.out, RS.out, he]
            rfl
          clear he
          go_wp2
          go_round
          case rel => exact ⟨k + 1, acc, by omega, by go_num, O, B, h60, .inr ⟨by omega, GO2⟩⟩
          case measure => simp [intOf]; omega
        · have hel : x.toList.isEmpty = false := empty_no he
          have FN : Hid (Od.goCut [] cuts = .inl (k, 2)) := by
            unfold Hid
            rw [GO.out, RS.out, Od.goCut, if_neg he, HK.out]
          have C32 : Hid (Calls Tryd.prog 37 #[.string x, .int .u8 32] wr fun e w' => ∃ u bs, e = .returned u ∧ Os w' wr.heap.size u bs ∧ bs.map (fun b => b.data.toList) = Tx.cut 32 x.data.toList ∧ Below wr.heap.size wr w') := cut32 x wr sx
          clear he
          go_wp2_with fail
          refine C32.out.mono ?_
          rintro e w2 ⟨u2, R, rfl, hos, hcut, b2⟩
          clear C32
          have B2 : Hid (Below w.heap.size w w2) := BW.out.trans (b2.mono BW.out.size)
          clear b2 hos hcut
          go_wp2
          go_ret3
          exact ⟨_, _, _, [], rfl, (Oro.nil _ 0).l, PS.out k 2 FN.out, B2⟩
      · have hlb : (((k : Nat) : Int) == ((bs.length : Nat) : Int) - 1) = false := by rw [beq_eq_false_iff_ne]; omega
        obtain ⟨v1, vs, hvs⟩ : ∃ v1 vs, cuts.drop (k + 1) = v1 :: vs := by
          cases h : cuts.drop (k + 1) with
          | nil =>
            rw [List.drop_eq_nil_iff, ← CB.out, List.length_map] at h
            omega
          | cons v1 vs => exact ⟨v1, vs, rfl⟩
        have HV : Hid (cuts.drop (k + 1) = v1 :: vs) := hvs
        have NONE : Hid (Od.ofWords (Tx.cut 32 x.data.toList) = none → Od.goCut [] cuts = .inl (k, 2)) := fun h => by
          rw [GO.out, HV.out, Od.goCut, h, HK.out]
        have SOME : Hid (∀ o, Od.ofWords (Tx.cut 32 x.data.toList) = some o → (k = 60 → Od.goCut [] cuts = .inl (k, 4)) ∧ (k ≠ 60 → Od.fault o ≠ 0 → Od.goCut [] cuts = .inl (k, Od.fault o)) ∧ (k ≠ 60 → Od.fault o = 0 → Od.goCut [] cuts = Od.goCut (acc ++ [o]) (cuts.drop (k + 1)))) := fun o h => by
          refine ⟨fun h6 => ?_, fun h6 hf => ?_, fun h6 hf => ?_⟩
          · rw [GO.out, HV.out, Od.goCut, h]; simp only; rw [if_pos (by rw [HK.out]; exact h6), HK.out]
          · rw [GO.out, HV.out, Od.goCut, h]; simp only; rw [if_neg (by rw [HK.out]; exact h6), if_neg hf, HK.out]
          · rw [GO.out, HV.out, Od.goCut, h]; simp only; rw [if_neg (by rw [HK.out]; exact h6), if_pos hf]
        clear hvs
        have C32 : Hid (Calls Tryd.prog 37 #[.string x, .int .u8 32] wr fun e w' => ∃ u bs, e = .returned u ∧ Os w' wr.heap.size u bs ∧ bs.map (fun b => b.data.toList) = Tx.cut 32 x.data.toList ∧ Below wr.heap.size wr w') := cut32 x wr sx
        go_wp2_with fail
        refine C32.out.mono ?_
        rintro e w2 ⟨u2, R, rfl, hos, hcut, b2⟩
        clear C32
        have B2 : Hid (Below w1.heap.size w1 w2) := B.out.trans (b2.mono B.out.size)
        have BW2 : Hid (Below w.heap.size w w2) := BW.out.trans (b2.mono BW.out.size)
        have O2 : Hid (Oro w2 w1.heap.size (.slice aa acc.length cc) acc) := O.out.below b2
        have CR : Hid (R.map (fun b => b.data.toList) = Tx.cut 32 x.data.toList) := hcut
        have SR : Hid (∀ y ∈ R, y.size ≤ 1048576) := fun y hy => by
          have h1 : y.data.toList ∈ Tx.cut 32 x.data.toList := by rw [← hcut]; exact List.mem_map.2 ⟨y, hy, rfl⟩
          have h2 : y.data.toList.length ≤ x.data.toList.length := cut_small 32 _ _ h1
          have h3 : y.data.toList.length = y.size := rfl
          have h4 : x.data.toList.length = x.size := rfl
          omega
        have hRne : R ≠ [] := by
          rintro rfl
          exact Tx.cut_ne 32 x.data.toList hcut.symm
        obtain ⟨ra, rc, rfl, hrc1, hrc2, hrcell⟩ := hos.cells
        obtain ⟨rg, rfl, -, hrcell⟩ := hrcell hRne
        have hrg : rg < w2.heap.size := cell_lt (hrcell 0 _ (List.getElem?_eq_getElem (List.length_pos_iff.2 hRne)))
        have RC : Hid (∀ (i : Nat) b, R[i]? = some b → w2.cell? ⟨rg, i, none⟩ = some (.string b)) := hrcell
        clear hos hcut hRne hrcell b2 O B BW
        by_cases h3 : R.length < 3
        · have h3i : ((R.length : Nat) : Int) < 3 := by omega
          have FN : Hid (Od.goCut [] cuts = .inl (k, 2)) := NONE.out (by rw [← CR.out]; exact len_few (by rw [List.length_map]; exact h3))
          go_wp2
          go_ret3
          exact ⟨_, _, _, [], rfl, (Oro.nil _ 0).l, PS.out k 2 FN.out, BW2⟩
        · have n3 : ¬ ((R.length : Nat) : Int) < 3 := by omega
          obtain ⟨a0, a1, a2, ra0, ra1, ra2⟩ : ∃ a0 a1 a2, R[0]? = some a0 ∧ R[1]? = some a1 ∧ R[2]? = some a2 :=
            ⟨_, _, _, List.getElem?_eq_getElem (by omega), List.getElem?_eq_getElem (by omega), List.getElem?_eq_getElem (by omega)⟩
          have RA : Hid (R[0]? = some a0 ∧ R[1]? = some a1 ∧ R[2]? = some a2) := ⟨ra0, ra1, ra2⟩
          clear ra0 ra1 ra2
          have ba : Below w2.heap.size w2 (w2.alloc (Obj.cells #[.int .i64 0, .int .i64 0, .int .i64 (-1), .int .i64 0] 51)) := (Below.refl _ _).alloc (Nat.le_refl _) _
          have k2 : (w2.alloc (Obj.cells #[.int .i64 0, .int .i64 0, .int .i64 (-1), .int .i64 0] 51)).cell? ⟨rg, 2, none⟩ = some (.string a2) := by rw [ba.cell (p := ⟨rg, 2, none⟩) hrg]; exact RC.out 2 a2 RA.out.2.2
          have Z3 : Hid (Orb (w2.alloc (Obj.cells #[.int .i64 0, .int .i64 0, .int .i64 (-1), .int .i64 0] 51)) w2.heap.size ⟨0, 0, -1, 0⟩) := Orb.mk' w2 ⟨0, 0, -1, 0⟩
          have Q3 : Hid (Below w2.heap.size w2 (w2.alloc (Obj.cells #[.int .i64 0, .int .i64 0, .int .i64 (-1), .int .i64 0] 51))) := ba
          clear ba
          have l2 : (2 : Int) < ((R.length : Nat) : Int) := by omega
          go_upto_block 2 with fail
          go_cut [49] (fun v49 W' => Orb W' w2.heap.size ⟨0, 0, nameInt a2.data.toList, 0⟩ ∧ Below w2.heap.size w2 W')
          case first =>
            obtain ⟨z0, z1, z2, z3⟩ := Z3.out.cells
            have f2 := Z3.out.thaw 2
            simp only at z0 z1 z2 z3
            by_cases q0 : a2.data.toList = [115, 116, 111, 112]
            · have e0 : (a2.toList == [115, 116, 111, 112]) = true := by rw [ByteArray.toList_eq, q0]; rfl
              have NI : Hid (nameInt a2.data.toList = 0) := by unfold Hid; rw [q0]; rfl
              have ZZ : Hid (Orb (w2.alloc (Obj.cells #[.int .i64 0, .int .i64 0, .int .i64 0, .int .i64 0] 51)) w2.heap.size ⟨0, 0, 0, 0⟩) := Orb.mk' w2 ⟨0, 0, 0, 0⟩
              have QQ : Hid (Below w2.heap.size w2 (w2.alloc (Obj.cells #[.int .i64 0, .int .i64 0, .int .i64 0, .int .i64 0] 51))) := (Below.refl _ _).alloc (Nat.le_refl _) _
              clear q0 Z3 Q3
              go_wp2_with fail
              go_meet
              case rel => exact ⟨by rw [NI.out]; exact ZZ, QQ⟩
            · have e0 : (a2.toList == [115, 116, 111, 112]) = false := by rw [ByteArray.toList_eq]; exact beq_eq_false_iff_ne.2 q0
              by_cases q1 : a2.data.toList = [109, 97, 114, 99, 104]
              · have e1 : (a2.toList == [109, 97, 114, 99, 104]) = true := by rw [ByteArray.toList_eq, q1]; rfl
                have NI : Hid (nameInt a2.data.toList = 1) := by unfold Hid; rw [q1]; rfl
                have ZZ : Hid (Orb (w2.alloc (Obj.cells #[.int .i64 0, .int .i64 0, .int .i64 1, .int .i64 0] 51)) w2.heap.size ⟨0, 0, 1, 0⟩) := Orb.mk' w2 ⟨0, 0, 1, 0⟩
                have QQ : Hid (Below w2.heap.size w2 (w2.alloc (Obj.cells #[.int .i64 0, .int .i64 0, .int .i64 1, .int .i64 0] 51))) := (Below.refl _ _).alloc (Nat.le_refl _) _
                clear q1 Z3 Q3
                go_wp2_with fail
                go_meet
                case rel => exact ⟨by rw [NI.out]; exact ZZ, QQ⟩
              · have e1 : (a2.toList == [109, 97, 114, 99, 104]) = false := by rw [ByteArray.toList_eq]; exact beq_eq_false_iff_ne.2 q1
                by_cases q2 : a2.data.toList = [103, 97, 116, 104, 101, 114]
                · have e2 : (a2.toList == [103, 97, 116, 104, 101, 114]) = true := by rw [ByteArray.toList_eq, q2]; rfl
                  have NI : Hid (nameInt a2.data.toList = 2) := by unfold Hid; rw [q2]; rfl
                  have ZZ : Hid (Orb (w2.alloc (Obj.cells #[.int .i64 0, .int .i64 0, .int .i64 2, .int .i64 0] 51)) w2.heap.size ⟨0, 0, 2, 0⟩) := Orb.mk' w2 ⟨0, 0, 2, 0⟩
                  have QQ : Hid (Below w2.heap.size w2 (w2.alloc (Obj.cells #[.int .i64 0, .int .i64 0, .int .i64 2, .int .i64 0] 51))) := (Below.refl _ _).alloc (Nat.le_refl _) _
                  clear q2 Z3 Q3
                  go_wp2_with fail
                  go_meet
                  case rel => exact ⟨by rw [NI.out]; exact ZZ, QQ⟩
                · have e2 : (a2.toList == [103, 97, 116, 104, 101, 114]) = false := by rw [ByteArray.toList_eq]; exact beq_eq_false_iff_ne.2 q2
                  by_cases q3 : a2.data.toList = [116, 114, 97, 105, 110]
                  · have e3 : (a2.toList == [116, 114, 97, 105, 110]) = true := by rw [ByteArray.toList_eq, q3]; rfl
                    have NI : Hid (nameInt a2.data.toList = 3) := by unfold Hid; rw [q3]; rfl
                    have ZZ : Hid (Orb (w2.alloc (Obj.cells #[.int .i64 0, .int .i64 0, .int .i64 3, .int .i64 0] 51)) w2.heap.size ⟨0, 0, 3, 0⟩) := Orb.mk' w2 ⟨0, 0, 3, 0⟩
                    have QQ : Hid (Below w2.heap.size w2 (w2.alloc (Obj.cells #[.int .i64 0, .int .i64 0, .int .i64 3, .int .i64 0] 51))) := (Below.refl _ _).alloc (Nat.le_refl _) _
                    clear q3 Z3 Q3
                    go_wp2_with fail
                    go_meet
                    case rel => exact ⟨by rw [NI.out]; exact ZZ, QQ⟩
                  · have e3 : (a2.toList == [116, 114, 97, 105, 110]) = false := by rw [ByteArray.toList_eq]; exact beq_eq_false_iff_ne.2 q3
                    have NI : Hid (nameInt a2.data.toList = -1) := by
                      unfold Hid nameInt Od.unname
                      rw [if_neg (show ¬ a2.data.toList = Od.nStop from q0), if_neg (show ¬ a2.data.toList = Od.nMarch from q1), if_neg (show ¬ a2.data.toList = Od.nGather from q2), if_neg (show ¬ a2.data.toList = Od.nTrain from q3)]
                    clear q0 q1 q2 q3
                    go_wp2_with fail
                    go_meet
                    case rel => exact ⟨by rw [NI.out]; exact Z3, Q3⟩
          case rest =>
            obtain ⟨hz, hq⟩ := hcut
            obtain ⟨c, hcn⟩ : ∃ c, nameInt a2.data.toList = c := ⟨_, rfl⟩
            rw [hcn] at hz
            have Zc : Hid (Orb wc w2.heap.size ⟨0, 0, c, 0⟩) := hz
            have Qc : Hid (Below w2.heap.size w2 wc) := hq
            clear hz hq Z3 Q3 k2
            have BWc : Hid (Below w.heap.size w wc) := BW2.out.trans (Qc.out.mono BW2.out.size)
            have z2 : wc.cell? ⟨w2.heap.size, 2, none⟩ = some (.int .i64 c) := Zc.out.cells.2.2.1
            cases hu : Od.unname a2.data.toList with
            | none =>
              obtain rfl : c = -1 := by rw [← hcn]; unfold nameInt; rw [hu]
              have NO : Hid (Od.ofWords (Tx.cut 32 x.data.toList) = none) := by
                unfold Hid
                rw [← CR.out]
                obtain ⟨r, hR⟩ := list3 RA.out.1 RA.out.2.1 RA.out.2.2
                rw [hR]
                exact un_none hu
              have FN : Hid (Od.goCut [] cuts = .inl (k, 2)) := NONE.out NO.out
              clear hu hcn
              go_wp2
              go_ret3
              exact ⟨_, _, _, [], rfl, (Oro.nil _ 0).l, PS.out k 2 FN.out, BWc⟩
            | some nn =>
              obtain rfl : nn = c := by rw [← hcn]; unfold nameInt; rw [hu]
              have Hu : Hid (Od.unname a2.data.toList = some nn) := hu
              have hn0 := (Od.name_unname hu).2
              clear hu hcn
              obtain ⟨c, hcc⟩ : ∃ c, nn = c := ⟨_, rfl⟩
              rw [hcc] at Hu hn0 Zc z2
              clear hcc
              obtain ⟨hn1, hn3⟩ := hn0
              have ncl : ¬ c < 0 := by omega
              by_cases hc0 : c = 0
              · subst hc0
                by_cases hr : R.length = 3
                · have HR3 : Hid (R.length = 3) := hr
                  have n3i : ((R.length : Nat) : Int) = 3 := by omega
                  have n3b : (((R.length : Nat) : Int) == 3) = true := by rw [beq_iff_eq]; omega
                  have i1 : (1 : Int) < ((R.length : Nat) : Int) := by omega
                  have i0' : (0 : Int) < ((R.length : Nat) : Int) := by omega
                  clear hr z2
                  have z2 : wc.cell? ⟨w2.heap.size, 2, none⟩ = some (.int .i64 0) := Zc.out.cells.2.2.1
                  have W0 : Hid (Calls Tryd.prog 38 #[.string a0, .int .i64 7] wc fun e w' => e = .returned (.int .i64 (wholeInt 7 a0.data.toList)) ∧ w' = wc) := whole_seven a0 wc (SR.out a0 (List.mem_of_getElem? RA.out.1))
                  have d0 : wc.cell? ⟨rg, 0, none⟩ = some (.string a0) := by rw [Qc.out.cell (p := ⟨rg, 0, none⟩) hrg]; exact RC.out 0 a0 RA.out.1
                  obtain ⟨vx, hvx⟩ : ∃ vx, wholeInt 7 a0.data.toList = vx := ⟨_, rfl⟩
                  obtain ⟨vy, hvy⟩ : ∃ vy, wholeInt 7 a1.data.toList = vy := ⟨_, rfl⟩
                  rw [hvx] at W0
                  have f0 := Zc.out.thaw 0
                  have f1 := Zc.out.thaw 1
                  have f3 := Zc.out.thaw 3
                  obtain ⟨y0, y1, y2, y3⟩ := Zc.out.cells
                  simp only at y0 y1 y2 y3
                  have Za := Zc.out.set0 vx
                  have Qa := Qc.out.setCell (p := ⟨w2.heap.size, 0, none⟩) (Nat.le_refl _) (.int .i64 vx)
                  go_wp2_with fail
                  refine W0.out.mono ?_
                  rintro e w' ⟨rfl, hw⟩
                  obtain rfl := hw.symm
                  clear W0
                  have HZa : Hid (Orb (wc.setCell ⟨w2.heap.size, 0, none⟩ (.int .i64 vx)) w2.heap.size ⟨vx, 0, 0, 0⟩) := Za
                  have HQa : Hid (Below w2.heap.size w2 (wc.setCell ⟨w2.heap.size, 0, none⟩ (.int .i64 vx))) := Qa
                  have d1 : (wc.setCell ⟨w2.heap.size, 0, none⟩ (.int .i64 vx)).cell? ⟨rg, 1, none⟩ = some (.string a1) := by rw [Qa.cell (p := ⟨rg, 1, none⟩) hrg]; exact RC.out 1 a1 RA.out.2.1
                  have W1' : Hid (Calls Tryd.prog 38 #[.string a1, .int .i64 7] (wc.setCell ⟨w2.heap.size, 0, none⟩ (.int .i64 vx)) fun e w' => e = .returned (.int .i64 (wholeInt 7 a1.data.toList)) ∧ w' = (wc.setCell ⟨w2.heap.size, 0, none⟩ (.int .i64 vx))) := whole_seven a1 _ (SR.out a1 (List.mem_of_getElem? RA.out.2.1))
                  rw [hvy] at W1'
                  clear Za Qa
                  go_wp2_with fail
                  refine W1'.out.mono ?_
                  rintro e w' ⟨rfl, hw⟩
                  obtain rfl := hw.symm
                  clear W1' d0 d1 y0 y1 y2 y3 f0 f1 f3 Zc Qc
                  generalize wc.setCell ⟨w2.heap.size, 0, none⟩ (.int .i64 vx) = wd at *
                  have Ze : Hid (Orb (wd.setCell ⟨w2.heap.size, 1, none⟩ (.int .i64 vy)) w2.heap.size ⟨vx, vy, 0, 0⟩) := HZa.out.set1 vy
                  have Qe : Hid (Below w2.heap.size w2 (wd.setCell ⟨w2.heap.size, 1, none⟩ (.int .i64 vy))) := HQa.out.setCell (p := ⟨w2.heap.size, 1, none⟩) (Nat.le_refl _) (.int .i64 vy)
                  have f1 := HZa.out.thaw 1
                  have y1 := HZa.out.cells.2.1
                  simp only at y1
                  obtain ⟨y0, yy, y2, y3⟩ := Ze.out.cells
                  simp only at y0 yy y2 y3
                  have i0 : Hid (Od.ofWords (Tx.cut 32 x.data.toList) = Od.ofWords [a0.data.toList, a1.data.toList, a2.data.toList]) := by
                    unfold Hid
                    rw [← CR.out]
                    obtain ⟨r, hR⟩ := list3 RA.out.1 RA.out.2.1 RA.out.2.2
                    have hr' := HR3.out
                    rw [hR] at hr' ⊢
                    have : r = [] := List.length_eq_zero_iff.1 (by simpa using hr')
                    subst this
                    rfl
                  go_upto_region 27 with fail
                  generalize wd.setCell ⟨w2.heap.size, 1, none⟩ (.int .i64 vy) = we at *
                  clear y1 f1 HZa HQa
                  have BWe : Hid (Below w.heap.size w we) := BW2.out.trans (Qe.out.mono BW2.out.size)
                  have B2e : Hid (Below w1.heap.size w1 we) := B2.out.trans (Qe.out.mono B2.out.size)
                  rcases wI a0.data.toList with ⟨m0, w0x⟩ | ⟨n0, m0, w0x⟩
                  · rw [hvx] at m0
                    subst m0
                    have NO : Hid (Od.ofWords (Tx.cut 32 x.data.toList) = none) := by
                      unfold Hid
                      rw [i0.out]
                      exact of_none3 (.inl w0x)
                    have FN : Hid (Od.goCut [] cuts = .inl (k, 2)) := NONE.out NO.out
                    go_wp2
                    go_ret3
                    exact ⟨_, _, _, [], rfl, (Oro.nil _ 0).l, PS.out k 2 FN.out, BWe⟩
                  · rw [hvx] at m0
                    subst m0
                    rcases wI a1.data.toList with ⟨m1, w1x⟩ | ⟨n1, m1, w1x⟩
                    · rw [hvy] at m1
                      subst m1
                      have NO : Hid (Od.ofWords (Tx.cut 32 x.data.toList) = none) := by
                        unfold Hid
                        rw [i0.out]
                        exact of_none3 (.inr w1x)
                      have FN : Hid (Od.goCut [] cuts = .inl (k, 2)) := NONE.out NO.out
                      go_wp2
                      go_ret3
                      exact ⟨_, _, _, [], rfl, (Oro.nil _ 0).l, PS.out k 2 FN.out, BWe⟩
                    · rw [hvy] at m1
                      subst m1
                      have OK : Hid (Od.ofWords (Tx.cut 32 x.data.toList) = some (⟨(n0 : Nat), (n1 : Nat), 0, 0⟩ : OrV)) := by
                        unfold Hid
                        rw [i0.out]
                        exact of_some3 Hu.out w0x w1x
                      have ng0 : ¬ ((n0 : Nat) : Int) < 0 := by omega
                      have ng1 : ¬ ((n1 : Nat) : Int) < 0 := by omega
                      skip
                      clear w0x w1x hvx hvy
                      by_cases h6 : k = 60
                      · have h6b : (((k : Nat) : Int) == 60) = true := by rw [beq_iff_eq]; omega
                        have FN : Hid (Od.goCut [] cuts = .inl (k, 4)) := (SOME.out _ OK.out).1 h6
                        clear h6
                        go_wp2
                        go_ret3
                        exact ⟨_, _, _, [], rfl, (Oro.nil _ 0).l, PS.out k 4 FN.out, BWe⟩
                      · have h6b : (((k : Nat) : Int) == 60) = false := by rw [beq_eq_false_iff_ne]; omega
                        have RO : Hid (Calls Tryd.prog 27 #[.agg #[.int .i64 (n0 : Nat), .int .i64 (n1 : Nat), .int .i64 0, .int .i64 0]] we fun e w' => e = .returned (.int .i64 (Od.fault (⟨(n0 : Nat), (n1 : Nat), 0, 0⟩ : OrV))) ∧ Below we.heap.size we w') := ref_order (⟨(n0 : Nat), (n1 : Nat), 0, 0⟩ : OrV) we
                        go_wp2_with fail
                        refine RO.out.mono ?_
                        rintro e wg ⟨rfl, b9⟩
                        clear RO
                        have Zg : Hid (Orb wg w2.heap.size (⟨(n0 : Nat), (n1 : Nat), 0, 0⟩ : OrV)) := Ze.out.below b9 Ze.out.lt
                        have Bg : Hid (Below w.heap.size w wg) := BWe.out.trans (b9.mono BWe.out.size)
                        have B1g : Hid (Below w1.heap.size w1 wg) := B2e.out.trans (b9.mono B2e.out.size)
                        have Og : Hid (Oro wg w1.heap.size (.slice aa acc.length cc) acc) := (O2.out.below Qe.out).below b9
                        clear b9 y0 yy y2 y3 Ze Qe BWe B2e
                        by_cases hf : Od.fault (⟨(n0 : Nat), (n1 : Nat), 0, 0⟩ : OrV) = 0
                        · have AC := (SOME.out _ OK.out).2.2 h6 hf
                          have HA : Hid (Od.goCut [] cuts = Od.goCut (acc ++ [(⟨(n0 : Nat), (n1 : Nat), 0, 0⟩ : OrV)]) (cuts.drop (k + 1))) := AC
                          clear AC
                          rw [hf]
                          obtain ⟨p0, p1, p2, p3⟩ := Zg.out.cells
                          simp only at p0 p1 p2 p3
                          have ba : Below wg.heap.size wg (wg.alloc (Obj.cells #[.int .i64 (n0 : Nat), .int .i64 (n1 : Nat), .int .i64 0, .int .i64 0] 51)) := (Below.refl _ _).alloc (Nat.le_refl _) _
                          have Rc : Hid (Orc (wg.alloc (Obj.cells #[.int .i64 (n0 : Nat), .int .i64 (n1 : Nat), .int .i64 0, .int .i64 0] 51)) ⟨wg.heap.size, 0, none⟩ (⟨(n0 : Nat), (n1 : Nat), 0, 0⟩ : OrV)) := Orc.mk' (⟨(n0 : Nat), (n1 : Nat), 0, 0⟩ : OrV) rfl
                          have Oh : Hid (Oro (wg.alloc (Obj.cells #[.int .i64 (n0 : Nat), .int .i64 (n1 : Nat), .int .i64 0, .int .i64 0] 51)) w1.heap.size (.slice aa acc.length cc) acc) := Og.out.alloc _
                          have B1h : Hid (Below w1.heap.size w1 (wg.alloc (Obj.cells #[.int .i64 (n0 : Nat), .int .i64 (n1 : Nat), .int .i64 0, .int .i64 0] 51))) := B1g.out.trans (ba.mono B1g.out.size)
                          clear ba
                          go_wp2_with (at_builtin; refine app_or _ rfl _ _ rfl w1.heap.size _ acc rfl Oh.out wg.heap.size (⟨(n0 : Nat), (n1 : Nat), 0, 0⟩ : OrV) rfl Rc.out (by omega) B1h.out.size ?_)
                          intro gg cap w6 o6 g6 a6 l6
                          have P6 : Hid (Oro w6 w1.heap.size (.slice (some ⟨gg, 0, none⟩) (acc.length + 1) cap) (acc ++ [(⟨(n0 : Nat), (n1 : Nat), 0, 0⟩ : OrV)])) := o6
                          have B6 : Hid (Below w1.heap.size w1 w6) := B1h.out.grown g6 B1h.out.size (fun k hk => (Oh.out.block k hk).1)
                          clear o6 g6 a6 l6 p0 p1 p2 p3 hf
                          have hk60 : acc.length < 60 := by have := HK.out; omega
                          go_wp2
                          go_round
                          case rel => exact ⟨k + 1, acc ++ [(⟨(n0 : Nat), (n1 : Nat), 0, 0⟩ : OrV)], by omega, by go_num, P6, B6, by simp; omega, .inl ⟨by omega, by simp; have := HK.out; omega, HA⟩⟩
                          case measure => simp [intOf]; omega
                        · have FN : Hid (Od.goCut [] cuts = .inl (k, Od.fault (⟨(n0 : Nat), (n1 : Nat), 0, 0⟩ : OrV))) := (SOME.out _ OK.out).2.1 h6 hf
                          have hfb : (Od.fault (⟨(n0 : Nat), (n1 : Nat), 0, 0⟩ : OrV) == 0) = false := beq_eq_false_iff_ne.2 hf
                          generalize Od.fault (⟨(n0 : Nat), (n1 : Nat), 0, 0⟩ : OrV) = ff at *
                          go_wp2
                          go_ret3
                          exact ⟨_, _, _, [], rfl, (Oro.nil _ 0).l, PS.out k ff FN.out, Bg⟩
                · have n3b : (((R.length : Nat) : Int) == 3) = false := by rw [beq_eq_false_iff_ne]; omega
                  have NO : Hid (Od.ofWords (Tx.cut 32 x.data.toList) = none) := by
                    unfold Hid
                    rw [← CR.out]
                    obtain ⟨r, hR⟩ := list3 RA.out.1 RA.out.2.1 RA.out.2.2
                    rw [hR] at hr ⊢
                    match r, hr with
                    | [], h => exact absurd rfl h
                    | [d], _ => exact of3x Hu.out
                    | d :: e :: r, _ => rfl
                  have FN : Hid (Od.goCut [] cuts = .inl (k, 2)) := NONE.out NO.out
                  go_wp2
                  go_ret3
                  exact ⟨_, _, _, [], rfl, (Oro.nil _ 0).l, PS.out k 2 FN.out, BWc⟩
              · have hc0b : (c == 0) = false := beq_eq_false_iff_ne.2 hc0
                have cpos : 0 < c := by omega
                by_cases hr : R.length = 4
                · have HR3 : Hid (R.length = 4) := hr
                  have n4i : ((R.length : Nat) : Int) = 4 := by omega
                  have n4b : (((R.length : Nat) : Int) == 4) = true := by rw [beq_iff_eq]; omega
                  have i1 : (1 : Int) < ((R.length : Nat) : Int) := by omega
                  have i0' : (0 : Int) < ((R.length : Nat) : Int) := by omega
                  clear hr
                  have W0 : Hid (Calls Tryd.prog 38 #[.string a0, .int .i64 7] wc fun e w' => e = .returned (.int .i64 (wholeInt 7 a0.data.toList)) ∧ w' = wc) := whole_seven a0 wc (SR.out a0 (List.mem_of_getElem? RA.out.1))
                  have d0 : wc.cell? ⟨rg, 0, none⟩ = some (.string a0) := by rw [Qc.out.cell (p := ⟨rg, 0, none⟩) hrg]; exact RC.out 0 a0 RA.out.1
                  obtain ⟨vx, hvx⟩ : ∃ vx, wholeInt 7 a0.data.toList = vx := ⟨_, rfl⟩
                  obtain ⟨vy, hvy⟩ : ∃ vy, wholeInt 7 a1.data.toList = vy := ⟨_, rfl⟩
                  rw [hvx] at W0
                  have f0 := Zc.out.thaw 0
                  have f1 := Zc.out.thaw 1
                  have f3 := Zc.out.thaw 3
                  obtain ⟨y0, y1, y2, y3⟩ := Zc.out.cells
                  simp only at y0 y1 y2 y3
                  have Za := Zc.out.set0 vx
                  have Qa := Qc.out.setCell (p := ⟨w2.heap.size, 0, none⟩) (Nat.le_refl _) (.int .i64 vx)
                  go_wp2_with fail
                  refine W0.out.mono ?_
                  rintro e w' ⟨rfl, hw⟩
                  obtain rfl := hw.symm
                  clear W0
                  have HZa : Hid (Orb (wc.setCell ⟨w2.heap.size, 0, none⟩ (.int .i64 vx)) w2.heap.size ⟨vx, 0, c, 0⟩) := Za
                  have HQa : Hid (Below w2.heap.size w2 (wc.setCell ⟨w2.heap.size, 0, none⟩ (.int .i64 vx))) := Qa
                  have d1 : (wc.setCell ⟨w2.heap.size, 0, none⟩ (.int .i64 vx)).cell? ⟨rg, 1, none⟩ = some (.string a1) := by rw [Qa.cell (p := ⟨rg, 1, none⟩) hrg]; exact RC.out 1 a1 RA.out.2.1
                  have W1' : Hid (Calls Tryd.prog 38 #[.string a1, .int .i64 7] (wc.setCell ⟨w2.heap.size, 0, none⟩ (.int .i64 vx)) fun e w' => e = .returned (.int .i64 (wholeInt 7 a1.data.toList)) ∧ w' = (wc.setCell ⟨w2.heap.size, 0, none⟩ (.int .i64 vx))) := whole_seven a1 _ (SR.out a1 (List.mem_of_getElem? RA.out.2.1))
                  rw [hvy] at W1'
                  clear Za Qa
                  go_wp2_with fail
                  refine W1'.out.mono ?_
                  rintro e w' ⟨rfl, hw⟩
                  obtain rfl := hw.symm
                  clear W1' d0 d1 y0 y1 y2 y3 f0 f1 f3 Zc Qc
                  generalize wc.setCell ⟨w2.heap.size, 0, none⟩ (.int .i64 vx) = wd at *
                  have Ze : Hid (Orb (wd.setCell ⟨w2.heap.size, 1, none⟩ (.int .i64 vy)) w2.heap.size ⟨vx, vy, c, 0⟩) := HZa.out.set1 vy
                  have Qe : Hid (Below w2.heap.size w2 (wd.setCell ⟨w2.heap.size, 1, none⟩ (.int .i64 vy))) := HQa.out.setCell (p := ⟨w2.heap.size, 1, none⟩) (Nat.le_refl _) (.int .i64 vy)
                  have f1 := HZa.out.thaw 1
                  have y1 := HZa.out.cells.2.1
                  simp only at y1
                  obtain ⟨y0, yy, y2, y3⟩ := Ze.out.cells
                  simp only at y0 yy y2 y3
                  go_upto_region 26 with fail
                  generalize wd.setCell ⟨w2.heap.size, 1, none⟩ (.int .i64 vy) = we at *
                  clear y1 f1 HZa HQa y0 yy y2 y3
                  obtain ⟨a3, ra3⟩ : ∃ a3, R[3]? = some a3 := ⟨_, List.getElem?_eq_getElem (by have := HR3.out; omega)⟩
                  have d3 : we.cell? ⟨rg, 3, none⟩ = some (.string a3) := by rw [Qe.out.cell (p := ⟨rg, 3, none⟩) hrg]; exact RC.out 3 a3 ra3
                  have i0 : Hid (Od.ofWords (Tx.cut 32 x.data.toList) = Od.ofWords [a0.data.toList, a1.data.toList, a2.data.toList, a3.data.toList]) := by
                    unfold Hid
                    rw [← CR.out]
                    obtain ⟨r, hR⟩ := list3 RA.out.1 RA.out.2.1 RA.out.2.2
                    have hr' := HR3.out
                    rw [hR] at hr' ra3 ⊢
                    match r, hr', ra3 with
                    | [d], _, h =>
                      simp at h
                      subst h
                      rfl
                  obtain ⟨vz, hvz⟩ : ∃ vz, wholeInt 7 a3.data.toList = vz := ⟨_, rfl⟩
                  have W3' : Hid (Calls Tryd.prog 38 #[.string a3, .int .i64 7] we fun e w' => e = .returned (.int .i64 (wholeInt 7 a3.data.toList)) ∧ w' = we) := whole_seven a3 we (SR.out a3 (List.mem_of_getElem? ra3))
                  rw [hvz] at W3'
                  have i3 : (3 : Int) < ((R.length : Nat) : Int) := by have := HR3.out; omega
                  clear ra3
                  go_wp2_with fail
                  refine W3'.out.mono ?_
                  rintro e w' ⟨rfl, hw⟩
                  obtain rfl := hw.symm
                  clear W3' d3
                  have Zf : Hid (Orb (we.setCell ⟨w2.heap.size, 3, none⟩ (.int .i64 vz)) w2.heap.size ⟨vx, vy, c, vz⟩) := Ze.out.set3 vz
                  have Qf : Hid (Below w2.heap.size w2 (we.setCell ⟨w2.heap.size, 3, none⟩ (.int .i64 vz))) := Qe.out.setCell (p := ⟨w2.heap.size, 3, none⟩) (Nat.le_refl _) (.int .i64 vz)
                  have f3 := Ze.out.thaw 3
                  have y3 := Ze.out.cells.2.2.2
                  simp only at y3
                  go_upto_region 27 with fail
                  generalize we.setCell ⟨w2.heap.size, 3, none⟩ (.int .i64 vz) = wf at *
                  clear y3 f3 Ze Qe
                  have Ze := Zf
                  have Qe := Qf
                  clear Zf Qf
                  obtain ⟨y0, yy, y2, y3⟩ := Ze.out.cells
                  simp only at y0 yy y2 y3
                  have BWe : Hid (Below w.heap.size w wf) := BW2.out.trans (Qe.out.mono BW2.out.size)
                  have B2e : Hid (Below w1.heap.size w1 wf) := B2.out.trans (Qe.out.mono B2.out.size)
                  rcases wI a0.data.toList with ⟨m0, w0x⟩ | ⟨n0, m0, w0x⟩
                  · rw [hvx] at m0
                    subst m0
                    have NO : Hid (Od.ofWords (Tx.cut 32 x.data.toList) = none) := by
                      unfold Hid
                      rw [i0.out]
                      exact of_none4 (.inl w0x)
                    have FN : Hid (Od.goCut [] cuts = .inl (k, 2)) := NONE.out NO.out
                    go_wp2
                    go_ret3
                    exact ⟨_, _, _, [], rfl, (Oro.nil _ 0).l, PS.out k 2 FN.out, BWe⟩
                  · rw [hvx] at m0
                    subst m0
                    rcases wI a1.data.toList with ⟨m1, w1x⟩ | ⟨n1, m1, w1x⟩
                    · rw [hvy] at m1
                      subst m1
                      have NO : Hid (Od.ofWords (Tx.cut 32 x.data.toList) = none) := by
                        unfold Hid
                        rw [i0.out]
                        exact of_none4 (.inr (.inl w1x))
                      have FN : Hid (Od.goCut [] cuts = .inl (k, 2)) := NONE.out NO.out
                      go_wp2
                      go_ret3
                      exact ⟨_, _, _, [], rfl, (Oro.nil _ 0).l, PS.out k 2 FN.out, BWe⟩
                    · rw [hvy] at m1
                      subst m1
                      rcases wI a3.data.toList with ⟨m2, w2x⟩ | ⟨n2, m2, w2x⟩
                      · rw [hvz] at m2
                        subst m2
                        have NO : Hid (Od.ofWords (Tx.cut 32 x.data.toList) = none) := by
                          unfold Hid
                          rw [i0.out]
                          exact of_none4 (.inr (.inr w2x))
                        have FN : Hid (Od.goCut [] cuts = .inl (k, 2)) := NONE.out NO.out
                        go_wp2
                        go_ret3
                        exact ⟨_, _, _, [], rfl, (Oro.nil _ 0).l, PS.out k 2 FN.out, BWe⟩
                      · rw [hvz] at m2
                        subst m2
                        have OK : Hid (Od.ofWords (Tx.cut 32 x.data.toList) = some (⟨(n0 : Nat), (n1 : Nat), c, (n2 : Nat)⟩ : OrV)) := by
                          unfold Hid
                          rw [i0.out]
                          exact of_some4 Hu.out hc0 w0x w1x w2x
                        have ng0 : ¬ ((n0 : Nat) : Int) < 0 := by omega
                        have ng1 : ¬ ((n1 : Nat) : Int) < 0 := by omega
                        have ng2 : ¬ ((n2 : Nat) : Int) < 0 := by omega
                        clear w0x w1x w2x hvx hvy hvz
                        by_cases h6 : k = 60
                        · have h6b : (((k : Nat) : Int) == 60) = true := by rw [beq_iff_eq]; omega
                          have FN : Hid (Od.goCut [] cuts = .inl (k, 4)) := (SOME.out _ OK.out).1 h6
                          clear h6
                          go_wp2
                          go_ret3
                          exact ⟨_, _, _, [], rfl, (Oro.nil _ 0).l, PS.out k 4 FN.out, BWe⟩
                        · have h6b : (((k : Nat) : Int) == 60) = false := by rw [beq_eq_false_iff_ne]; omega
                          have RO : Hid (Calls Tryd.prog 27 #[.agg #[.int .i64 (n0 : Nat), .int .i64 (n1 : Nat), .int .i64 c, .int .i64 (n2 : Nat)]] wf fun e w' => e = .returned (.int .i64 (Od.fault (⟨(n0 : Nat), (n1 : Nat), c, (n2 : Nat)⟩ : OrV))) ∧ Below wf.heap.size wf w') := ref_order (⟨(n0 : Nat), (n1 : Nat), c, (n2 : Nat)⟩ : OrV) wf
                          go_wp2_with fail
                          refine RO.out.mono ?_
                          rintro e wg ⟨rfl, b9⟩
                          clear RO
                          have Zg : Hid (Orb wg w2.heap.size (⟨(n0 : Nat), (n1 : Nat), c, (n2 : Nat)⟩ : OrV)) := Ze.out.below b9 Ze.out.lt
                          have Bg : Hid (Below w.heap.size w wg) := BWe.out.trans (b9.mono BWe.out.size)
                          have B1g : Hid (Below w1.heap.size w1 wg) := B2e.out.trans (b9.mono B2e.out.size)
                          have Og : Hid (Oro wg w1.heap.size (.slice aa acc.length cc) acc) := (O2.out.below Qe.out).below b9
                          clear b9 y0 yy y2 y3 Ze Qe BWe B2e
                          by_cases hf : Od.fault (⟨(n0 : Nat), (n1 : Nat), c, (n2 : Nat)⟩ : OrV) = 0
                          · have AC := (SOME.out _ OK.out).2.2 h6 hf
                            have HA : Hid (Od.goCut [] cuts = Od.goCut (acc ++ [(⟨(n0 : Nat), (n1 : Nat), c, (n2 : Nat)⟩ : OrV)]) (cuts.drop (k + 1))) := AC
                            clear AC
                            rw [hf]
                            obtain ⟨p0, p1, p2, p3⟩ := Zg.out.cells
                            simp only at p0 p1 p2 p3
                            have ba : Below wg.heap.size wg (wg.alloc (Obj.cells #[.int .i64 (n0 : Nat), .int .i64 (n1 : Nat), .int .i64 c, .int .i64 (n2 : Nat)] 51)) := (Below.refl _ _).alloc (Nat.le_refl _) _
                            have Rc : Hid (Orc (wg.alloc (Obj.cells #[.int .i64 (n0 : Nat), .int .i64 (n1 : Nat), .int .i64 c, .int .i64 (n2 : Nat)] 51)) ⟨wg.heap.size, 0, none⟩ (⟨(n0 : Nat), (n1 : Nat), c, (n2 : Nat)⟩ : OrV)) := Orc.mk' (⟨(n0 : Nat), (n1 : Nat), c, (n2 : Nat)⟩ : OrV) rfl
                            have Oh : Hid (Oro (wg.alloc (Obj.cells #[.int .i64 (n0 : Nat), .int .i64 (n1 : Nat), .int .i64 c, .int .i64 (n2 : Nat)] 51)) w1.heap.size (.slice aa acc.length cc) acc) := Og.out.alloc _
                            have B1h : Hid (Below w1.heap.size w1 (wg.alloc (Obj.cells #[.int .i64 (n0 : Nat), .int .i64 (n1 : Nat), .int .i64 c, .int .i64 (n2 : Nat)] 51))) := B1g.out.trans (ba.mono B1g.out.size)
                            clear ba
                            go_wp2_with (at_builtin; refine app_or _ rfl _ _ rfl w1.heap.size _ acc rfl Oh.out wg.heap.size (⟨(n0 : Nat), (n1 : Nat), c, (n2 : Nat)⟩ : OrV) rfl Rc.out (by omega) B1h.out.size ?_)
                            intro gg cap w6 o6 g6 a6 l6
                            have P6 : Hid (Oro w6 w1.heap.size (.slice (some ⟨gg, 0, none⟩) (acc.length + 1) cap) (acc ++ [(⟨(n0 : Nat), (n1 : Nat), c, (n2 : Nat)⟩ : OrV)])) := o6
                            have B6 : Hid (Below w1.heap.size w1 w6) := B1h.out.grown g6 B1h.out.size (fun k hk => (Oh.out.block k hk).1)
                            clear o6 g6 a6 l6 p0 p1 p2 p3 hf
                            have hk60 : acc.length < 60 := by have := HK.out; omega
                            go_wp2
                            go_round
                            case rel => exact ⟨k + 1, acc ++ [(⟨(n0 : Nat), (n1 : Nat), c, (n2 : Nat)⟩ : OrV)], by omega, by go_num, P6, B6, by simp; omega, .inl ⟨by omega, by simp; have := HK.out; omega, HA⟩⟩
                            case measure => simp [intOf]; omega
                          · have FN : Hid (Od.goCut [] cuts = .inl (k, Od.fault (⟨(n0 : Nat), (n1 : Nat), c, (n2 : Nat)⟩ : OrV))) := (SOME.out _ OK.out).2.1 h6 hf
                            have hfb : (Od.fault (⟨(n0 : Nat), (n1 : Nat), c, (n2 : Nat)⟩ : OrV) == 0) = false := beq_eq_false_iff_ne.2 hf
                            generalize Od.fault (⟨(n0 : Nat), (n1 : Nat), c, (n2 : Nat)⟩ : OrV) = ff at *
                            go_wp2
                            go_ret3
                            exact ⟨_, _, _, [], rfl, (Oro.nil _ 0).l, PS.out k ff FN.out, Bg⟩
                · have n4b : (((R.length : Nat) : Int) == 4) = false := by rw [beq_eq_false_iff_ne]; omega
                  have NO : Hid (Od.ofWords (Tx.cut 32 x.data.toList) = none) := by
                    unfold Hid
                    rw [← CR.out]
                    obtain ⟨r, hR⟩ := list3 RA.out.1 RA.out.2.1 RA.out.2.2
                    rw [hR] at hr ⊢
                    match r, hr with
                    | [], _ => exact of4x Hu.out hc0
                    | [d], h => exact absurd rfl h
                    | d :: e :: r, _ => rfl
                  have FN : Hid (Od.goCut [] cuts = .inl (k, 2)) := NONE.out NO.out
                  go_wp2
                  go_ret3
                  exact ⟨_, _, _, [], rfl, (Oro.nil _ 0).l, PS.out k 2 FN.out, BWc⟩
    · subst hkn
      have BW : Hid (Below w.heap.size w wr) := B1.out.trans (B.out.mono B1.out.size)
      have PP : Hid (ParSays s.data.toList acc 0 0) := PR.out acc hgo
      clear hgo
      go_wp2
      go_ret3
      exact ⟨_, _, _, acc, rfl, O.out.l, PP, BW⟩
end Go.Proofs.YtkceccajamdbjaaDoor
