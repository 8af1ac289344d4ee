/- The reference: the digits of a number, as text. -/
import Derived.Test.YtdmpeagnbpdidaaDoorRkD
import Derived.Test.YtdmpeagnbpdidaaDoorObt
import Derived.Laws.IdiomStrings
import Derived.StillTactics
import Derived.Deep.LoopGhost
namespace Go.Proofs.YtdmpeagnbpdidaaDoor
open Go.RowKit Tx
set_option linter.unusedVariables false

/-- the digits, the last one first. -/
def rdig (n : Nat) : List UInt8 := if n = 0 then [] else (48 + n % 10).toUInt8 :: rdig (n / 10)
termination_by n
decreasing_by omega
theorem rdig_zero : rdig 0 = [] := by rw [rdig, if_pos rfl]
theorem rdig_pos {n : Nat} (h : n ≠ 0) : rdig n = (48 + n % 10).toUInt8 :: rdig (n / 10) := by rw [rdig, if_neg h]
theorem rdig_dig (n : Nat) (h : n ≠ 0) : (rdig n).reverse = dig n := by
  induction n using Nat.strongRecOn with
  | ind n ih =>
    rw [rdig_pos h, List.reverse_cons]
    by_cases h1 : n < 10
    · rw [show n / 10 = 0 by omega, rdig_zero, dig_small h1, show n % 10 = n by omega]
      rfl
    · rw [ih (n / 10) (by omega) (by omega), dig_big h1]
theorem rdig_len : ∀ (k n : Nat), n < 10 ^ k → (rdig n).length ≤ k
  | 0, n, h => by
    have : n = 0 := by simpa using h
    subst this
    rw [rdig_zero]
    simp
  | k + 1, n, h => by
    by_cases h0 : n = 0
    · subst h0; rw [rdig_zero]; simp
    · rw [rdig_pos h0, List.length_cons]
      have := rdig_len k (n / 10) (by rw [Nat.pow_succ] at h; omega)
      omega
theorem nrm_one {ds : List Int} {y : Nat} (h : Bg.Nrm ds) (hv : Bg.val ds = (y : Int)) (hy : y < 4294967296) : (y = 0 ∧ ds = []) ∨ (y ≠ 0 ∧ ds = [(y : Int)]) := by
  have hl := Bg.len_le ds h 1 (by rw [hv]; simp; omega)
  match ds, hl with
  | [], _ => left; simp [Bg.val] at hv; exact ⟨by omega, rfl⟩
  | [d], _ =>
    right
    have h1 : d = (y : Int) := by simpa [Bg.val] using hv
    have h2 := h.2 d rfl
    exact ⟨by rintro rfl; exact h2 h1, by rw [h1]⟩
theorem digit_byte (r : Nat) (h : r < 10) : (((48 + r).toUInt8).toNat : Int) = 48 + (r : Int) := by
  rw [sign_nat h]
  omega

theorem Ob.conv {w : World} {base g cap : Nat} {l : List UInt8} (h : Ob w base (.slice (some ⟨g, 0, none⟩) l.length cap) l) : (convert 54 9 (.slice (some ⟨g, 0, none⟩) l.length cap)).run Tryd.prog w = .ok (.string ⟨l.toArray⟩) w :=
  run_convert_bytes_back (P := Tryd.prog) w 54 9 5 ⟨g, 0, none⟩ cap l Tryd.underlying54 Tryd.underlying5 Tryd.underlying9 (fun j hj => by
    rw [Addr.add_lit, Nat.zero_add, World.ownsRow.cellAt h j (by omega)]
    simp [byteCells, List.getElem?_eq_getElem hj])
theorem Sl.far {w w' : World} {v : Value} {ds : List Int} {row : Option Nat} (h : Sl w v ds) (hg : w.grownBy w' row) (hne : ds ≠ [] → ∀ b n c, v = .slice (some ⟨b, 0, none⟩) n c → row ≠ some b) : Sl w' v ds := by
  rcases h with h | ⟨b, cap, h1, h2, h3, h4, h5⟩
  · exact .inl h
  · refine .inr ⟨b, cap, h1, h2, h3, Nat.lt_of_lt_of_le h4 hg.size, fun i d hd => ?_⟩
    have hn : ds ≠ [] := by rintro rfl; simp at hd
    rw [hg.cell_far ⟨b, i, none⟩ h4 (fun e => hne hn b _ _ h1 e.symm)]
    exact h5 i d hd

set_option maxRecDepth 100000 in
set_option maxHeartbeats 4000000 in
theorem text_any (z n : Nat) (w : World) (hn : n < 10000) (h : IntAt w z (n : Int)) :
    Calls Tryd.prog 53 #[.pointer (some ⟨z, 0, none⟩), .int .i64 10] w fun e w' => e = .returned (.string ⟨(dig n).toArray⟩) ∧ Below w.heap.size w w' := by
  obtain ⟨v, ds, h1, h2, h3, h4⟩ := h
  have q0 : w.cell? ⟨z, 0, none⟩ = some (.bool false) := by
    have e : decide ((n : Int) < 0) = false := decide_eq_false (by omega)
    rw [e] at h1
    simp [World.cell?, h1]
  have q1 : w.cell? ⟨z, 1, none⟩ = some v := by simp [World.cell?, h1]
  have hz : z < w.heap.size := lt_of_block h1
  rw [show ((n : Int).natAbs : Int) = (n : Int) by omega] at h4
  clear h1
  rcases nrm_one h3 h4 (by omega) with ⟨rfl, rfl⟩ | ⟨hn0, rfl⟩
  · obtain ⟨a, c, rfl⟩ : ∃ a c, v = .slice a 0 c := by
      rcases h2 with ⟨-, rfl⟩ | ⟨b, cap, rfl, -⟩
      · exact ⟨_, _, rfl⟩
      · exact ⟨_, _, rfl⟩
    go_enter Tryd.func53, Tryd.ntmps53
    go_wp2
    go_ret
    exact ⟨by rw [dig_small (by decide)]; rfl, Below.refl _ _⟩
  · have TW := twin_any v [(n : Int)] w h2 (by simp)
    have TW' : Hid (Calls Tryd.prog 68 #[v] w fun e w' => ∃ v', e = .returned v' ∧ Sl w' v' [(n : Int)] ∧ Below w.heap.size w w') := TW
    obtain ⟨a, c, rfl⟩ : ∃ a c, v = .slice a 1 c := by
      rcases h2 with ⟨h, -⟩ | ⟨b, cap, rfl, -⟩
      · cases h
      · exact ⟨_, _, rfl⟩
    have Q0 : Hid (w.cell? ⟨z, 0, none⟩ = some (.bool false)) := q0
    have Nn : Hid (Bg.Nrm [(n : Int)] ∧ Bg.val [(n : Int)] = (n : Int)) := ⟨h3, h4⟩
    clear h2 h3 h4 TW
    go_enter Tryd.func53, Tryd.ntmps53
    go_wp2_with fail
    refine TW'.out.mono ?_
    rintro e w1 ⟨v1, rfl, s1, b1⟩
    have S1 : Hid (Sl w1 v1 [(n : Int)]) := s1
    have B1 : Hid (Below w.heap.size w w1) := b1
    clear s1 b1 TW' q0 q1
    go_wp2_with fail
    go_loopg [5, 6, 7] n (fun gk v5 v6 v7 W' => ∃ (y : Nat) (bs : List UInt8) (ds : List Int), y ≤ gk ∧ y ≤ n ∧ bs ++ rdig y = rdig n ∧ (bs = [] → v5 = .slice none 0 0) ∧ Ob W' w.heap.size v5 bs ∧ Sl W' v6 ds ∧ Bg.Nrm ds ∧ Bg.val ds = (y : Int) ∧ Below w.heap.size w W')
    case atStart => exact ⟨n, [], [(n : Int)], Nat.le_refl _, Nat.le_refl _, rfl, fun _ => rfl, Ob.nil _ _, S1, Nn.out.1, Nn.out.2, B1⟩
    case round =>
      obtain ⟨y, bs, ds, hy, hyn', hbs, hnil, ho, hs, hnr, hv, hb⟩ := hrel
      have O : Hid (Ob wr w.heap.size u5 bs) := ho
      have B : Hid (Below w.heap.size w wr) := hb
      have Hbs : Hid (bs ++ rdig y = rdig n) := hbs
      have Lb : Hid (bs.length ≤ 4) := by
        have h1 := rdig_len 4 n (by omega)
        rw [← hbs, List.length_append] at h1
        unfold Hid
        omega
      obtain ⟨a5, c5, e5⟩ := ho.len
      subst e5
      have hyn : y < 10000 := by omega
      have Nil : Hid (bs = [] → Value.slice a5 bs.length c5 = .slice none 0 0) := hnil
      clear ho hb hbs hnil
      rcases nrm_one hnr hv (by omega) with ⟨rfl, rfl⟩ | ⟨hy0, rfl⟩
      · -- all digits have come
        have RB : Hid (bs = rdig n) := by
          have := Hbs.out
          rw [rdig_zero, List.append_nil] at this
          exact this
        have DG : Hid (dig n = bs.reverse) := by
          unfold Hid
          rw [RB.out, rdig_dig n hn0]
        obtain ⟨a6, c6, rfl⟩ : ∃ a6 c6, u6 = .slice a6 0 c6 := by
          rcases hs with ⟨-, rfl⟩ | ⟨b, cap, rfl, -⟩
          · exact ⟨_, _, rfl⟩
          · exact ⟨_, _, rfl⟩
        have hb0 : bs ≠ [] := by
          rw [RB.out, rdig_pos hn0]
          simp
        obtain ⟨g, cap, e5, hc⟩ := O.out.text (List.length_pos_iff.2 hb0)
        injection e5 with e51 e52 e53
        subst e51 e53
        have hf : ∀ i, wr.frozen? ⟨g, i, none⟩ = false := fun i => World.ownsRow.frozenAt O.out i
        have q0 : wr.cell? ⟨z, 0, none⟩ = some (.bool false) := by rw [B.out.cell (p := ⟨z, 0, none⟩) hz]; exact Q0.out
        have hgw : w.heap.size ≤ g := (O.out.block g rfl).1
        clear hs hnr hv Hbs RB Nil e52
        match bs, Lb.out, hb0, hc, DG, O.out with
        | [x0], _, _, hc, DG, O =>
          have y0 : wr.cell? ⟨g, 0, none⟩ = some (.int .u8 (x0.toNat : Nat)) := by have := hc 0 (by simp); simpa [Addr.add] using this
          have f0 := hf 0
          have hcv := Ob.conv (show Ob wr w.heap.size (.slice (some ⟨g, 0, none⟩) 1 c5) [x0] from O)
          simp only [List.length_cons, List.length_nil, Nat.zero_add] at hcv ⊢
          clear hc hf O
          go_wp2
          refine wp_loop_rounds 1 ?_
          rw [rounds_succ]
          go_wp2
          go_ret
          exact ⟨by rw [DG.out]; rfl, B.out⟩
        | [x0, x1], _, _, hc, DG, O =>
          have y0 : wr.cell? ⟨g, 0, none⟩ = some (.int .u8 (x0.toNat : Nat)) := by have := hc 0 (by simp); simpa [Addr.add] using this
          have f0 := hf 0
          have y1 : wr.cell? ⟨g, 1, none⟩ = some (.int .u8 (x1.toNat : Nat)) := by have := hc 1 (by simp); simpa [Addr.add] using this
          have f1 := hf 1
          have hcv := Ob.conv (show Ob ((wr.setCell ⟨g, 0, none⟩ (.int .u8 (x1.toNat : Nat))).setCell ⟨g, 1, none⟩ (.int .u8 (x0.toNat : Nat))) w.heap.size (.slice (some ⟨g, 0, none⟩) 2 c5) [x1, x0] from (World.ownsRow.stored (World.ownsRow.stored O 0 (.int .u8 (x1.toNat : Nat))).1 1 (.int .u8 (x0.toNat : Nat))).1)
          simp only [List.length_cons, List.length_nil, Nat.zero_add, Nat.reduceAdd] at hcv ⊢
          clear hc hf O
          go_wp2
          refine wp_loop_rounds 2 ?_
          rw [rounds_succ]
          go_wp2
          rw [rounds_succ]
          go_wp2
          go_ret
          exact ⟨by rw [DG.out]; rfl, ((B.out.setCell (p := ⟨g, 0, none⟩) hgw _).setCell (p := ⟨g, 1, none⟩) hgw _)⟩
        | [x0, x1, x2], _, _, hc, DG, O =>
          have y0 : wr.cell? ⟨g, 0, none⟩ = some (.int .u8 (x0.toNat : Nat)) := by have := hc 0 (by simp); simpa [Addr.add] using this
          have f0 := hf 0
          have y1 : wr.cell? ⟨g, 1, none⟩ = some (.int .u8 (x1.toNat : Nat)) := by have := hc 1 (by simp); simpa [Addr.add] using this
          have f1 := hf 1
          have y2 : wr.cell? ⟨g, 2, none⟩ = some (.int .u8 (x2.toNat : Nat)) := by have := hc 2 (by simp); simpa [Addr.add] using this
          have f2 := hf 2
          have hcv := Ob.conv (show Ob ((wr.setCell ⟨g, 0, none⟩ (.int .u8 (x2.toNat : Nat))).setCell ⟨g, 2, none⟩ (.int .u8 (x0.toNat : Nat))) w.heap.size (.slice (some ⟨g, 0, none⟩) 3 c5) [x2, x1, x0] from (World.ownsRow.stored (World.ownsRow.stored O 0 (.int .u8 (x2.toNat : Nat))).1 2 (.int .u8 (x0.toNat : Nat))).1)
          simp only [List.length_cons, List.length_nil, Nat.zero_add, Nat.reduceAdd] at hcv ⊢
          clear hc hf O
          go_wp2
          refine wp_loop_rounds 2 ?_
          rw [rounds_succ]
          go_wp2
          rw [rounds_succ]
          go_wp2
          go_ret
          exact ⟨by rw [DG.out]; rfl, ((B.out.setCell (p := ⟨g, 0, none⟩) hgw _).setCell (p := ⟨g, 2, none⟩) hgw _)⟩
        | [x0, x1, x2, x3], _, _, hc, DG, O =>
          have y0 : wr.cell? ⟨g, 0, none⟩ = some (.int .u8 (x0.toNat : Nat)) := by have := hc 0 (by simp); simpa [Addr.add] using this
          have f0 := hf 0
          have y1 : wr.cell? ⟨g, 1, none⟩ = some (.int .u8 (x1.toNat : Nat)) := by have := hc 1 (by simp); simpa [Addr.add] using this
          have f1 := hf 1
          have y2 : wr.cell? ⟨g, 2, none⟩ = some (.int .u8 (x2.toNat : Nat)) := by have := hc 2 (by simp); simpa [Addr.add] using this
          have f2 := hf 2
          have y3 : wr.cell? ⟨g, 3, none⟩ = some (.int .u8 (x3.toNat : Nat)) := by have := hc 3 (by simp); simpa [Addr.add] using this
          have f3 := hf 3
          have hcv := Ob.conv (show Ob ((((wr.setCell ⟨g, 0, none⟩ (.int .u8 (x3.toNat : Nat))).setCell ⟨g, 3, none⟩ (.int .u8 (x0.toNat : Nat))).setCell ⟨g, 1, none⟩ (.int .u8 (x2.toNat : Nat))).setCell ⟨g, 2, none⟩ (.int .u8 (x1.toNat : Nat))) w.heap.size (.slice (some ⟨g, 0, none⟩) 4 c5) [x3, x2, x1, x0] from (World.ownsRow.stored (World.ownsRow.stored (World.ownsRow.stored (World.ownsRow.stored O 0 (.int .u8 (x3.toNat : Nat))).1 3 (.int .u8 (x0.toNat : Nat))).1 1 (.int .u8 (x2.toNat : Nat))).1 2 (.int .u8 (x1.toNat : Nat))).1)
          simp only [List.length_cons, List.length_nil, Nat.zero_add, Nat.reduceAdd] at hcv ⊢
          clear hc hf O
          go_wp2
          refine wp_loop_rounds 3 ?_
          rw [rounds_succ]
          go_wp2
          rw [rounds_succ]
          go_wp2
          rw [rounds_succ]
          go_wp2
          go_ret
          exact ⟨by rw [DG.out]; rfl, ((((B.out.setCell (p := ⟨g, 0, none⟩) hgw _).setCell (p := ⟨g, 3, none⟩) hgw _).setCell (p := ⟨g, 1, none⟩) hgw _).setCell (p := ⟨g, 2, none⟩) hgw _)⟩
      · obtain ⟨b, cap, rfl, c1, c2, c3, c4⟩ : ∃ b cap, u6 = .slice (some ⟨b, 0, none⟩) 1 cap ∧ 1 ≤ cap ∧ cap ≤ 9223372036854775807 ∧ b < wr.heap.size ∧ wr.cell? ⟨b, 0, none⟩ = some (.int .u32 (y : Nat)) := by
          rcases hs with ⟨h, -⟩ | ⟨b, cap, rfl, c1, c2, c3, c4⟩
          · cases h
          · exact ⟨b, cap, rfl, c1, c2, c3, c4 0 _ rfl⟩
        have SM := small_one b cap y wr (by omega) c3 c4
        have SM' : Hid (Calls Tryd.prog 69 #[.slice (some ⟨b, 0, none⟩) 1 cap, .int .u32 10] wr fun e w' => ∃ v ds, e = .returned (.tuple #[v, .int .u32 ((y % 10 : Nat) : Int)]) ∧ Sl w' v ds ∧ Bg.Nrm ds ∧ Bg.val ds = ((y / 10 : Nat) : Int) ∧ Below wr.heap.size wr w') := SM
        have Rd : Hid (rdig y = (48 + y % 10).toUInt8 :: rdig (y / 10)) := rdig_pos hy0
        have Db : Hid ((((48 + y % 10).toUInt8).toNat : Int) = 48 + ((y % 10 : Nat) : Int)) := digit_byte _ (by omega)
        have hr : y % 10 < 10 := by omega
        obtain ⟨r, er⟩ : ∃ r, y % 10 = r := ⟨_, rfl⟩
        rw [er] at SM' Rd Db hr
        obtain ⟨dB, hdB⟩ : ∃ dB, (48 + r).toUInt8 = dB := ⟨_, rfl⟩
        rw [hdB] at Rd Db
        clear SM hs hnr hv c4 er hdB
        go_wp2_with fail
        refine SM'.out.mono ?_
        rintro e w2 ⟨v2, ds2, rfl, s2, n2, hv2, b2⟩
        have S2 : Hid (Sl w2 v2 ds2 ∧ Bg.Nrm ds2 ∧ Bg.val ds2 = ((y / 10 : Nat) : Int)) := ⟨s2, n2, hv2⟩
        have O2 : Hid (Ob w2 w.heap.size (.slice a5 bs.length c5) bs) := World.ownsRow.kept O.out (row := none) ⟨b2.os, b2.tape, b2.output, b2.size, fun k hk _ => b2.block k hk⟩ (by cases (Value.slice a5 bs.length c5).ownBlock <;> simp)
        have B2 : Hid (Below w.heap.size w w2) := B.out.trans (b2.mono B.out.size)
        clear s2 n2 hv2 b2 SM'
        go_wp2_with (at_builtin; refine app_byte _ rfl _ _ rfl w.heap.size _ bs rfl (O2.out.alloc _) ⟨w2.heap.size, 0, none⟩ dB rfl (by rw [Db.out]; simp) (by have := Lb.out; omega) (by have := B2.out.size; simp; omega) ?_)
        intro g cap3 w3 o3 g3 l3
        have O3 : Hid (Ob w3 w.heap.size (.slice (some ⟨g, 0, none⟩) (bs.length + 1) cap3) (bs ++ [dB])) := o3
        have B3 : Hid (Below w.heap.size w w3) := (B2.out.alloc B2.out.size _).grown g3 (by have := B2.out.size; simp; omega) (fun k hk => (O2.out.block k hk).1)
        have S3 : Hid (Sl w3 v2 ds2) := by
          refine Sl.far (S2.out.1.below ((Below.refl _ _).alloc (Nat.le_refl _) (Obj.cells #[.int .u8 (48 + (r : Int))] 5))) g3 (fun hne b2 n2 c2 hv2 hrow => ?_)
          subst hv2
          have h9 : bs ≠ [] := by
            intro hb0
            rw [Nil.out hb0] at hrow
            cases hrow
          obtain ⟨g9, cap9, e9, hc9⟩ := O2.out.text (List.length_pos_iff.2 h9)
          rw [e9] at hrow
          have hg9 : g9 = b2 := by simpa [Value.ownBlock] using hrow
          subst hg9
          rcases S2.out.1 with ⟨h, -⟩ | ⟨b3, cap4, e3, -, -, -, h5⟩
          · exact hne h
          · injection e3 with e31
            injection e31 with e31
            injection e31 with e31
            subst e31
            obtain ⟨d, hd⟩ : ∃ d, ds2[0]? = some d := by
              cases ds2 with
              | nil => exact absurd rfl hne
              | cons d ds => exact ⟨d, rfl⟩
            have h6 := h5 0 d hd
            have h7 := hc9 0 (List.length_pos_iff.2 h9)
            rw [Addr.add_lit, Nat.zero_add, h6] at h7
            cases h7
        have Hbs3 : Hid ((bs ++ [dB]) ++ rdig (y / 10) = rdig n) := by
          unfold Hid
          rw [← Hbs.out, Rd.out]
          simp
        clear o3 g3 l3
        go_wp2
        go_roundg (y / 10)
        case measure => omega
        case rel => exact ⟨y / 10, bs ++ [dB], ds2, Nat.le_refl _, by omega, Hbs3, fun h => absurd h (by simp), O3, S3, S2.out.2.1, S2.out.2.2, B3⟩

set_option maxHeartbeats 400000 in
theorem ref_digits (n : Nat) (w : World) (hn : n < 10000) :
    Calls Tryd.prog 20 #[.int .i64 (n : Nat)] w fun e w' => e = .returned (.string ⟨(dig n).toArray⟩) ∧ Below w.heap.size w w' := by
  go_enter Tryd.func20, Tryd.ntmps20
  go_wp2_with fail
  refine (big_int (n : Int) _ (by omega) (by omega)).mono ?_
  rintro e w1 ⟨rfl, hi, hb, hl⟩
  have Hi : Hid (IntAt w1 w.heap.size (n : Int)) := hi
  have Hb : Hid (Below w.heap.size w w1) := hb
  have TX : Hid (Calls Tryd.prog 34 #[.pointer (some ⟨w.heap.size, 0, none⟩)] w1 fun e w' => e = .returned (.string ⟨(dig n).toArray⟩) ∧ Below w1.heap.size w1 w') := by
    have T1 : Hid (Calls Tryd.prog 53 #[.pointer (some ⟨w.heap.size, 0, none⟩), .int .i64 10] w1 fun e w' => e = .returned (.string ⟨(dig n).toArray⟩) ∧ Below w1.heap.size w1 w') := text_any w.heap.size n w1 hn hi
    clear hi hb hl Hi Hb
    unfold Hid
    go_enter Tryd.func34, Tryd.ntmps34
    go_wp2_with fail
    refine T1.out.mono ?_
    rintro e w2 ⟨rfl, b2⟩
    have B2 : Hid (Below w1.heap.size w1 w2) := b2
    clear b2
    go_wp2
    go_ret
    exact ⟨rfl, B2⟩
  clear hi hb hl
  go_wp2_with fail
  refine TX.out.mono ?_
  rintro e w2 ⟨rfl, b2⟩
  have B2 : Hid (Below w.heap.size w w2) := Hb.out.trans (b2.mono Hb.out.size)
  clear b2
  go_wp2
  go_ret
  exact ⟨rfl, B2⟩
end Go.Proofs.YtdmpeagnbpdidaaDoor
