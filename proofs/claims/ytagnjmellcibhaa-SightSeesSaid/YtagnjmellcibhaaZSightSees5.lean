/- A block of integers that may be written. · Lists of bools: what a slice holds; a block of them that may be written; make([]bool, n). · sight.checkPlayer, seen, Seen, Seers. · Sight: who sees where it is: plain mathematics. · world.checkPlace. · world.Place. · slices.Repeat, of a list of one. · world.New. · Fields as texts: plain mathematics. · A fact's kinds, and its small world. Plain mathematics. · Fields: what a sign stands for. · Fields: a field as far as its text is read. -/
import Derived.Test.YtagnjmellcibhaaZSightSees1
import Derived.OwnWalk
import Derived.Test.YtagnjmellcibhaaZSightSees2
import Derived.Laws.MakeOwn
import Derived.Test.YtagnjmellcibhaaZSightSees4
import Derived.Test.YtagnjmellcibhaaZSightSees3
import Derived.Laws.CopyRow
import Derived.Lib.Strings
import Derived.Lib.Bytealg
import Derived.Laws.Pointers
namespace Go.Proofs.Ytagnjmellcibhaa
open Go.RowKit

def intCells (ds : List Int) : List Value := ds.map fun d => .int .i64 d

/-- block b holds the integers ds, and some cells behind. -/
def Bk (w : World) (b : Nat) (ds : List Int) (r : Array Value) : Prop := w.heap[b]? = some (.cells ((intCells ds).toArray ++ r) 3 (0, 0))

theorem Bk.cell {w : World} {b : Nat} {ds : List Int} {r : Array Value} (h : Bk w b ds r) {i : Nat} {d : Int} (hd : ds[i]? = some d) : w.cell? ⟨b, i, none⟩ = some (.int .i64 d) := by
  have hi : i < ds.length := (List.getElem?_eq_some_iff.1 hd).1
  unfold Bk at h
  simp only [World.cell?, h]
  simp [intCells, Array.getElem?_append, hi]
  exact (List.getElem?_eq_some_iff.1 hd).2
theorem Bk.thaw {w : World} {b : Nat} {ds : List Int} {r : Array Value} (h : Bk w b ds r) (i : Nat) : w.frozen? ⟨b, i, none⟩ = false := by
  unfold Bk at h
  simp [World.frozen?, h]
theorem Bk.set {w : World} {b : Nat} {ds : List Int} {r : Array Value} (h : Bk w b ds r) (i : Nat) (d : Int) (hi : i < ds.length) : Bk (w.setCell ⟨b, i, none⟩ (.int .i64 d)) b (ds.set i d) r := by
  unfold Bk at *
  rw [heap_setCell_same w b i _ _ _ h]
  have e : (intCells (ds.set i d)).toArray = (intCells ds).toArray.setIfInBounds i (.int .i64 d) := by
    simp [intCells, List.map_set]
  rw [e]
  have hl : i < (intCells ds).toArray.size := by simpa [intCells] using hi
  rw [Array.setIfInBounds_append_left hl]
theorem Bk.drewN {w : World} {b : Nat} {ds : List Int} {r : Array Value} (h : Bk w b ds r) (n : Nat) : Bk (w.drewN n) b ds r := h
theorem Bk.kp {w w' : World} {b z : Nat} {ds : List Int} {r : Array Value} (h : Bk w b ds r) (hk : Kp z w w') (hne : b ≠ z) : Bk w' b ds r := by
  unfold Bk at *
  rw [hk.block b (lt_of_block h) hne]; exact h
theorem Bk.below {w w' : World} {b : Nat} {ds : List Int} {r : Array Value} (h : Bk w b ds r) (hb : Below w.heap.size w w') : Bk w' b ds r := by
  unfold Bk at *
  rw [hb.block b (lt_of_block h)]; exact h
theorem Bk.lt {w : World} {b : Nat} {ds : List Int} {r : Array Value} (h : Bk w b ds r) : b < w.heap.size := lt_of_block h
theorem Bk.ro {w : World} {b c : Nat} {ds : List Int} {r : Array Value} (h : Bk w b ds r) (h1 : ds.length ≤ c) (h2 : c ≤ 9223372036854775807) : Ro w (.slice (some ⟨b, 0, none⟩) ds.length c) ds :=
  ⟨_, c, rfl, h1, h2, fun _ => ⟨_, rfl, h.lt, fun i d hd => by rw [Addr.add_lit, Nat.zero_add]; exact h.cell hd⟩⟩
/-- another cell, another block. -/
theorem Bk.other {w : World} {b : Nat} {ds : List Int} {r : Array Value} (h : Bk w b ds r) {g : Nat} (hne : b ≠ g) (i : Nat) (u : Value) : Bk (w.setCell ⟨g, i, none⟩ u) b ds r := by
  unfold Bk at *
  rw [Below.heap_setCell _ _ _ _ hne]; exact h
theorem Bk.low {w w' : World} {b B : Nat} {ds : List Int} {r : Array Value} (h : Bk w b ds r) (hb : Below B w w') (hB : b < B) : Bk w' b ds r := by
  unfold Bk at *
  rw [hb.block b hB]; exact h
end Go.Proofs.Ytagnjmellcibhaa

namespace Go.Proofs.Ytagnjmellcibhaa
open Go.RowKit
set_option linter.unusedVariables false

/-- v is a slice of the bools xs. -/
def Bl (w : World) (v : Value) (xs : List Bool) : Prop := ∃ (a : Option Addr) (c : Nat), v = .slice a xs.length c ∧ xs.length ≤ c ∧ c ≤ 9223372036854775807 ∧ (xs ≠ [] → ∃ x, a = some x ∧ x.block < w.heap.size ∧ ∀ i d, xs[i]? = some d → w.cell? (x.add i) = some (.bool d))
theorem Bl.below {w w' : World} {v : Value} {xs : List Bool} (h : Bl w v xs) (hb : Below w.heap.size w w') : Bl w' v xs := by
  obtain ⟨a, c, h1, h2, h3, h4⟩ := h
  refine ⟨a, c, h1, h2, h3, fun hx => ?_⟩
  obtain ⟨x, ha, hl, hc⟩ := h4 hx
  refine ⟨x, ha, Nat.lt_of_lt_of_le hl hb.size, fun i d hd => ?_⟩
  rw [hb.cell (p := x.add i) (by rw [add_block]; exact hl)]
  exact hc i d hd
theorem Bl.nil (w : World) : Bl w (.slice none 0 0) [] := ⟨none, 0, rfl, Nat.le_refl _, by omega, fun h => absurd rfl h⟩
theorem Bl.len {w : World} {v : Value} {xs : List Bool} (h : Bl w v xs) : ∃ a c, v = .slice a xs.length c := by
  obtain ⟨a, c, h, -⟩ := h
  exact ⟨a, c, h⟩
def boolCells (ds : List Bool) : List Value := ds.map fun d => .bool d
/-- block b holds the bools ds. -/
def Bb (w : World) (b : Nat) (ds : List Bool) : Prop := w.heap[b]? = some (.cells (boolCells ds).toArray 4 (0, 0))
theorem Bb.cell {w : World} {b : Nat} {ds : List Bool} (h : Bb w b ds) {i : Nat} {d : Bool} (hd : ds[i]? = some d) : w.cell? ⟨b, i, none⟩ = some (.bool d) := by
  have hi : i < ds.length := (List.getElem?_eq_some_iff.1 hd).1
  unfold Bb at h
  simp only [World.cell?, h]
  simp [boolCells, hi]
  exact (List.getElem?_eq_some_iff.1 hd).2
theorem Bb.thaw {w : World} {b : Nat} {ds : List Bool} (h : Bb w b ds) (i : Nat) : w.frozen? ⟨b, i, none⟩ = false := by
  unfold Bb at h
  simp [World.frozen?, h]
theorem Bb.set {w : World} {b : Nat} {ds : List Bool} (h : Bb w b ds) (i : Nat) (d : Bool) : Bb (w.setCell ⟨b, i, none⟩ (.bool d)) b (ds.set i d) := by
  unfold Bb at *
  rw [heap_setCell_same w b i _ _ _ h]
  have e : (boolCells (ds.set i d)).toArray = (boolCells ds).toArray.setIfInBounds i (.bool d) := by
    simp [boolCells, List.map_set]
  rw [e]
theorem Bb.lt {w : World} {b : Nat} {ds : List Bool} (h : Bb w b ds) : b < w.heap.size := lt_of_block h
theorem Bb.low {w w' : World} {b B : Nat} {ds : List Bool} (h : Bb w b ds) (hb : Below B w w') (hB : b < B) : Bb w' b ds := by
  unfold Bb at *
  rw [hb.block b hB]; exact h
theorem Bb.bl {w : World} {b c : Nat} {ds : List Bool} (h : Bb w b ds) (h1 : ds.length ≤ c) (h2 : c ≤ 9223372036854775807) : Bl w (.slice (some ⟨b, 0, none⟩) ds.length c) ds :=
  ⟨_, c, rfl, h1, h2, fun _ => ⟨_, rfl, h.lt, fun i d hd => by rw [Addr.add_lit, Nat.zero_add]; exact h.cell hd⟩⟩
theorem info_bool : (Try.prog.info? 4).map (fun i => (i.zero, i.size, i.bytes)) = some (some (.bool false), 1, 1) := by kernel_rfl
theorem made_bools (n : Nat) : madeCells #[Value.bool false] n = (boolCells (List.replicate n false)).toArray := by
  apply Array.ext_getElem?
  intro i
  unfold madeCells boolCells
  by_cases h : i < n
  · simp [h, Nat.mod_one]
  · simp [h]
theorem makeB (n : Nat) (w : World) (h : n ≤ 1000000) : ∃ w', (Instr.makeSlice 37 (.int .i64 (n : Nat)) (.int .i64 (n : Nat))).run Try.prog w = .ok (.slice (some ⟨w.heap.size, 0, none⟩) n n) w' ∧ Bb w' w.heap.size (List.replicate n false) ∧ Below w.heap.size w w' ∧ w'.heap.size = w.heap.size + 1 := by
  obtain ⟨i0, hi, hz0, hz1, hz2⟩ := info_parts info_bool
  have hr := run_make (P := Try.prog) w 37 4 i0 (.bool false) Try.underlying37 hi hz0 .i64 .i64 (n : Nat) (n : Nat) (by omega) (Int.le_refl _) (by rw [hz2]; omega) (by omega)
  refine ⟨_, hr, ?_, (Below.refl _ _).alloc (Nat.le_refl _) _, by simp⟩
  unfold Bb
  rw [hz1, Int.toNat_natCast, Nat.mul_one, heap_alloc_new]
  have e : (Value.bool false).cells = #[Value.bool false] := rfl
  rw [e, made_bools]
end Go.Proofs.Ytagnjmellcibhaa

namespace Go.Proofs.Ytagnjmellcibhaa
open Go.RowKit
set_option linter.unusedVariables false

/-- what is wrong with a world, or a player of it. -/
def pfault (ks : List KV) (X : WV) (p : Int) : Int := if Wd.wfault ks X = 0 then (if 0 ≤ p ∧ p < (X.gold.length : Int) then 0 else 1) else Wd.wfault ks X
/-- what is wrong with a world, or a cell of it. -/
def cfault (ks : List KV) (X : WV) (c : Int) : Int := if Wd.wfault ks X = 0 then (if 0 ≤ c ∧ c < (X.gs.length : Int) then 0 else 6) else Wd.wfault ks X
theorem pfault_zero {ks : List KV} {X : WV} {p : Int} (h : pfault ks X p = 0) : Wd.wfault ks X = 0 ∧ 0 ≤ p ∧ p < (X.gold.length : Int) := by
  unfold pfault at h
  split at h
  · rename_i h1
    split at h
    · rename_i h2; exact ⟨h1, h2⟩
    · cases h
  · rename_i h1; exact absurd h h1
theorem cfault_zero {ks : List KV} {X : WV} {c : Int} (h : cfault ks X c = 0) : Wd.wfault ks X = 0 ∧ 0 ≤ c ∧ c < (X.gs.length : Int) := by
  unfold cfault at h
  split at h
  · rename_i h1
    split at h
    · rename_i h2; exact ⟨h1, h2⟩
    · cases h
  · rename_i h1; exact absurd h h1
/-- what is seen of the first cells. -/
def seenUp (ks : List KV) (W : Nat) (X : WV) (p : Int) (n : Nat) : List Bool := (List.range X.gs.length).map (fun i => decide (i < n) && seesP ks W X.gs X.us p i)
theorem seenUp_len (ks : List KV) (W : Nat) (X : WV) (p : Int) (n : Nat) : (seenUp ks W X p n).length = X.gs.length := by unfold seenUp; simp
theorem seenUp_zero (ks : List KV) (W : Nat) (X : WV) (p : Int) : seenUp ks W X p 0 = List.replicate X.gs.length false := by
  unfold seenUp
  apply List.ext_getElem
  · simp
  · intro i h1 h2
    simp
theorem seenUp_all (ks : List KV) (W : Nat) (X : WV) (p : Int) : seenUp ks W X p X.gs.length = seenL ks W X p := by
  unfold seenUp seenL
  apply List.map_congr_left
  intro i hi
  simp [List.mem_range.1 hi]
theorem seenUp_next (ks : List KV) (W : Nat) (X : WV) (p : Int) (n : Nat) : seenUp ks W X p (n + 1) = (seenUp ks W X p n).set n (seesP ks W X.gs X.us p n) := by
  unfold seenUp
  apply List.ext_getElem
  · simp
  · intro i h1 h2
    rw [List.getElem_set]
    simp only [List.getElem_map, List.getElem_range]
    by_cases e : n = i
    · subst e; simp
    · rw [if_neg e]
      have : decide (i < n + 1) = decide (i < n) := decide_eq_decide.2 (by omega)
      rw [this]

set_option maxRecDepth 100000 in
set_option maxHeartbeats 4000000 in
theorem checkPlayer_any (vk vw : Value) (ks : List KV) (X : WV) (p : Int) (w : World) (hk : Kl w vk ks) (hb : ∀ k ∈ ks, k.b.size ≤ 9223372036854775807) (hw : Wl w vw X) :
    Calls Try.prog 20 #[vk, vw, .int .i64 p] w fun e w' => ∃ r, e = .returned r ∧ Er r (pfault ks X p) ∧ Below w.heap.size w w' := by
  have K : Hid (Kl w vk ks ∧ ∀ k ∈ ks, k.b.size ≤ 9223372036854775807) := ⟨hk, hb⟩
  have H : Hid (Wl w vw X) := hw
  obtain ⟨p1, q1, p2, q2, p3, q3, p4, q4, p5, q5, rfl⟩ := wl_shape9 hw
  obtain ⟨pk, qk, rfl, -⟩ := hk
  clear hb hw
  have B0 : Hid (Below w.heap.size w (w.alloc (Obj.cells #[.int .i64 X.turn, .int .i64 X.next, .int .i64 X.wide, .int .i64 X.high, .slice p1 X.gs.length q1, .slice p2 X.os.length q2, .slice p3 X.gold.length q3, .slice p4 X.us.length q4, .slice p5 X.qs.length q5] 29))) := (Below.refl _ _).alloc (Nat.le_refl _) _
  have X0 : Hid (Bw (w.alloc (Obj.cells #[.int .i64 X.turn, .int .i64 X.next, .int .i64 X.wide, .int .i64 X.high, .slice p1 X.gs.length q1, .slice p2 X.os.length q2, .slice p3 X.gold.length q3, .slice p4 X.us.length q4, .slice p5 X.qs.length q5] 29)) w.heap.size X (.slice p1 X.gs.length q1) (.slice p2 X.os.length q2) (.slice p3 X.gold.length q3) (.slice p4 X.us.length q4) (.slice p5 X.qs.length q5)) := Bw.mk' X _ _ _ _ _ rfl
  go_enter Try.func20, Try.ntmps20
  go_upto_region 1 with fail
  generalize (w.alloc (Obj.cells #[.int .i64 X.turn, .int .i64 X.next, .int .i64 X.wide, .int .i64 X.high, .slice p1 X.gs.length q1, .slice p2 X.os.length q2, .slice p3 X.gold.length q3, .slice p4 X.us.length q4, .slice p5 X.qs.length q5] 29)) = w0 at *
  obtain ⟨x0, x1, x2, x3, x4, x5, x6, x7, x8⟩ := X0.out
  go_wp2_with fail
  refine (wcheck_any _ _ ks X w0 (K.out.1.below B0.out) K.out.2 (H.out.below B0.out)).mono ?_
  rintro e w1 ⟨r, rfl, hr, hb⟩
  obtain ⟨fw, hfw⟩ : ∃ f, Wd.wfault ks X = f := ⟨_, rfl⟩
  have FW : Hid (Wd.wfault ks X = fw) := hfw
  rw [hfw] at hr
  have B1 : Hid (Below w.heap.size w w1) := B0.out.trans (hb.mono B0.out.size)
  have X1 : Hid (Bw w1 w.heap.size X (.slice p1 X.gs.length q1) (.slice p2 X.os.length q2) (.slice p3 X.gold.length q3) (.slice p4 X.us.length q4) (.slice p5 X.qs.length q5)) := X0.out.below hb X0.out.lt
  clear hb hfw x0 x1 x2 x3 x4 x5 x6 x7 x8 X0 B0
  rcases hr with ⟨rfl, rfl⟩ | ⟨hf, rfl⟩
  case inr =>
    have HF : Hid (fw ≠ 0) := hf
    clear hf
    have PF : Hid (pfault ks X p = fw) := by unfold Hid pfault; rw [FW.out, if_neg HF.out]
    go_wp2
    go_ret
    exact ⟨_, rfl, by rw [PF.out]; exact Er.no HF.out, B1.out⟩
  obtain ⟨x0, x1, x2, x3, x4, x5, x6, x7, x8⟩ := X1.out
  by_cases hi0 : p < 0
  · have PF : Hid (pfault ks X p = 1) := by unfold Hid pfault; rw [FW.out, if_pos rfl, if_neg (by omega)]
    go_wp2
    go_ret
    exact ⟨_, rfl, by rw [PF.out]; exact Er.no (by decide), B1.out⟩
  by_cases hi1 : (X.gold.length : Int) ≤ p
  · have PF : Hid (pfault ks X p = 1) := by unfold Hid pfault; rw [FW.out, if_pos rfl, if_neg (by omega)]
    go_wp2
    go_ret
    exact ⟨_, rfl, by rw [PF.out]; exact Er.no (by decide), B1.out⟩
  have PF : Hid (pfault ks X p = 0) := by unfold Hid pfault; rw [FW.out, if_pos rfl, if_pos (by omega)]
  go_wp2
  go_ret
  exact ⟨_, rfl, by rw [PF.out]; exact Er.nil, B1.out⟩

set_option maxRecDepth 100000 in
set_option maxHeartbeats 4000000 in
theorem seen_any (vk vw : Value) (ks : List KV) (X : WV) (p : Int) (Wn : Nat) (w : World) (WR : WRight ks X) (hww : X.wide = (Wn : Nat)) (hk : Kl w vk ks) (hb : ∀ k ∈ ks, k.b.size ≤ 9223372036854775807) (hw : Wl w vw X) :
    Calls Try.prog 21 #[vk, vw, .int .i64 p] w fun e w' => ∃ b, e = .returned (.slice (some ⟨b, 0, none⟩) X.gs.length X.gs.length) ∧ Bb w' b (seenL ks Wn X p) ∧ w.heap.size < b ∧ Below w.heap.size w w' := by
  have HR : Hid (WRight ks X ∧ X.wide = (Wn : Nat)) := ⟨WR, hww⟩
  have GL : X.gs.length ≤ 144 := by obtain ⟨_, _, -, -, G⟩ := WR.good; rw [G.gl]; exact G.pos.2
  clear WR hww
  have K : Hid (Kl w vk ks ∧ ∀ k ∈ ks, k.b.size ≤ 9223372036854775807) := ⟨hk, hb⟩
  have H : Hid (Wl w vw X) := hw
  obtain ⟨p1, q1, p2, q2, p3, q3, p4, q4, p5, q5, rfl⟩ := wl_shape9 hw
  obtain ⟨pk, qk, rfl, -⟩ := hk
  clear hb hw
  have B0 : Hid (Below w.heap.size w (w.alloc (Obj.cells #[.int .i64 X.turn, .int .i64 X.next, .int .i64 X.wide, .int .i64 X.high, .slice p1 X.gs.length q1, .slice p2 X.os.length q2, .slice p3 X.gold.length q3, .slice p4 X.us.length q4, .slice p5 X.qs.length q5] 29))) := (Below.refl _ _).alloc (Nat.le_refl _) _
  have X0 : Hid (Bw (w.alloc (Obj.cells #[.int .i64 X.turn, .int .i64 X.next, .int .i64 X.wide, .int .i64 X.high, .slice p1 X.gs.length q1, .slice p2 X.os.length q2, .slice p3 X.gold.length q3, .slice p4 X.us.length q4, .slice p5 X.qs.length q5] 29)) w.heap.size X (.slice p1 X.gs.length q1) (.slice p2 X.os.length q2) (.slice p3 X.gold.length q3) (.slice p4 X.us.length q4) (.slice p5 X.qs.length q5)) := Bw.mk' X _ _ _ _ _ rfl
  go_enter Try.func21, Try.ntmps21
  go_upto_region 1 with fail
  generalize (w.alloc (Obj.cells #[.int .i64 X.turn, .int .i64 X.next, .int .i64 X.wide, .int .i64 X.high, .slice p1 X.gs.length q1, .slice p2 X.os.length q2, .slice p3 X.gold.length q3, .slice p4 X.us.length q4, .slice p5 X.qs.length q5] 29)) = w0 at *
  have x4 := X0.out.c4
  obtain ⟨w1, hmk, hbk, hb1, hs1⟩ := makeB X.gs.length w0 (by omega)
  go_upto_region 2 with fail
  have BK : Hid (Bb w1 w0.heap.size (seenUp ks Wn X p 0)) := by unfold Hid; rw [seenUp_zero]; exact hbk
  have B1 : Hid (Below w.heap.size w w1) := B0.out.trans (hb1.mono B0.out.size)
  have X1 : Hid (Bw w1 w.heap.size X (.slice p1 X.gs.length q1) (.slice p2 X.os.length q2) (.slice p3 X.gold.length q3) (.slice p4 X.us.length q4) (.slice p5 X.qs.length q5)) := X0.out.below hb1 X0.out.lt
  obtain ⟨lb, hlb⟩ : ∃ z, w0.heap.size = z := ⟨_, rfl⟩
  have LB : Hid (w.heap.size < lb) := by unfold Hid; rw [← hlb]; exact X0.out.lt
  rw [hlb] at BK ⊢
  clear hmk hbk hb1 hs1 x4 hlb B0 X0
  go_wp2_with fail
  go_loopw [16] (fun i V => ∃ n : Nat, i = .int .i64 (n : Nat) ∧ n ≤ X.gs.length ∧ Bb V lb (seenUp ks Wn X p n) ∧ Bw V w.heap.size X (.slice p1 X.gs.length q1) (.slice p2 X.os.length q2) (.slice p3 X.gold.length q3) (.slice p4 X.us.length q4) (.slice p5 X.qs.length q5) ∧ Below w.heap.size w V) (fun i _ => X.gs.length - (intOf i).toNat)
  case atStart => exact ⟨0, rfl, Nat.zero_le _, BK.out, X1.out, B1.out⟩
  case round =>
    obtain ⟨n, rfl, hn, hbb, hx, hb⟩ := hrel
    clear BK X1 B1
    have BK : Hid (Bb wr lb (seenUp ks Wn X p n)) := hbb
    have X1 : Hid (Bw wr w.heap.size X (.slice p1 X.gs.length q1) (.slice p2 X.os.length q2) (.slice p3 X.gold.length q3) (.slice p4 X.us.length q4) (.slice p5 X.qs.length q5)) := hx
    have B1 : Hid (Below w.heap.size w wr) := hb
    clear hbb hx hb
    by_cases h0 : n = X.gs.length
    · subst h0
      go_wp2
      go_ret
      exact ⟨lb, rfl, by have := BK.out; rw [seenUp_all] at this; exact this, LB.out, B1.out⟩
    · have hnl : n < X.gs.length := by omega
      have hni : ((n : Nat) : Int) < (X.gs.length : Nat) := by omega
      have hnl2 : Hid (n < X.gs.length) := hnl
      have WN : IntKind.i64.wrap ((n : Nat) + 1 : Int) = ((n : Nat) : Int) + 1 := by rw [IntKind.wrap_i64]; omega
      obtain ⟨x0, x1, x2, x3, x4, x5, x6, x7, x8⟩ := X1.out
      go_wp2_with fail
      refine (doesSee_any _ _ ks X p Wn n wr HR.out.1 HR.out.2 hnl2.out (K.out.1.below B1.out) (H.out.below B1.out)).mono ?_
      rintro e w2 ⟨rfl, hb⟩
      have B2 : Hid (Below w.heap.size w w2) := B1.out.trans (hb.mono B1.out.size)
      have X2 : Hid (Bw w2 w.heap.size X (.slice p1 X.gs.length q1) (.slice p2 X.os.length q2) (.slice p3 X.gold.length q3) (.slice p4 X.us.length q4) (.slice p5 X.qs.length q5)) := X1.out.below hb X1.out.lt
      have BK2 : Hid (Bb w2 lb (seenUp ks Wn X p n)) := BK.out.low hb BK.out.lt
      obtain ⟨t, ht⟩ : ∃ t, seesP ks Wn X.gs X.us p n = t := ⟨_, rfl⟩
      have NX : Hid (seenUp ks Wn X p (n + 1) = (seenUp ks Wn X p n).set n t) := by unfold Hid; rw [seenUp_next, ht]
      obtain ⟨y, hy⟩ : ∃ y, (seenUp ks Wn X p n)[n]? = some y := ⟨_, List.getElem?_eq_getElem (by rw [seenUp_len]; exact hnl2.out)⟩
      have cy := BK2.out.cell hy
      have ty := BK2.out.thaw n
      rw [ht]
      clear hb ht hy x0 x1 x2 x3 x4 x5 x6 x7 x8 BK B1 X1
      have K3 : Hid (Kp lb w2 (w2.setCell ⟨lb, n, none⟩ (.bool t))) := Kp.set _ _ _
      have BK3 : Hid (Bb (w2.setCell ⟨lb, n, none⟩ (.bool t)) lb ((seenUp ks Wn X p n).set n t)) := BK2.out.set n t
      go_wp2
      generalize (w2.setCell ⟨lb, n, none⟩ (.bool t)) = w3 at *
      go_round
      case rel => exact ⟨n + 1, by go_num, by have := hnl2.out; omega, by rw [NX.out]; exact BK3.out, X2.out.kp9 K3.out (by have := LB.out; omega), K3.out.below B2.out B2.out.size (by have := LB.out; omega)⟩
      case measure => simp [intOf]; omega

/-- what Seen tells. -/
def SeenSays (ks : List KV) (X : WV) (p : Int) (w' : World) (v : Value) : Prop :=
  (pfault ks X p ≠ 0 ∧ v = .slice none 0 0) ∨ (pfault ks X p = 0 ∧ ∃ Wn : Nat, X.wide = (Wn : Nat) ∧ Bl w' v (seenL ks Wn X p))
set_option maxRecDepth 100000 in
set_option maxHeartbeats 4000000 in
theorem Seen_any (vk vw : Value) (ks : List KV) (X : WV) (p : Int) (w : World) (hk : Kl w vk ks) (hb : ∀ k ∈ ks, k.b.size ≤ 9223372036854775807) (hw : Wl w vw X) :
    Calls Try.prog 8 #[vk, vw, .int .i64 p] w fun e w' => ∃ v r, e = .returned (.tuple #[v, r]) ∧ Er r (pfault ks X p) ∧ SeenSays ks X p w' v ∧ Below w.heap.size w w' := by
  have K : Hid (Kl w vk ks ∧ ∀ k ∈ ks, k.b.size ≤ 9223372036854775807) := ⟨hk, hb⟩
  have H : Hid (Wl w vw X) := hw
  obtain ⟨p1, q1, p2, q2, p3, q3, p4, q4, p5, q5, rfl⟩ := wl_shape9 hw
  obtain ⟨pk, qk, rfl, -⟩ := hk
  clear hb hw
  have B0 : Hid (Below w.heap.size w (w.alloc (Obj.cells #[.int .i64 X.turn, .int .i64 X.next, .int .i64 X.wide, .int .i64 X.high, .slice p1 X.gs.length q1, .slice p2 X.os.length q2, .slice p3 X.gold.length q3, .slice p4 X.us.length q4, .slice p5 X.qs.length q5] 29))) := (Below.refl _ _).alloc (Nat.le_refl _) _
  have X0 : Hid (Bw (w.alloc (Obj.cells #[.int .i64 X.turn, .int .i64 X.next, .int .i64 X.wide, .int .i64 X.high, .slice p1 X.gs.length q1, .slice p2 X.os.length q2, .slice p3 X.gold.length q3, .slice p4 X.us.length q4, .slice p5 X.qs.length q5] 29)) w.heap.size X (.slice p1 X.gs.length q1) (.slice p2 X.os.length q2) (.slice p3 X.gold.length q3) (.slice p4 X.us.length q4) (.slice p5 X.qs.length q5)) := Bw.mk' X _ _ _ _ _ rfl
  go_enter Try.func8, Try.ntmps8
  go_upto_region 1 with fail
  generalize (w.alloc (Obj.cells #[.int .i64 X.turn, .int .i64 X.next, .int .i64 X.wide, .int .i64 X.high, .slice p1 X.gs.length q1, .slice p2 X.os.length q2, .slice p3 X.gold.length q3, .slice p4 X.us.length q4, .slice p5 X.qs.length q5] 29)) = w0 at *
  obtain ⟨x0, x1, x2, x3, x4, x5, x6, x7, x8⟩ := X0.out
  go_wp2_with fail
  refine (checkPlayer_any _ _ ks X p w0 (K.out.1.below B0.out) K.out.2 (H.out.below B0.out)).mono ?_
  rintro e w1 ⟨r, rfl, hr, hb⟩
  obtain ⟨fw, hfw⟩ : ∃ f, pfault ks X p = f := ⟨_, rfl⟩
  have FW : Hid (pfault ks X p = fw) := hfw
  rw [hfw] at hr
  have B1 : Hid (Below w.heap.size w w1) := B0.out.trans (hb.mono B0.out.size)
  have X1 : Hid (Bw w1 w.heap.size X (.slice p1 X.gs.length q1) (.slice p2 X.os.length q2) (.slice p3 X.gold.length q3) (.slice p4 X.us.length q4) (.slice p5 X.qs.length q5)) := X0.out.below hb X0.out.lt
  clear hb hfw x0 x1 x2 x3 x4 x5 x6 x7 x8 X0 B0
  rcases hr with ⟨rfl, rfl⟩ | ⟨hf, rfl⟩
  case inr =>
    have HF : Hid (fw ≠ 0) := hf
    clear hf
    go_wp2
    go_ret2
    exact ⟨_, _, rfl, by rw [FW.out]; exact Er.no HF.out, .inl ⟨by rw [FW.out]; exact HF.out, rfl⟩, B1.out⟩
  have WR : Hid (WRight ks X) := wright_of (pfault_zero FW.out).1
  obtain ⟨Wn, Hn, e1, e2, G⟩ := WR.out.good
  have GD : Hid (X.wide = (Wn : Nat) ∧ X.gs.length ≤ 144) := ⟨e1, by rw [G.gl]; exact G.pos.2⟩
  clear e1 e2 G
  obtain ⟨x0, x1, x2, x3, x4, x5, x6, x7, x8⟩ := X1.out
  go_wp2_with fail
  refine (seen_any _ _ ks X p Wn w1 WR.out GD.out.1 (K.out.1.below B1.out) K.out.2 (H.out.below B1.out)).mono ?_
  rintro e w2 ⟨b, rfl, hbb, -, hb⟩
  have B2 : Hid (Below w.heap.size w w2) := B1.out.trans (hb.mono B1.out.size)
  have BL : Hid (Bl w2 (.slice (some ⟨b, 0, none⟩) X.gs.length X.gs.length) (seenL ks Wn X p)) := by
    have h := hbb.bl (c := X.gs.length) (by rw [seen_len]; exact Nat.le_refl _) (by have := GD.out.2; omega)
    rw [seen_len] at h
    exact h
  clear hb hbb x0 x1 x2 x3 x4 x5 x6 x7 x8
  go_wp2
  go_ret2
  exact ⟨_, _, rfl, by rw [FW.out]; exact Er.nil, .inr ⟨FW.out, Wn, GD.out.1, BL.out⟩, B2.out⟩

/-- what Seers tells. -/
def SeersSays (ks : List KV) (X : WV) (c : Int) (w' : World) (v : Value) : Prop :=
  (cfault ks X c ≠ 0 ∧ v = .slice none 0 0) ∨ (cfault ks X c = 0 ∧ ∃ Wn : Nat, X.wide = (Wn : Nat) ∧ Ro w' v (seersL ks Wn X c.toNat))
set_option maxRecDepth 100000 in
set_option maxHeartbeats 4000000 in
theorem Seers_any (vk vw : Value) (ks : List KV) (X : WV) (c : Int) (w : World) (hk : Kl w vk ks) (hb : ∀ k ∈ ks, k.b.size ≤ 9223372036854775807) (hw : Wl w vw X) :
    Calls Try.prog 6 #[vk, vw, .int .i64 c] w fun e w' => ∃ v r, e = .returned (.tuple #[v, r]) ∧ Er r (cfault ks X c) ∧ SeersSays ks X c w' v ∧ Below w.heap.size w w' := by
  have K : Hid (Kl w vk ks ∧ ∀ k ∈ ks, k.b.size ≤ 9223372036854775807) := ⟨hk, hb⟩
  have H : Hid (Wl w vw X) := hw
  obtain ⟨p1, q1, p2, q2, p3, q3, p4, q4, p5, q5, rfl⟩ := wl_shape9 hw
  obtain ⟨pk, qk, rfl, -⟩ := hk
  clear hb hw
  have B0 : Hid (Below w.heap.size w (w.alloc (Obj.cells #[.int .i64 X.turn, .int .i64 X.next, .int .i64 X.wide, .int .i64 X.high, .slice p1 X.gs.length q1, .slice p2 X.os.length q2, .slice p3 X.gold.length q3, .slice p4 X.us.length q4, .slice p5 X.qs.length q5] 29))) := (Below.refl _ _).alloc (Nat.le_refl _) _
  have X0 : Hid (Bw (w.alloc (Obj.cells #[.int .i64 X.turn, .int .i64 X.next, .int .i64 X.wide, .int .i64 X.high, .slice p1 X.gs.length q1, .slice p2 X.os.length q2, .slice p3 X.gold.length q3, .slice p4 X.us.length q4, .slice p5 X.qs.length q5] 29)) w.heap.size X (.slice p1 X.gs.length q1) (.slice p2 X.os.length q2) (.slice p3 X.gold.length q3) (.slice p4 X.us.length q4) (.slice p5 X.qs.length q5)) := Bw.mk' X _ _ _ _ _ rfl
  go_enter Try.func6, Try.ntmps6
  go_upto_region 1 with fail
  generalize (w.alloc (Obj.cells #[.int .i64 X.turn, .int .i64 X.next, .int .i64 X.wide, .int .i64 X.high, .slice p1 X.gs.length q1, .slice p2 X.os.length q2, .slice p3 X.gold.length q3, .slice p4 X.us.length q4, .slice p5 X.qs.length q5] 29)) = w0 at *
  obtain ⟨x0, x1, x2, x3, x4, x5, x6, x7, x8⟩ := X0.out
  go_wp2_with fail
  refine (wcheck_any _ _ ks X w0 (K.out.1.below B0.out) K.out.2 (H.out.below B0.out)).mono ?_
  rintro e w1 ⟨r, rfl, hr, hb⟩
  obtain ⟨fw, hfw⟩ : ∃ f, Wd.wfault ks X = f := ⟨_, rfl⟩
  have FW : Hid (Wd.wfault ks X = fw) := hfw
  rw [hfw] at hr
  have B1 : Hid (Below w.heap.size w w1) := B0.out.trans (hb.mono B0.out.size)
  have X1 : Hid (Bw w1 w.heap.size X (.slice p1 X.gs.length q1) (.slice p2 X.os.length q2) (.slice p3 X.gold.length q3) (.slice p4 X.us.length q4) (.slice p5 X.qs.length q5)) := X0.out.below hb X0.out.lt
  clear hb hfw x0 x1 x2 x3 x4 x5 x6 x7 x8 X0 B0
  rcases hr with ⟨rfl, rfl⟩ | ⟨hf, rfl⟩
  case inr =>
    have HF : Hid (fw ≠ 0) := hf
    clear hf
    have PF : Hid (cfault ks X c = fw) := by unfold Hid cfault; rw [FW.out, if_neg HF.out]
    go_wp2
    go_ret2
    exact ⟨_, _, rfl, by rw [PF.out]; exact Er.no HF.out, .inl ⟨by rw [PF.out]; exact HF.out, rfl⟩, B1.out⟩
  obtain ⟨x0, x1, x2, x3, x4, x5, x6, x7, x8⟩ := X1.out
  by_cases hi0 : c < 0
  · have PF : Hid (cfault ks X c = 6) := by unfold Hid cfault; rw [FW.out, if_pos rfl, if_neg (by omega)]
    go_wp2
    go_ret2
    exact ⟨_, _, rfl, by rw [PF.out]; exact Er.no (by decide), .inl ⟨by rw [PF.out]; decide, rfl⟩, B1.out⟩
  by_cases hi1 : (X.gs.length : Int) ≤ c
  · have PF : Hid (cfault ks X c = 6) := by unfold Hid cfault; rw [FW.out, if_pos rfl, if_neg (by omega)]
    go_wp2
    go_ret2
    exact ⟨_, _, rfl, by rw [PF.out]; exact Er.no (by decide), .inl ⟨by rw [PF.out]; decide, rfl⟩, B1.out⟩
  have PF : Hid (cfault ks X c = 0) := by unfold Hid cfault; rw [FW.out, if_pos rfl, if_pos (by omega)]
  obtain ⟨c, rfl⟩ : ∃ n : Nat, c = n := ⟨c.toNat, by omega⟩
  have hcl : Hid (c < X.gs.length) := by unfold Hid; omega
  have WR : Hid (WRight ks X) := wright_of FW.out
  obtain ⟨Wn, Hn, e1, e2, G⟩ := WR.out.good
  have GD : Hid (X.wide = (Wn : Nat)) := e1
  have GO : Hid (X.gold.length ≤ 4) := by have := (nums_ok WR.out.nums).2; unfold Hid; omega
  have hj0 : decide (((c : Nat) : Int) < 0) = false := decide_eq_false hi0
  have hj1 : decide (X.gs.length ≤ c) = false := decide_eq_false (by omega)
  clear e1 e2 G
  go_wp2_with fail
  clear hi0 hi1 hj0 hj1 x0 x1 x2 x3 x4 x5 x6 x7 x8
  obtain ⟨b1, hb1⟩ : ∃ z, w1.heap.size = z := ⟨_, rfl⟩
  have LB : Hid (w.heap.size < b1) := by unfold Hid; rw [← hb1]; exact X1.out.lt
  have SZ : Hid (b1 ≤ w1.heap.size) := by unfold Hid; rw [hb1]; exact Nat.le_refl _
  clear hb1
  go_loopw [9, 31] (fun l i V => ∃ (n : Nat) (lv : Value), i = .int .i64 (n : Nat) ∧ lv = l ∧ n ≤ X.gold.length ∧ Ow V b1 lv (seersUp ks Wn X c n) ∧ Below b1 w1 V) (fun _ i _ => X.gold.length - (intOf i).toNat)
  case atStart => exact ⟨0, _, rfl, rfl, Nat.zero_le _, Ow.nil _ _, Below.refl _ _⟩
  case round =>
    obtain ⟨n, lv, rfl, rfl, hn, ho, hb⟩ := hrel
    have OW : Hid (Ow wr b1 lv (seersUp ks Wn X c n)) := ho
    have BB : Hid (Below b1 w1 wr) := hb
    have B2 : Hid (Below w.heap.size w wr) := B1.out.trans (hb.mono (Nat.le_of_lt LB.out))
    have X2 : Hid (Bw wr w.heap.size X (.slice p1 X.gs.length q1) (.slice p2 X.os.length q2) (.slice p3 X.gold.length q3) (.slice p4 X.us.length q4) (.slice p5 X.qs.length q5)) := X1.out.below hb LB.out
    clear ho hb
    by_cases h0 : n = X.gold.length
    · subst h0
      go_wp2
      go_ret2
      exact ⟨_, _, rfl, by rw [PF.out]; exact Er.nil, .inr ⟨PF.out, Wn, GD.out, OW.out.ro⟩, B2.out⟩
    · have hnl : n < X.gold.length := by omega
      have hni : ((n : Nat) : Int) < (X.gold.length : Nat) := by omega
      have HN : Hid (n < X.gold.length) := hnl
      have WN : IntKind.i64.wrap ((n : Nat) + 1 : Int) = ((n : Nat) : Int) + 1 := by have := GO.out; rw [IntKind.wrap_i64]; omega
      obtain ⟨xs, hxs⟩ : ∃ l, seersUp ks Wn X c n = l := ⟨_, rfl⟩
      have LX : Hid (xs.length ≤ 4) := by have h1 := seersUp_len ks Wn X c n; have := GO.out; unfold Hid; rw [← hxs]; omega
      have NX := seers_next ks Wn X c n
      rw [hxs] at OW NX
      clear hxs
      obtain ⟨x0, x1, x2, x3, x4, x5, x6, x7, x8⟩ := X2.out
      go_wp2_with fail
      refine (doesSee_any _ _ ks X (n : Nat) Wn c wr WR.out GD.out hcl.out (K.out.1.below B2.out) (H.out.below B2.out)).mono ?_
      rintro e w2 ⟨rfl, hb⟩
      have BB2 : Hid (Below b1 w1 w2) := BB.out.trans (hb.mono (Nat.le_trans SZ.out BB.out.size))
      have OW2 : Hid (Ow w2 b1 lv xs) := OW.out.below hb
      have S2 : Hid (b1 ≤ w2.heap.size) := Nat.le_trans SZ.out BB2.out.size
      obtain ⟨t, ht⟩ : ∃ t, seesP ks Wn X.gs X.us (n : Nat) c = t := ⟨_, rfl⟩
      rw [ht] at NX ⊢
      clear hb ht x0 x1 x2 x3 x4 x5 x6 x7 x8 BB OW B2 X2
      cases t with
      | false =>
        have NY : Hid (seersUp ks Wn X c (n + 1) = xs) := by unfold Hid; rw [NX]; simp
        clear NX
        go_wp2
        go_round
        case rel => exact ⟨n + 1, _, by go_num, rfl, by have := HN.out; omega, by rw [NY.out]; exact OW2.out, BB2.out⟩
        case measure => simp [intOf]; omega
      | true =>
        have NY : Hid (seersUp ks Wn X c (n + 1) = xs ++ [((n : Nat) : Int)]) := by unfold Hid; rw [NX]; simp
        clear NX
        go_wp2_with (at_builtin; refine app_int _ rfl _ _ rfl b1 _ xs rfl (OW2.out.alloc _) ⟨w2.heap.size, 0, none⟩ (n : Nat) rfl (by simp) (by have := LX.out; omega) (by have := S2.out; simp; omega) ?_)
        intro g cap w6 o6 g6 _ _
        have O6 : Hid (Ow w6 b1 (.slice (some ⟨g, 0, none⟩) (xs.length + 1) cap) (xs ++ [((n : Nat) : Int)])) := o6
        have hob : ∀ k, lv.ownBlock = some k → b1 ≤ k := fun k hk => (OW2.out.block k hk).1
        have B6 : Hid (Below b1 w1 w6) := BB2.out.trans (((Below.refl _ _).alloc S2.out _).grown g6 (by have := S2.out; simp; omega) hob)
        clear o6 g6 hob OW2 BB2 S2
        go_wp2
        go_round
        case rel => exact ⟨n + 1, _, by go_num, rfl, by have := HN.out; omega, by rw [NY.out]; exact O6.out, B6.out⟩
        case measure => simp [intOf]; omega
end Go.Proofs.Ytagnjmellcibhaa

namespace Go.Proofs.Ytagnjmellcibhaa
open Go.RowKit
set_option linter.unusedVariables false

theorem farN_self (W a : Nat) : farN W a a = 0 := by
  unfold farN
  rw [Int.sub_self, Int.sub_self]
  decide
theorem line_self (W a : Nat) : Fd.line W a a = [(a : Int)] := by
  unfold Fd.line
  rw [if_pos (by unfold Fd.span; simp)]
theorem see_self {W : Nat} {gs : List Int} {k : KV} {a : Nat} (h : 0 ≤ k.n3) : seeN W gs k a a = true := by
  unfold seeN
  rw [farN_self, line_self]
  simp [Fd.hide, h]
theorem own_sees {ks : List KV} {X : WV} {W i : Nat} {p : Int} {u : UnV} (WR : WRight ks X) (hu : X.us[i]? = some u) (hp : u.player = p) : seesP ks W X.gs X.us p u.at_.toNat = true := by
  obtain ⟨k, f⟩ := WR.fine hu
  have hN := kind_nums WR.kinds (List.mem_of_getElem? f.kk)
  refine List.any_eq_true.2 ⟨u, List.mem_of_getElem? hu, ?_⟩
  unfold seeU
  rw [f.kk, hp]
  simp [see_self (W := W) (gs := X.gs) (a := u.at_.toNat) hN.2.2.2.2.2.2.2.2.1]
theorem sees_has {ks : List KV} {gs : List Int} {us : List UnV} {W c : Nat} {p : Int} (h : seesP ks W gs us p c = true) : us.any (fun u => u.player == p) = true := by
  obtain ⟨u, hu, h⟩ := List.any_eq_true.1 h
  unfold seeU at h
  exact List.any_eq_true.2 ⟨u, hu, (Bool.and_eq_true_iff.1 h).1⟩
theorem seers_more (ks : List KV) (W : Nat) (X : WV) (c m : Nat) : ∀ d, ∃ t, seersUp ks W X c (m + d) = seersUp ks W X c m ++ t
  | 0 => ⟨[], by simp⟩
  | d + 1 => by
    obtain ⟨t, ht⟩ := seers_more ks W X c m d
    rw [← Nat.add_assoc, seers_next, ht, List.append_assoc]
    exact ⟨_, rfl⟩
theorem seers_at {ks : List KV} {W : Nat} {X : WV} {c p : Nat} (hp : p < X.gold.length) (h : seesP ks W X.gs X.us (p : Nat) c = true) : (seersL ks W X c)[(seersUp ks W X c p).length]? = some ((p : Nat) : Int) := by
  obtain ⟨t, ht⟩ := seers_more ks W X c (p + 1) (X.gold.length - (p + 1))
  have e : p + 1 + (X.gold.length - (p + 1)) = X.gold.length := by omega
  unfold seersL
  rw [e] at ht
  rw [ht, seers_next, h, if_pos rfl]
  simp
theorem seers_some {ks : List KV} {W : Nat} {X : WV} {c p : Nat} (h : seesP ks W X.gs X.us (p : Nat) c = true) : (seersUp ks W X c (p + 1)).length = (seersUp ks W X c p).length + 1 := by
  rw [seers_next, h, if_pos rfl]
  simp
theorem seers_none {ks : List KV} {W : Nat} {X : WV} {c p : Nat} (h : seesP ks W X.gs X.us (p : Nat) c = false) : (seersUp ks W X c (p + 1)).length = (seersUp ks W X c p).length := by
  rw [seers_next, h]
  simp
theorem pfault_ok {ks : List KV} {X : WV} {p : Int} (h : Wd.wfault ks X = 0) (h1 : 0 ≤ p) (h2 : p < (X.gold.length : Int)) : pfault ks X p = 0 := by
  unfold pfault
  rw [if_pos h, if_pos ⟨h1, h2⟩]
theorem seen_of {ks : List KV} {X : WV} {p : Int} {w : World} {v : Value} {Wn : Nat} (h : SeenSays ks X p w v) (h0 : pfault ks X p = 0) (hw : X.wide = (Wn : Nat)) : Bl w v (seenL ks Wn X p) := by
  rcases h with ⟨h, -⟩ | ⟨-, Wm, h1, h2⟩
  · exact absurd h0 h
  · obtain rfl : Wm = Wn := by omega
    exact h2
end Go.Proofs.Ytagnjmellcibhaa

namespace Go.Proofs.Ytagnjmellcibhaa
open Go.RowKit
set_option linter.unusedVariables false

set_option maxRecDepth 100000 in
set_option maxHeartbeats 4000000 in
theorem cplace_any (vk vw : Value) (ks : List KV) (W : WV) (pl kd at_ : Int) (w : World) (hk : Kl w vk ks) (hw : Wl w vw W) (hr : WRight ks W) :
    Calls Try.prog 33 #[vk, vw, .int .i64 pl, .int .i64 kd, .int .i64 at_] w fun e w' => ∃ r, e = .returned r ∧ Er r (Wd.placeFault ks W pl kd at_) ∧ Below w.heap.size w w' := by
  have K : Hid (Kl w vk ks) := hk
  have H : Hid (Wl w vw W) := hw
  have R : Hid (WRight ks W) := hr
  obtain ⟨u1, u2, u3, u4, u5, rfl, r1, r2, r3, r4, r5⟩ := hw
  obtain ⟨p1, q1, rfl, -⟩ := r1
  obtain ⟨p2, q2, rfl, -⟩ := r2
  obtain ⟨p3, q3, rfl, -⟩ := r3
  obtain ⟨p4, q4, rfl, -⟩ := r4
  obtain ⟨p5, q5, rfl, -⟩ := r5
  obtain ⟨pk, qk, rfl, -, -, kc⟩ := hk
  have KC : Hid (ks ≠ [] → ∃ x, pk = some x ∧ x.block < w.heap.size ∧ ∀ (i : Nat) k, ks[i]? = some k → Kc w (x.add (i * 11)) k) := kc
  have lk : ks.length ≤ 8 := kinds_len hr.kinds
  have lg : W.gold.length ≤ 4 := (nums_ok hr.nums).2
  have lu : W.us.length ≤ 40 := hr.ul
  have lc : W.gs.length ≤ 144 := by
    obtain ⟨Wn, Hn, -, -, G⟩ := hr.good
    have h1 := G.pos
    have h2 := G.gl
    omega
  clear hr kc
  go_enter Try.func33, Try.ntmps33
  go_upto_region 1 with fail
  have B0 : Hid (Below w.heap.size w (w.alloc (Obj.cells #[.int .i64 W.turn, .int .i64 W.next, .int .i64 W.wide, .int .i64 W.high, .slice p1 W.gs.length q1, .slice p2 W.os.length q2, .slice p3 W.gold.length q3, .slice p4 W.us.length q4, .slice p5 W.qs.length q5] 29))) := (Below.refl _ _).alloc (Nat.le_refl _) _
  have X0 : Hid (Bw (w.alloc (Obj.cells #[.int .i64 W.turn, .int .i64 W.next, .int .i64 W.wide, .int .i64 W.high, .slice p1 W.gs.length q1, .slice p2 W.os.length q2, .slice p3 W.gold.length q3, .slice p4 W.us.length q4, .slice p5 W.qs.length q5] 29)) w.heap.size W (.slice p1 W.gs.length q1) (.slice p2 W.os.length q2) (.slice p3 W.gold.length q3) (.slice p4 W.us.length q4) (.slice p5 W.qs.length q5)) := Bw.mk' W _ _ _ _ _ rfl
  generalize (w.alloc (Obj.cells #[.int .i64 W.turn, .int .i64 W.next, .int .i64 W.wide, .int .i64 W.high, .slice p1 W.gs.length q1, .slice p2 W.os.length q2, .slice p3 W.gold.length q3, .slice p4 W.us.length q4, .slice p5 W.qs.length q5] 29)) = w0 at *
  obtain ⟨x0, x1, x2, x3, x4, x5, x6, x7, x8⟩ := X0.out
  by_cases h40 : (40 : Int) ≤ (W.us.length : Int)
  · go_wp2
    go_ret
    exact ⟨_, rfl, by rw [Wd.pf4 (.inl h40)]; exact Er.no (by decide), B0.out⟩
  by_cases hnx : (1000000 : Int) ≤ W.next
  · go_wp2
    go_ret
    exact ⟨_, rfl, by rw [Wd.pf4 (.inr hnx)]; exact Er.no (by decide), B0.out⟩
  have HF : Hid (¬ (40 ≤ (W.us.length : Int) ∨ 1000000 ≤ W.next)) := fun h => h.elim h40 hnx
  by_cases h1 : 0 ≤ pl ∧ pl < (W.gold.length : Int)
  case neg =>
    have t1 : decide (0 ≤ pl ∧ pl < (W.gold.length : Int)) = false := decide_eq_false h1
    have F : Hid (Wd.placeFault ks W pl kd at_ = 1) := Wd.pf1 HF.out (.inl h1)
    clear h1
    go_wp2_with fail
    refine (isone_ints _ _ _ _ _ (by omega)).mono ?_
    rintro e w1 ⟨rfl, hww⟩
    obtain rfl := hww.symm
    rw [t1]
    clear t1
    go_wp2
    go_ret
    exact ⟨_, rfl, by rw [F.out]; exact Er.no (by decide), B0.out⟩
  have t1 : decide (0 ≤ pl ∧ pl < (W.gold.length : Int)) = true := decide_eq_true h1
  have H1 : Hid (0 ≤ pl ∧ pl < (W.gold.length : Int)) := h1
  clear h1
  go_wp2_with fail
  refine (isone_ints _ _ _ _ _ (by omega)).mono ?_
  rintro e w1 ⟨rfl, hww⟩
  obtain rfl := hww.symm
  rw [t1]
  clear t1
  by_cases h2 : 0 ≤ kd ∧ kd < (ks.length : Int)
  case neg =>
    have t1 : decide (0 ≤ kd ∧ kd < (ks.length : Int)) = false := decide_eq_false h2
    have F : Hid (Wd.placeFault ks W pl kd at_ = 1) := Wd.pf1 HF.out (.inr h2)
    clear h2
    go_wp2_with fail
    refine (isone_kinds _ _ _ _ _ (by omega)).mono ?_
    rintro e w1 ⟨rfl, hww⟩
    obtain rfl := hww.symm
    rw [t1]
    clear t1
    go_wp2
    go_ret
    exact ⟨_, rfl, by rw [F.out]; exact Er.no (by decide), B0.out⟩
  have t1 : decide (0 ≤ kd ∧ kd < (ks.length : Int)) = true := decide_eq_true h2
  have H2 : Hid (0 ≤ kd ∧ kd < (ks.length : Int)) := h2
  clear h2
  go_wp2_with fail
  refine (isone_kinds _ _ _ _ _ (by omega)).mono ?_
  rintro e w1 ⟨rfl, hww⟩
  obtain rfl := hww.symm
  rw [t1]
  clear t1
  by_cases h3 : 0 ≤ at_ ∧ at_ < (W.gs.length : Int)
  case neg =>
    have t1 : decide (0 ≤ at_ ∧ at_ < (W.gs.length : Int)) = false := decide_eq_false h3
    have F : Hid (Wd.placeFault ks W pl kd at_ = 6) := Wd.pf6 HF.out H1.out H2.out h3
    clear h3
    go_wp2_with fail
    refine (isone_ints _ _ _ _ _ (by omega)).mono ?_
    rintro e w1 ⟨rfl, hww⟩
    obtain rfl := hww.symm
    rw [t1]
    clear t1
    go_wp2
    go_ret
    exact ⟨_, rfl, by rw [F.out]; exact Er.no (by decide), B0.out⟩
  have t1 : decide (0 ≤ at_ ∧ at_ < (W.gs.length : Int)) = true := decide_eq_true h3
  have H3 : Hid (0 ≤ at_ ∧ at_ < (W.gs.length : Int)) := h3
  go_wp2_with fail
  refine (isone_ints _ _ _ _ _ (by omega)).mono ?_
  rintro e w1 ⟨rfl, hww⟩
  obtain rfl := hww.symm
  rw [t1]
  clear t1
  obtain ⟨an, ea⟩ : ∃ an : Nat, at_ = an := ⟨at_.toNat, by omega⟩
  obtain ⟨kn, ek⟩ : ∃ kn : Nat, kd = kn := ⟨kd.toNat, by have := H2.out; omega⟩
  subst ea
  subst ek
  have hkl : kn < ks.length := by have := H2.out; omega
  have hki : (kn : Int) < (ks.length : Int) := by omega
  obtain ⟨k, hk⟩ : ∃ k, ks[kn]? = some k := ⟨_, List.getElem?_eq_getElem hkl⟩
  obtain ⟨g, hg0⟩ : ∃ g, W.gs[an]? = some g := ⟨_, List.getElem?_eq_getElem (by omega)⟩
  have FK : Hid (Wd.placeFault ks W pl (kn : Nat) (an : Nat) = if Wd.open_ W.gs W.us (an : Nat) k.f = false then 7 else 0) := Wd.pfk HF.out H1.out H2.out H3.out (by simpa using hk)
  have hgan : Hid (W.gs[an]? = some g) := hg0
  obtain ⟨xk, rfl, hxl, hxc⟩ := KC.out (by intro e; rw [e] at hkl; simp at hkl)
  have hkc : Hid (Kc w0 (xk.add (kn * 11)) k) := (hxc kn k hk).below B0.out (by rw [add_block]; exact hxl)
  have FC : Hid (∀ V, Below w0.heap.size w0 V → V.cell? ⟨w.heap.size, 2, none⟩ = some (.int .i64 W.wide) ∧ V.cell? ⟨w.heap.size, 3, none⟩ = some (.int .i64 W.high) ∧ V.cell? ⟨w.heap.size, 4, none⟩ = some (.slice p1 W.gs.length q1) ∧ V.cell? ⟨w.heap.size, 5, none⟩ = some (.slice p2 W.os.length q2) ∧ V.cell? ⟨w.heap.size, 7, none⟩ = some (.slice p4 W.us.length q4) ∧ V.cell? ⟨(xk.add (kn * 11)).block, (xk.add (kn * 11)).off + 9, none⟩ = some (.bool k.f)) := fun V hV => by
    obtain ⟨-, -, z2, z3, z4, z5, -, z7, -⟩ := X0.out.below hV X0.out.lt
    obtain ⟨-, -, -, -, -, -, -, -, -, m9, -⟩ := hkc.out.below hV hkc.out.lt
    exact ⟨z2, z3, z4, z5, z7, m9⟩
  have OPN : Hid (∀ V, Below w0.heap.size w0 V → Calls Try.prog 52 #[.agg #[.int .i64 W.wide, .int .i64 W.high, .slice p1 W.gs.length q1, .slice p2 W.os.length q2], .slice p4 W.us.length q4, .int .i64 (an : Nat), .bool k.f] V fun e w' => e = .returned (.bool (Wd.open_ W.gs W.us (an : Nat) k.f)) ∧ Below w0.heap.size w0 w') := fun V hV => by
    have BV : Below w.heap.size w V := B0.out.trans (hV.mono B0.out.size)
    obtain ⟨r1, r2, -, r4, -⟩ := (H.out.below BV).slices
    obtain ⟨Wn, Hn, hWn, hHn, hGood⟩ := R.out.good
    rw [hWn, hHn]
    exact (isopen_any _ _ Wn Hn W.gs W.os W.us an g k.f V ⟨_, _, rfl, r1, r2⟩ hGood r4 (by have := hGood.gl; omega) hgan.out).mono fun e w' ⟨h1, h2⟩ => ⟨h1, hV.trans (h2.mono hV.size)⟩
  have eo : ∀ args w, (callFunc 52 args).run Try.prog w = .ok (.enter 52 args) w := by intro args w; go_simp
  clear hxc hk hg0 h3 x0 x1 x2 x3 x4 x5 x6 x7 x8
  go_upto_region 9 with fail
  refine wp_region_class 11 (fun V => Below w0.heap.size w0 V) (by kernel_rfl) (by kernel_rfl) (Below.refl _ _).drew ?_
  simp only [List.take_succ_cons, List.take_zero, List.drop_succ_cons, List.drop_zero]
  refine head_step (.pointer (some ⟨w.heap.size, 2, none⟩)) (by go_simp) (fun V hV => by go_simp) ?_
  go_simp
  refine head_step (.agg #[.int .i64 W.wide, .int .i64 W.high, .slice p1 W.gs.length q1, .slice p2 W.os.length q2]) (by go_simp) (fun V hV => by obtain ⟨f2, f3, f4, f5, -⟩ := FC.out V hV; go_simp) ?_
  go_simp
  refine head_step (.pointer (some ⟨w.heap.size, 7, none⟩)) (by go_simp) (fun V hV => by go_simp) ?_
  go_simp
  refine head_step (.slice p4 W.us.length q4) (by go_simp) (fun V hV => by obtain ⟨-, -, -, -, f7, -⟩ := FC.out V hV; go_simp) ?_
  go_simp
  refine head_step (.int .i64 (an : Nat)) (by go_simp) (fun V hV => by go_simp) ?_
  go_simp
  refine head_step (.slice (some xk) ks.length qk) (by go_simp) (fun V hV => by go_simp) ?_
  go_simp
  refine head_step (.int .i64 (kn : Nat)) (by go_simp) (fun V hV => by go_simp) ?_
  go_simp
  refine head_step (.pointer (some (xk.add (kn * 11)))) (by go_simp) (fun V hV => by go_simp) ?_
  go_simp
  refine head_step (.pointer (some ⟨(xk.add (kn * 11)).block, (xk.add (kn * 11)).off + 9, none⟩)) (by go_simp) (fun V hV => by go_simp) ?_
  go_simp
  refine head_step (.bool k.f) (by go_simp) (fun V hV => by obtain ⟨-, -, -, -, -, f10⟩ := FC.out V hV; go_simp) ?_
  go_simp
  refine head_call (.bool (Wd.open_ W.gs W.us (an : Nat) k.f)) 52 #[.agg #[.int .i64 W.wide, .int .i64 W.high, .slice p1 W.gs.length q1, .slice p2 W.os.length q2], .slice p4 W.us.length q4, .int .i64 (an : Nat), .bool k.f] (by go_simp) (fun V hV => by go_simp) (fun V hV => OPN.out V hV) ?_
  go_simp
  intro V hV
  have BV : Hid (Below w.heap.size w V) := B0.out.trans (hV.mono B0.out.size)
  obtain ⟨b9, hb9⟩ : ∃ b, Wd.open_ W.gs W.us (an : Nat) k.f = b := ⟨_, rfl⟩
  rw [hb9] at FK ⊢
  clear hV FC OPN hb9
  cases b9 with
  | false =>
    go_wp2
    go_ret
    exact ⟨_, rfl, by rw [FK.out]; exact Er.no (by decide), BV.out⟩
  | true =>
    go_wp2
    go_ret
    exact ⟨_, rfl, by rw [FK.out]; exact Er.nil, BV.out⟩
end Go.Proofs.Ytagnjmellcibhaa

namespace Go.Proofs.Ytagnjmellcibhaa
open Go.RowKit
set_option linter.unusedVariables false

set_option maxRecDepth 100000 in
set_option maxHeartbeats 8000000 in
theorem place_any (vk vw : Value) (ks : List KV) (W : WV) (pl kd at_ : Int) (w : World) (hk : Kl w vk ks) (hb : ∀ k ∈ ks, k.b.size ≤ 9223372036854775807) (hw : Wl w vw W) :
    Calls Try.prog 17 #[vk, vw, .int .i64 pl, .int .i64 kd, .int .i64 at_] w fun e w' => ∃ u r, e = .returned (.tuple #[u, r]) ∧ Er r (Wd.putFault ks W pl kd at_) ∧ Wo w' w.heap.size u (Wd.placed ks W pl kd at_) ∧ Below w.heap.size w w' := by
  have K : Hid (Kl w vk ks ∧ ∀ k ∈ ks, k.b.size ≤ 9223372036854775807) := ⟨hk, hb⟩
  have H : Hid (Wl w vw W) := hw
  obtain ⟨u1, u2, u3, u4, u5, rfl, r1, r2, r3, r4, r5⟩ := hw
  obtain ⟨p1, q1, rfl, -⟩ := r1
  obtain ⟨p2, q2, rfl, -⟩ := r2
  obtain ⟨p3, q3, rfl, -⟩ := r3
  obtain ⟨p4, q4, rfl, -⟩ := r4
  obtain ⟨p5, q5, rfl, -⟩ := r5
  obtain ⟨pk, qk, rfl, -, -, kc⟩ := hk
  have KC : Hid (ks ≠ [] → ∃ x, pk = some x ∧ x.block < w.heap.size ∧ ∀ (i : Nat) k, ks[i]? = some k → Kc w (x.add (i * 11)) k) := kc
  clear hb kc
  go_enter Try.func17, Try.ntmps17
  go_upto_region 1 with fail
  have B0 : Hid (Below w.heap.size w ((w.alloc (.cells #[.int .i64 W.turn, .int .i64 W.next, .int .i64 W.wide, .int .i64 W.high, .slice p1 W.gs.length q1, .slice p2 W.os.length q2, .slice p3 W.gold.length q3, .slice p4 W.us.length q4, .slice p5 W.qs.length q5] 29)).alloc (.cells #[.int .i64 0, .int .i64 0, .int .i64 0, .int .i64 0, .slice none 0 0, .slice none 0 0, .slice none 0 0, .slice none 0 0, .slice none 0 0] 29))) := ((Below.refl _ _).alloc (Nat.le_refl _) _).alloc (by simp) _
  have X0 : Hid (Wx ((w.alloc (.cells #[.int .i64 W.turn, .int .i64 W.next, .int .i64 W.wide, .int .i64 W.high, .slice p1 W.gs.length q1, .slice p2 W.os.length q2, .slice p3 W.gold.length q3, .slice p4 W.us.length q4, .slice p5 W.qs.length q5] 29)).alloc (.cells #[.int .i64 0, .int .i64 0, .int .i64 0, .int .i64 0, .slice none 0 0, .slice none 0 0, .slice none 0 0, .slice none 0 0, .slice none 0 0] 29)) w.heap.size (.int .i64 W.turn) (.int .i64 W.next) (.int .i64 W.wide) (.int .i64 W.high) (.slice p1 W.gs.length q1) (.slice p2 W.os.length q2) (.slice p3 W.gold.length q3) (.slice p4 W.us.length q4) (.slice p5 W.qs.length q5)) := (Wx.new (w := w) _ _ _ _ _ _ _ _ _ rfl).below ((Below.refl _ _).alloc (Nat.le_refl _) _) (by simp)
  have Z0 : Hid (Wx ((w.alloc (.cells #[.int .i64 W.turn, .int .i64 W.next, .int .i64 W.wide, .int .i64 W.high, .slice p1 W.gs.length q1, .slice p2 W.os.length q2, .slice p3 W.gold.length q3, .slice p4 W.us.length q4, .slice p5 W.qs.length q5] 29)).alloc (.cells #[.int .i64 0, .int .i64 0, .int .i64 0, .int .i64 0, .slice none 0 0, .slice none 0 0, .slice none 0 0, .slice none 0 0, .slice none 0 0] 29)) (w.heap.size + 1) (.int .i64 0) (.int .i64 0) (.int .i64 0) (.int .i64 0) (.slice none 0 0) (.slice none 0 0) (.slice none 0 0) (.slice none 0 0) (.slice none 0 0)) := Wx.new _ _ _ _ _ _ _ _ _ (by simp)
  have S0 : Hid (w.heap.size + 2 ≤ ((w.alloc (.cells #[.int .i64 W.turn, .int .i64 W.next, .int .i64 W.wide, .int .i64 W.high, .slice p1 W.gs.length q1, .slice p2 W.os.length q2, .slice p3 W.gold.length q3, .slice p4 W.us.length q4, .slice p5 W.qs.length q5] 29)).alloc (.cells #[.int .i64 0, .int .i64 0, .int .i64 0, .int .i64 0, .slice none 0 0, .slice none 0 0, .slice none 0 0, .slice none 0 0, .slice none 0 0] 29)).heap.size) := by unfold Hid; simp
  generalize ((w.alloc (.cells #[.int .i64 W.turn, .int .i64 W.next, .int .i64 W.wide, .int .i64 W.high, .slice p1 W.gs.length q1, .slice p2 W.os.length q2, .slice p3 W.gold.length q3, .slice p4 W.us.length q4, .slice p5 W.qs.length q5] 29)).alloc (.cells #[.int .i64 0, .int .i64 0, .int .i64 0, .int .i64 0, .slice none 0 0, .slice none 0 0, .slice none 0 0, .slice none 0 0, .slice none 0 0] 29)) = w0 at *
  obtain ⟨x0, x1, x2, x3, x4, x5, x6, x7, x8⟩ := X0.out.cells
  go_wp2_with fail
  refine (wcheck_any _ _ ks W w0 (K.out.1.below B0.out) K.out.2 (H.out.below B0.out)).mono ?_
  rintro e w1 ⟨r, rfl, hr, hb1⟩
  clear x0 x1 x2 x3 x4 x5 x6 x7 x8
  have B1 : Hid (Below w.heap.size w w1) := B0.out.trans (hb1.mono B0.out.size)
  have X1 : Hid (Wx w1 w.heap.size (.int .i64 W.turn) (.int .i64 W.next) (.int .i64 W.wide) (.int .i64 W.high) (.slice p1 W.gs.length q1) (.slice p2 W.os.length q2) (.slice p3 W.gold.length q3) (.slice p4 W.us.length q4) (.slice p5 W.qs.length q5)) := X0.out.below hb1 X0.out.lt
  have Z1 : Hid (Wx w1 (w.heap.size + 1) (.int .i64 0) (.int .i64 0) (.int .i64 0) (.int .i64 0) (.slice none 0 0) (.slice none 0 0) (.slice none 0 0) (.slice none 0 0) (.slice none 0 0)) := Z0.out.below hb1 Z0.out.lt
  have S1 : Hid (w.heap.size + 2 ≤ w1.heap.size) := Nat.le_trans S0.out hb1.size
  clear hb1 B0 X0 Z0 S0
  rcases hr with ⟨hf, rfl⟩ | ⟨hf, rfl⟩
  case inr =>
    obtain ⟨fe, hfe⟩ : ∃ f, Wd.wfault ks W = f := ⟨_, rfl⟩
    have HFE : Hid (fe ≠ 0) := by rw [← hfe]; exact hf
    have FE : Hid (Wd.putFault ks W pl kd at_ = fe) := by unfold Hid Wd.putFault; rw [if_neg hf]; exact hfe
    rw [hfe]
    clear hf hfe
    obtain ⟨z0, z1, z2, z3, z4, z5, z6, z7, z8⟩ := Z1.out.cells
    obtain ⟨t0, t1, t2, t3, t4, t5, t6, t7, t8⟩ := Z1.out.thaws
    have KZ : Hid (Kp (w.heap.size + 1) w1 (((((((((w1.setCell ⟨w.heap.size + 1, 0, none⟩ (.int .i64 0)).setCell ⟨w.heap.size + 1, 1, none⟩ (.int .i64 0)).setCell ⟨w.heap.size + 1, 2, none⟩ (.int .i64 0)).setCell ⟨w.heap.size + 1, 3, none⟩ (.int .i64 0)).setCell ⟨w.heap.size + 1, 4, none⟩ (.slice none 0 0)).setCell ⟨w.heap.size + 1, 5, none⟩ (.slice none 0 0)).setCell ⟨w.heap.size + 1, 6, none⟩ (.slice none 0 0)).setCell ⟨w.heap.size + 1, 7, none⟩ (.slice none 0 0)).setCell ⟨w.heap.size + 1, 8, none⟩ (.slice none 0 0))) := put_kp _ _ _ _ _ _ _ _ _ _ _
    obtain ⟨y0, y1, y2, y3, y4, y5, y6, y7, y8⟩ := (Z1.out.put (.int .i64 0) (.int .i64 0) (.int .i64 0) (.int .i64 0) (.slice none 0 0) (.slice none 0 0) (.slice none 0 0) (.slice none 0 0) (.slice none 0 0)).cells
    go_wp2
    clear z0 z1 z2 z3 z4 z5 z6 z7 z8 t0 t1 t2 t3 t4 t5 t6 t7 t8
    generalize (((((((((w1.setCell ⟨w.heap.size + 1, 0, none⟩ (.int .i64 0)).setCell ⟨w.heap.size + 1, 1, none⟩ (.int .i64 0)).setCell ⟨w.heap.size + 1, 2, none⟩ (.int .i64 0)).setCell ⟨w.heap.size + 1, 3, none⟩ (.int .i64 0)).setCell ⟨w.heap.size + 1, 4, none⟩ (.slice none 0 0)).setCell ⟨w.heap.size + 1, 5, none⟩ (.slice none 0 0)).setCell ⟨w.heap.size + 1, 6, none⟩ (.slice none 0 0)).setCell ⟨w.heap.size + 1, 7, none⟩ (.slice none 0 0)).setCell ⟨w.heap.size + 1, 8, none⟩ (.slice none 0 0)) = w9 at *
    refine bodyPost_ret (v := .tuple #[.agg #[.int .i64 0, .int .i64 0, .int .i64 0, .int .i64 0, .slice none 0 0, .slice none 0 0, .slice none 0 0, .slice none 0 0, .slice none 0 0], .iface 53 (.int .i64 fe)]) (by simp [results, Try.results17, go_sem, y0, y1, y2, y3, y4, y5, y6, y7, y8]) rfl ⟨_, _, rfl, by rw [FE.out]; exact Er.no HFE.out, by rw [placed_bad (by rw [FE.out]; exact HFE.out)]; exact zero_wo _ _, KZ.out.below B1.out B1.out.size (by omega)⟩
  have HF : Hid (Wd.wfault ks W = 0) := hf
  have PF : Hid (Wd.putFault ks W pl kd at_ = Wd.placeFault ks W pl kd at_) := by unfold Hid Wd.putFault; rw [if_pos hf]
  have RT : Hid (WRight ks W) := wright_of hf
  clear hf
  obtain ⟨x0, x1, x2, x3, x4, x5, x6, x7, x8⟩ := X1.out.cells
  go_wp2_with fail
  refine (cplace_any _ _ ks W pl kd at_ w1 (K.out.1.below B1.out) (H.out.below B1.out) RT.out).mono ?_
  rintro e w2 ⟨r, rfl, hr, hb2⟩
  clear x0 x1 x2 x3 x4 x5 x6 x7 x8
  have B2 : Hid (Below w.heap.size w w2) := B1.out.trans (hb2.mono B1.out.size)
  have X2 : Hid (Wx w2 w.heap.size (.int .i64 W.turn) (.int .i64 W.next) (.int .i64 W.wide) (.int .i64 W.high) (.slice p1 W.gs.length q1) (.slice p2 W.os.length q2) (.slice p3 W.gold.length q3) (.slice p4 W.us.length q4) (.slice p5 W.qs.length q5)) := X1.out.below hb2 X1.out.lt
  have Z2 : Hid (Wx w2 (w.heap.size + 1) (.int .i64 0) (.int .i64 0) (.int .i64 0) (.int .i64 0) (.slice none 0 0) (.slice none 0 0) (.slice none 0 0) (.slice none 0 0) (.slice none 0 0)) := Z1.out.below hb2 Z1.out.lt
  have S2 : Hid (w.heap.size + 2 ≤ w2.heap.size) := Nat.le_trans S1.out hb2.size
  clear hb2 B1 X1 Z1 S1
  rcases hr with ⟨hf, rfl⟩ | ⟨hf, rfl⟩
  case inr =>
    obtain ⟨fe, hfe⟩ : ∃ f, Wd.placeFault ks W pl kd at_ = f := ⟨_, rfl⟩
    have HFE : Hid (fe ≠ 0) := by rw [← hfe]; exact hf
    have FE : Hid (Wd.putFault ks W pl kd at_ = fe) := by unfold Hid; rw [PF.out]; exact hfe
    rw [hfe]
    clear hf hfe
    obtain ⟨z0, z1, z2, z3, z4, z5, z6, z7, z8⟩ := Z2.out.cells
    obtain ⟨t0, t1, t2, t3, t4, t5, t6, t7, t8⟩ := Z2.out.thaws
    have KZ : Hid (Kp (w.heap.size + 1) w2 (((((((((w2.setCell ⟨w.heap.size + 1, 0, none⟩ (.int .i64 0)).setCell ⟨w.heap.size + 1, 1, none⟩ (.int .i64 0)).setCell ⟨w.heap.size + 1, 2, none⟩ (.int .i64 0)).setCell ⟨w.heap.size + 1, 3, none⟩ (.int .i64 0)).setCell ⟨w.heap.size + 1, 4, none⟩ (.slice none 0 0)).setCell ⟨w.heap.size + 1, 5, none⟩ (.slice none 0 0)).setCell ⟨w.heap.size + 1, 6, none⟩ (.slice none 0 0)).setCell ⟨w.heap.size + 1, 7, none⟩ (.slice none 0 0)).setCell ⟨w.heap.size + 1, 8, none⟩ (.slice none 0 0))) := put_kp _ _ _ _ _ _ _ _ _ _ _
    obtain ⟨y0, y1, y2, y3, y4, y5, y6, y7, y8⟩ := (Z2.out.put (.int .i64 0) (.int .i64 0) (.int .i64 0) (.int .i64 0) (.slice none 0 0) (.slice none 0 0) (.slice none 0 0) (.slice none 0 0) (.slice none 0 0)).cells
    go_wp2
    clear z0 z1 z2 z3 z4 z5 z6 z7 z8 t0 t1 t2 t3 t4 t5 t6 t7 t8
    generalize (((((((((w2.setCell ⟨w.heap.size + 1, 0, none⟩ (.int .i64 0)).setCell ⟨w.heap.size + 1, 1, none⟩ (.int .i64 0)).setCell ⟨w.heap.size + 1, 2, none⟩ (.int .i64 0)).setCell ⟨w.heap.size + 1, 3, none⟩ (.int .i64 0)).setCell ⟨w.heap.size + 1, 4, none⟩ (.slice none 0 0)).setCell ⟨w.heap.size + 1, 5, none⟩ (.slice none 0 0)).setCell ⟨w.heap.size + 1, 6, none⟩ (.slice none 0 0)).setCell ⟨w.heap.size + 1, 7, none⟩ (.slice none 0 0)).setCell ⟨w.heap.size + 1, 8, none⟩ (.slice none 0 0)) = w9 at *
    refine bodyPost_ret (v := .tuple #[.agg #[.int .i64 0, .int .i64 0, .int .i64 0, .int .i64 0, .slice none 0 0, .slice none 0 0, .slice none 0 0, .slice none 0 0, .slice none 0 0], .iface 53 (.int .i64 fe)]) (by simp [results, Try.results17, go_sem, y0, y1, y2, y3, y4, y5, y6, y7, y8]) rfl ⟨_, _, rfl, by rw [FE.out]; exact Er.no HFE.out, by rw [placed_bad (by rw [FE.out]; exact HFE.out)]; exact zero_wo _ _, KZ.out.below B2.out B2.out.size (by omega)⟩
  obtain ⟨h40, hpl, hat, kn, k, rfl, hkn, hkk, hop⟩ := pf_zero hf
  have P0 : Hid (Wd.putFault ks W pl (kn : Nat) at_ = 0) := by unfold Hid; rw [PF.out]; exact hf
  have NU : Hid (Wd.newUnit ks W pl (kn : Nat) at_ = ⟨W.next, pl, (kn : Nat), at_, k.n0, 0, 0, 0⟩) := by unfold Hid Wd.newUnit; rw [Int.toNat_natCast, hkk]
  have L40 : Hid (W.us.length < 40) := by unfold Hid; omega
  have hnx : W.next < 1000000 := by omega
  have hn1 : 1 ≤ W.next := by
    have := (nums_ok RT.out.nums).1
    unfold Wd.off at this
    simp at this
    omega
  obtain ⟨xk, rfl, hxl, hxc⟩ := KC.out (by intro e; rw [e] at hkn; simp at hkn)
  have HK : Hid (Kc w (xk.add (kn * 11)) k ∧ (xk.add (kn * 11)).block < w.heap.size) := ⟨hxc kn k hkk, by rw [add_block]; exact hxl⟩
  have hki : (kn : Int) < (ks.length : Int) := by omega
  clear hf h40 hpl hat hkn hkk hop hxc hxl
  obtain ⟨x0, x1, x2, x3, x4, x5, x6, x7, x8⟩ := X2.out.cells
  go_wp2_with fail
  refine (copy_any _ W w2 (H.out.below B2.out) RT.out.len).mono ?_
  rintro e w3 ⟨u, rfl, ho, hb3⟩
  clear x0 x1 x2 x3 x4 x5 x6 x7 x8
  have B3 : Hid (Below w.heap.size w w3) := B2.out.trans (hb3.mono B2.out.size)
  have X3 : Hid (Wx w3 w.heap.size (.int .i64 W.turn) (.int .i64 W.next) (.int .i64 W.wide) (.int .i64 W.high) (.slice p1 W.gs.length q1) (.slice p2 W.os.length q2) (.slice p3 W.gold.length q3) (.slice p4 W.us.length q4) (.slice p5 W.qs.length q5)) := X2.out.below hb3 X2.out.lt
  have Z3 : Hid (Wx w3 (w.heap.size + 1) (.int .i64 0) (.int .i64 0) (.int .i64 0) (.int .i64 0) (.slice none 0 0) (.slice none 0 0) (.slice none 0 0) (.slice none 0 0) (.slice none 0 0)) := Z2.out.below hb3 Z2.out.lt
  have S3 : Hid (w.heap.size + 2 ≤ w3.heap.size) := Nat.le_trans S2.out hb3.size
  obtain ⟨v1, v2, v3, v4, v5, rfl, ⟨o1, o2, o3, o4, o5⟩, -, -, d14, -, -, d24, -, d34, -, d45⟩ := ho.mono S2.out
  have O1 : Hid (Ow w3 (w.heap.size + 2) v1 W.gs ∧ Ow w3 (w.heap.size + 2) v2 W.os ∧ Ow w3 (w.heap.size + 2) v3 W.gold ∧ Uno w3 (w.heap.size + 2) v4 W.us ∧ Jbo w3 (w.heap.size + 2) v5 W.qs) := ⟨o1, o2, o3, o4, o5⟩
  have DD : Hid (Dif v1 v4 ∧ Dif v2 v4 ∧ Dif v3 v4 ∧ Dif v5 v4) := ⟨d14, d24, d34, d45.symm⟩
  clear d14 d24 d34 d45
  obtain ⟨a1, b1, rfl⟩ := o1.len
  obtain ⟨a2, b2, rfl⟩ := o2.len
  obtain ⟨a3, b3, rfl⟩ := o3.len
  obtain ⟨a4, b4, rfl⟩ := o4.len
  obtain ⟨a5, b5, rfl⟩ := o5.len
  clear ho hb3 B2 X2 Z2 S2 o1 o2 o3 o4 o5
  obtain ⟨x0, x1, x2, x3, x4, x5, x6, x7, x8⟩ := X3.out.cells
  obtain ⟨t0, t1, t2, t3, t4, t5, t6, t7, t8⟩ := X3.out.thaws
  have K4 : Hid (Kp w.heap.size w3 (((((((((w3.setCell ⟨w.heap.size, 0, none⟩ (.int .i64 W.turn)).setCell ⟨w.heap.size, 1, none⟩ (.int .i64 W.next)).setCell ⟨w.heap.size, 2, none⟩ (.int .i64 W.wide)).setCell ⟨w.heap.size, 3, none⟩ (.int .i64 W.high)).setCell ⟨w.heap.size, 4, none⟩ (.slice a1 W.gs.length b1)).setCell ⟨w.heap.size, 5, none⟩ (.slice a2 W.os.length b2)).setCell ⟨w.heap.size, 6, none⟩ (.slice a3 W.gold.length b3)).setCell ⟨w.heap.size, 7, none⟩ (.slice a4 W.us.length b4)).setCell ⟨w.heap.size, 8, none⟩ (.slice a5 W.qs.length b5))) := put_kp _ _ _ _ _ _ _ _ _ _ _
  have X4 : Hid (Wx (((((((((w3.setCell ⟨w.heap.size, 0, none⟩ (.int .i64 W.turn)).setCell ⟨w.heap.size, 1, none⟩ (.int .i64 W.next)).setCell ⟨w.heap.size, 2, none⟩ (.int .i64 W.wide)).setCell ⟨w.heap.size, 3, none⟩ (.int .i64 W.high)).setCell ⟨w.heap.size, 4, none⟩ (.slice a1 W.gs.length b1)).setCell ⟨w.heap.size, 5, none⟩ (.slice a2 W.os.length b2)).setCell ⟨w.heap.size, 6, none⟩ (.slice a3 W.gold.length b3)).setCell ⟨w.heap.size, 7, none⟩ (.slice a4 W.us.length b4)).setCell ⟨w.heap.size, 8, none⟩ (.slice a5 W.qs.length b5)) w.heap.size (.int .i64 W.turn) (.int .i64 W.next) (.int .i64 W.wide) (.int .i64 W.high) (.slice a1 W.gs.length b1) (.slice a2 W.os.length b2) (.slice a3 W.gold.length b3) (.slice a4 W.us.length b4) (.slice a5 W.qs.length b5)) := X3.out.put (.int .i64 W.turn) (.int .i64 W.next) (.int .i64 W.wide) (.int .i64 W.high) (.slice a1 W.gs.length b1) (.slice a2 W.os.length b2) (.slice a3 W.gold.length b3) (.slice a4 W.us.length b4) (.slice a5 W.qs.length b5)
  go_upto_region 8 with fail
  clear x0 x1 x2 x3 x4 x5 x6 x7 x8 t0 t1 t2 t3 t4 t5 t6 t7 t8
  generalize (((((((((w3.setCell ⟨w.heap.size, 0, none⟩ (.int .i64 W.turn)).setCell ⟨w.heap.size, 1, none⟩ (.int .i64 W.next)).setCell ⟨w.heap.size, 2, none⟩ (.int .i64 W.wide)).setCell ⟨w.heap.size, 3, none⟩ (.int .i64 W.high)).setCell ⟨w.heap.size, 4, none⟩ (.slice a1 W.gs.length b1)).setCell ⟨w.heap.size, 5, none⟩ (.slice a2 W.os.length b2)).setCell ⟨w.heap.size, 6, none⟩ (.slice a3 W.gold.length b3)).setCell ⟨w.heap.size, 7, none⟩ (.slice a4 W.us.length b4)).setCell ⟨w.heap.size, 8, none⟩ (.slice a5 W.qs.length b5)) = w4 at *
  have B4 : Hid (Below w.heap.size w w4) := K4.out.below B3.out B3.out.size (Nat.le_refl _)
  have Z4 : Hid (Wx w4 (w.heap.size + 1) (.int .i64 0) (.int .i64 0) (.int .i64 0) (.int .i64 0) (.slice none 0 0) (.slice none 0 0) (.slice none 0 0) (.slice none 0 0) (.slice none 0 0)) := Z3.out.kp K4.out (by omega)
  have S4 : Hid (w.heap.size + 2 ≤ w4.heap.size) := Nat.le_trans S3.out K4.out.size
  have O4 : Hid (Ow w4 (w.heap.size + 2) (.slice a1 W.gs.length b1) W.gs ∧ Ow w4 (w.heap.size + 2) (.slice a2 W.os.length b2) W.os ∧ Ow w4 (w.heap.size + 2) (.slice a3 W.gold.length b3) W.gold ∧ Uno w4 (w.heap.size + 2) (.slice a4 W.us.length b4) W.us ∧ Jbo w4 (w.heap.size + 2) (.slice a5 W.qs.length b5) W.qs) :=
    ⟨O1.out.1.kp K4.out (by omega), O1.out.2.1.kp K4.out (by omega), O1.out.2.2.1.kp K4.out (by omega), O1.out.2.2.2.1.kp K4.out (by omega), O1.out.2.2.2.2.kp K4.out (by omega)⟩
  clear K4 B3 X3 Z3 S3 O1
  -- the region that draws
  refine wp_region_two [(true, 0), (true, 1), (true, 2), (true, 3), (true, 4), (true, 5), (true, 6), (true, 7), (true, 8), (true, 9), (true, 10), (true, 11), (true, 12), (false, 13), (false, 14)] [(false, 15), (false, 16)] (fun V => V.cell? ⟨w.heap.size, 7, none⟩ = some (.slice a4 W.us.length b4) ∧ V.cell? ⟨w.heap.size, 1, none⟩ = some (.int .i64 W.next) ∧ V.cell? ⟨(xk.add (kn * 11)).block, (xk.add (kn * 11)).off + 1, none⟩ = some (.int .i64 k.n0)) (by kernel_rfl) (by kernel_rfl) (by kernel_rfl) (by kernel_rfl) (by kernel_rfl) ?_ ?_
  · obtain ⟨-, x1, -, -, -, -, -, x7, -⟩ := X4.out.cells
    exact ⟨x7, x1, (HK.out.1.below B4.out HK.out.2).c1⟩
  have X5 : Hid (Wx { w4 with drawn := w4.drawn + 1 } w.heap.size (.int .i64 W.turn) (.int .i64 W.next) (.int .i64 W.wide) (.int .i64 W.high) (.slice a1 W.gs.length b1) (.slice a2 W.os.length b2) (.slice a3 W.gold.length b3) (.slice a4 W.us.length b4) (.slice a5 W.qs.length b5)) := X4.out
  have B5 : Hid (Below w.heap.size w { w4 with drawn := w4.drawn + 1 }) := B4.out.drew
  have Z5 : Hid (Wx { w4 with drawn := w4.drawn + 1 } (w.heap.size + 1) (.int .i64 0) (.int .i64 0) (.int .i64 0) (.int .i64 0) (.slice none 0 0) (.slice none 0 0) (.slice none 0 0) (.slice none 0 0) (.slice none 0 0)) := Z4.out
  have S5 : Hid (w.heap.size + 2 ≤ ({ w4 with drawn := w4.drawn + 1 } : World).heap.size) := S4.out
  have D5 : Hid (Below w4.heap.size w4 { w4 with drawn := w4.drawn + 1 }) := (Below.refl _ _).drew
  generalize ({ w4 with drawn := w4.drawn + 1 } : World) = w5 at *
  have O5 : Hid (Ow w5 (w.heap.size + 2) (.slice a1 W.gs.length b1) W.gs ∧ Ow w5 (w.heap.size + 2) (.slice a2 W.os.length b2) W.os ∧ Ow w5 (w.heap.size + 2) (.slice a3 W.gold.length b3) W.gold ∧ Uno w5 (w.heap.size + 2) (.slice a4 W.us.length b4) W.us ∧ Jbo w5 (w.heap.size + 2) (.slice a5 W.qs.length b5) W.qs) :=
    ⟨O4.out.1.below D5.out, O4.out.2.1.below D5.out, O4.out.2.2.1.below D5.out, O4.out.2.2.2.1.below D5.out, O4.out.2.2.2.2.below D5.out⟩
  clear X4 B4 Z4 S4 O4 D5
  refine headT_read rfl (.pointer (some ⟨w.heap.size, 7, none⟩)) (by go_simp) (fun V hV => by go_simp) ?_
  go_simp
  refine headT_read rfl (.slice a4 W.us.length b4) (by go_simp) (fun V hV => by obtain ⟨f7, f1, fk⟩ := hV; go_simp) ?_
  go_simp
  refine headT_read rfl (.pointer (some ⟨w.heap.size, 1, none⟩)) (by go_simp) (fun V hV => by go_simp) ?_
  go_simp
  refine headT_read rfl (.int .i64 W.next) (by go_simp) (fun V hV => by obtain ⟨f7, f1, fk⟩ := hV; go_simp) ?_
  go_simp
  refine headT_read rfl (.int .i64 pl) (by go_simp) (fun V hV => by go_simp) ?_
  go_simp
  refine headT_read rfl (.int .i64 (kn : Nat)) (by go_simp) (fun V hV => by go_simp) ?_
  go_simp
  refine headT_read rfl (.int .i64 at_) (by go_simp) (fun V hV => by go_simp) ?_
  go_simp
  refine headT_read rfl (.slice (some xk) ks.length qk) (by go_simp) (fun V hV => by go_simp) ?_
  go_simp
  refine headT_read rfl (.int .i64 (kn : Nat)) (by go_simp) (fun V hV => by go_simp) ?_
  go_simp
  refine headT_read rfl (.pointer (some (xk.add (kn * 11)))) (by go_simp) (fun V hV => by go_simp) ?_
  go_simp
  refine headT_read rfl (.pointer (some ⟨(xk.add (kn * 11)).block, (xk.add (kn * 11)).off + 1, none⟩)) (by go_simp) (fun V hV => by go_simp) ?_
  go_simp
  refine headT_read rfl (.int .i64 k.n0) (by go_simp) (fun V hV => by obtain ⟨f7, f1, fk⟩ := hV; go_simp) ?_
  go_simp
  refine headT_read rfl (.agg #[.int .i64 W.next, .int .i64 pl, .int .i64 (kn : Nat), .int .i64 at_, .int .i64 k.n0, .int .i64 0, .int .i64 0, .int .i64 0]) (by go_simp) (fun V hV => by go_simp) ?_
  go_simp
  have CL : Hid (∀ V, Wx V w.heap.size (.int .i64 W.turn) (.int .i64 W.next) (.int .i64 W.wide) (.int .i64 W.high) (.slice a1 W.gs.length b1) (.slice a2 W.os.length b2) (.slice a3 W.gold.length b3) (.slice a4 W.us.length b4) (.slice a5 W.qs.length b5) → Below w.heap.size w V → V.cell? ⟨w.heap.size, 7, none⟩ = some (.slice a4 W.us.length b4) ∧ V.cell? ⟨w.heap.size, 1, none⟩ = some (.int .i64 W.next) ∧ V.cell? ⟨(xk.add (kn * 11)).block, (xk.add (kn * 11)).off + 1, none⟩ = some (.int .i64 k.n0)) := fun V hX hB => by
    obtain ⟨-, x1, -, -, -, -, -, x7, -⟩ := hX.cells
    exact ⟨x7, x1, (HK.out.1.below hB HK.out.2).c1⟩
  have BA : Hid (Below w5.heap.size w5 (w5.alloc (.cells #[.int .i64 W.next, .int .i64 pl, .int .i64 (kn : Nat), .int .i64 at_, .int .i64 k.n0, .int .i64 0, .int .i64 0, .int .i64 0] 41))) := (Below.refl _ _).alloc (Nat.le_refl _) _
  have SA : Hid ((w5.alloc (.cells #[.int .i64 W.next, .int .i64 pl, .int .i64 (kn : Nat), .int .i64 at_, .int .i64 k.n0, .int .i64 0, .int .i64 0, .int .i64 0] 41)).heap.size = w5.heap.size + 1) := by unfold Hid; simp
  have UA : Hid (Unc (w5.alloc (.cells #[.int .i64 W.next, .int .i64 pl, .int .i64 (kn : Nat), .int .i64 at_, .int .i64 k.n0, .int .i64 0, .int .i64 0, .int .i64 0] 41)) ⟨w5.heap.size, 0, none⟩ (⟨W.next, pl, (kn : Nat), at_, k.n0, 0, 0, 0⟩ : UnV)) := Unc.mk' (w := w5) (⟨W.next, pl, (kn : Nat), at_, k.n0, 0, 0, 0⟩ : UnV) rfl
  have OA : Hid (Uno (w5.alloc (.cells #[.int .i64 W.next, .int .i64 pl, .int .i64 (kn : Nat), .int .i64 at_, .int .i64 k.n0, .int .i64 0, .int .i64 0, .int .i64 0] 41)) (w.heap.size + 2) (.slice a4 W.us.length b4) W.us) := O5.out.2.2.2.1.alloc _
  have XA : Hid (Wx (w5.alloc (.cells #[.int .i64 W.next, .int .i64 pl, .int .i64 (kn : Nat), .int .i64 at_, .int .i64 k.n0, .int .i64 0, .int .i64 0, .int .i64 0] 41)) w.heap.size (.int .i64 W.turn) (.int .i64 W.next) (.int .i64 W.wide) (.int .i64 W.high) (.slice a1 W.gs.length b1) (.slice a2 W.os.length b2) (.slice a3 W.gold.length b3) (.slice a4 W.us.length b4) (.slice a5 W.qs.length b5)) := X5.out.below BA.out X5.out.lt
  have BB : Hid (Below w.heap.size w (w5.alloc (.cells #[.int .i64 W.next, .int .i64 pl, .int .i64 (kn : Nat), .int .i64 at_, .int .i64 k.n0, .int .i64 0, .int .i64 0, .int .i64 0] 41))) := B5.out.trans (BA.out.mono B5.out.size)
  refine headT_value rfl (.slice (some ⟨w5.heap.size, 0, none⟩) 1 1) (w5.alloc (.cells #[.int .i64 W.next, .int .i64 pl, .int .i64 (kn : Nat), .int .i64 at_, .int .i64 k.n0, .int .i64 0, .int .i64 0, .int .i64 0] 41)) (by go_simp) (by go_simp) (CL.out _ XA.out BB.out) ?_
  go_simp
  generalize (w5.alloc (.cells #[.int .i64 W.next, .int .i64 pl, .int .i64 (kn : Nat), .int .i64 at_, .int .i64 k.n0, .int .i64 0, .int .i64 0, .int .i64 0] 41)) = wa at *
  obtain ⟨i0, hi, hz0, hz1, hz2⟩ := info_parts info_un
  obtain ⟨g, cap, w6, hr, ho6, hg6, ha6, hl6⟩ := run_append_lies (P := Try.prog) wa 26 26 (w.heap.size + 2) 41 i0 _ 8 64 Try.underlying26 hi hz0 hz1 hz2 rfl (by decide) (.slice a4 W.us.length b4) W.us.length _ OA.out ⟨w5.heap.size, 0, none⟩ 1 1 (UnV.cs (⟨W.next, pl, (kn : Nat), at_, k.n0, 0, 0, 0⟩ : UnV)) rfl (fun j u hj => by
    have hd := UA.out
    have hjn : j < 8 := (List.getElem?_eq_some_iff.1 hj).1
    rw [Addr.add_lit, Nat.zero_add]
    match j, hjn, hj with
    | 0, _, hj => simp [UnV.cs] at hj; subst hj; exact hd.c0
    | 1, _, hj => simp [UnV.cs] at hj; subst hj; exact hd.c1
    | 2, _, hj => simp [UnV.cs] at hj; subst hj; exact hd.c2
    | 3, _, hj => simp [UnV.cs] at hj; subst hj; exact hd.c3
    | 4, _, hj => simp [UnV.cs] at hj; subst hj; exact hd.c4
    | 5, _, hj => simp [UnV.cs] at hj; subst hj; exact hd.c5
    | 6, _, hj => simp [UnV.cs] at hj; subst hj; exact hd.c6
    | 7, _, hj => simp [UnV.cs] at hj; subst hj; exact hd.c7) (fun u hu => by
    simp [UnV.cs] at hu
    rcases hu with rfl | rfl | rfl | rfl | rfl | rfl | rfl | rfl <;> rfl) (by decide) (by have := L40.out; unfold maxLen; omega) (by have := L40.out; omega) (by have := S5.out; have := SA.out; omega) _ rfl
  have ON : Hid (Uno w6 (w.heap.size + 2) (.slice (some ⟨g, 0, none⟩) (W.us.length + 1) cap) (W.us ++ [(⟨W.next, pl, (kn : Nat), at_, k.n0, 0, 0, 0⟩ : UnV)])) := by
    unfold Hid Uno
    rw [List.length_append, List.flatMap_append]
    simpa using ho6
  have GB : Hid (∀ b, ((.slice a4 W.us.length b4) : Value).ownBlock = some b → w.heap.size + 2 ≤ b) := fun b hb => (OA.out.block b hb).1
  have BG : Hid (Below (w.heap.size + 2) wa w6) := (Below.refl _ _).grown hg6 (by have := S5.out; have := SA.out; omega) (fun b hb => GB.out b hb)
  have X6 : Hid (Wx w6 w.heap.size (.int .i64 W.turn) (.int .i64 W.next) (.int .i64 W.wide) (.int .i64 W.high) (.slice a1 W.gs.length b1) (.slice a2 W.os.length b2) (.slice a3 W.gold.length b3) (.slice a4 W.us.length b4) (.slice a5 W.qs.length b5)) := XA.out.below BG.out (by omega)
  have Z6 : Hid (Wx w6 (w.heap.size + 1) (.int .i64 0) (.int .i64 0) (.int .i64 0) (.int .i64 0) (.slice none 0 0) (.slice none 0 0) (.slice none 0 0) (.slice none 0 0) (.slice none 0 0)) := (Z5.out.below BA.out Z5.out.lt).below BG.out (by omega)
  have B6 : Hid (Below w.heap.size w w6) := BB.out.trans (BG.out.mono (by omega))
  refine headT_value rfl (.slice (some ⟨g, 0, none⟩) (W.us.length + 1) cap) w6 (by go_simp) (exec_append _ _ _ _ rfl _ _ (by go_simp) (by go_simp) hr) (CL.out _ X6.out B6.out) ?_
  have S6 : Hid (w.heap.size + 2 ≤ w6.heap.size) := by have := S5.out; have := SA.out; have := BG.out.size; unfold Hid; omega
  have N1 : Hid (Ow w6 (w.heap.size + 2) (.slice a1 W.gs.length b1) W.gs) := ((O5.out.1).below BA.out).kept hg6 DD.out.1.ne
  have N2 : Hid (Ow w6 (w.heap.size + 2) (.slice a2 W.os.length b2) W.os) := ((O5.out.2.1).below BA.out).kept hg6 DD.out.2.1.ne
  have N3 : Hid (Ow w6 (w.heap.size + 2) (.slice a3 W.gold.length b3) W.gold) := ((O5.out.2.2.1).below BA.out).kept hg6 DD.out.2.2.1.ne
  have N5 : Hid (Jbo w6 (w.heap.size + 2) (.slice a5 W.qs.length b5) W.qs) := ((O5.out.2.2.2.2).below BA.out).kept hg6 DD.out.2.2.2.ne
  clear hr ho6 hg6 ha6 hl6 hi hz0 hz1 hz2 BG GB OA UA XA BB BA X5 Z5 S5 B5 O5 CL SA DD
  go_simp
  unfold wpHeadT
  refine sched_value rfl (.pointer (some ⟨w.heap.size, 7, none⟩)) w6 (by go_simp) (by go_simp) trivial ?_
  go_simp
  have K7 : Hid (Kp w.heap.size w6 (w6.setCell ⟨w.heap.size, 7, none⟩ (.slice (some ⟨g, 0, none⟩) (W.us.length + 1) cap))) := Kp.set _ _ _
  have X7 : Hid (Wx (w6.setCell ⟨w.heap.size, 7, none⟩ (.slice (some ⟨g, 0, none⟩) (W.us.length + 1) cap)) w.heap.size (.int .i64 W.turn) (.int .i64 W.next) (.int .i64 W.wide) (.int .i64 W.high) (.slice a1 W.gs.length b1) (.slice a2 W.os.length b2) (.slice a3 W.gold.length b3) (.slice (some ⟨g, 0, none⟩) (W.us.length + 1) cap) (.slice a5 W.qs.length b5)) := X6.out.set7 _
  have t7 := X6.out.thaw 7
  obtain ⟨-, -, -, -, -, -, -, x7, -⟩ := X6.out.cells
  refine sched_skip rfl (w6.setCell ⟨w.heap.size, 7, none⟩ (.slice (some ⟨g, 0, none⟩) (W.us.length + 1) cap)) (by go_simp) (by go_simp) trivial ?_
  go_simp
  clear t7 x7
  generalize (w6.setCell ⟨w.heap.size, 7, none⟩ (.slice (some ⟨g, 0, none⟩) (W.us.length + 1) cap)) = w7 at *
  have B7 : Hid (Below w.heap.size w w7) := K7.out.below B6.out B6.out.size (Nat.le_refl _)
  have Z7 : Hid (Wx w7 (w.heap.size + 1) (.int .i64 0) (.int .i64 0) (.int .i64 0) (.int .i64 0) (.slice none 0 0) (.slice none 0 0) (.slice none 0 0) (.slice none 0 0) (.slice none 0 0)) := Z6.out.kp K7.out (by omega)
  have S7 : Hid (w.heap.size + 2 ≤ w7.heap.size) := Nat.le_trans S6.out K7.out.size
  have M : Hid (Ow w7 (w.heap.size + 2) (.slice a1 W.gs.length b1) W.gs ∧ Ow w7 (w.heap.size + 2) (.slice a2 W.os.length b2) W.os ∧ Ow w7 (w.heap.size + 2) (.slice a3 W.gold.length b3) W.gold ∧ Uno w7 (w.heap.size + 2) (.slice (some ⟨g, 0, none⟩) (W.us.length + 1) cap) (W.us ++ [(⟨W.next, pl, (kn : Nat), at_, k.n0, 0, 0, 0⟩ : UnV)]) ∧ Jbo w7 (w.heap.size + 2) (.slice a5 W.qs.length b5) W.qs) :=
    ⟨N1.out.kp K7.out (by omega), N2.out.kp K7.out (by omega), N3.out.kp K7.out (by omega), ON.out.kp K7.out (by omega), N5.out.kp K7.out (by omega)⟩
  clear K7 B6 Z6 S6 N1 N2 N3 N5 ON X6
  unfold wpSched
  have wn : IntKind.i64.wrap (W.next + 1) = W.next + 1 := by rw [IntKind.wrap_i64]; omega
  have K8 : Hid (Kp w.heap.size w7 (w7.setCell ⟨w.heap.size, 1, none⟩ (.int .i64 (W.next + 1)))) := Kp.set _ _ _
  have X8 : Hid (Wx (w7.setCell ⟨w.heap.size, 1, none⟩ (.int .i64 (W.next + 1))) w.heap.size (.int .i64 W.turn) (.int .i64 (W.next + 1)) (.int .i64 W.wide) (.int .i64 W.high) (.slice a1 W.gs.length b1) (.slice a2 W.os.length b2) (.slice a3 W.gold.length b3) (.slice (some ⟨g, 0, none⟩) (W.us.length + 1) cap) (.slice a5 W.qs.length b5)) := X7.out.set1 _
  have t1 := X7.out.thaw 1
  obtain ⟨-, x1, -, -, -, -, -, -, -⟩ := X7.out.cells
  go_upto_region 10 with fail
  clear t1 x1 wn
  generalize (w7.setCell ⟨w.heap.size, 1, none⟩ (.int .i64 (W.next + 1))) = w8 at *
  have B8 : Hid (Below w.heap.size w w8) := K8.out.below B7.out B7.out.size (Nat.le_refl _)
  have Z8 : Hid (Wx w8 (w.heap.size + 1) (.int .i64 0) (.int .i64 0) (.int .i64 0) (.int .i64 0) (.slice none 0 0) (.slice none 0 0) (.slice none 0 0) (.slice none 0 0) (.slice none 0 0)) := Z7.out.kp K8.out (by omega)
  have S8 : Hid (w.heap.size + 2 ≤ w8.heap.size) := Nat.le_trans S7.out K8.out.size
  have M8 : Hid (Ow w8 (w.heap.size + 2) (.slice a1 W.gs.length b1) W.gs ∧ Ow w8 (w.heap.size + 2) (.slice a2 W.os.length b2) W.os ∧ Ow w8 (w.heap.size + 2) (.slice a3 W.gold.length b3) W.gold ∧ Uno w8 (w.heap.size + 2) (.slice (some ⟨g, 0, none⟩) (W.us.length + 1) cap) (W.us ++ [(⟨W.next, pl, (kn : Nat), at_, k.n0, 0, 0, 0⟩ : UnV)]) ∧ Jbo w8 (w.heap.size + 2) (.slice a5 W.qs.length b5) W.qs) :=
    ⟨M.out.1.kp K8.out (by omega), M.out.2.1.kp K8.out (by omega), M.out.2.2.1.kp K8.out (by omega), M.out.2.2.2.1.kp K8.out (by omega), M.out.2.2.2.2.kp K8.out (by omega)⟩
  clear K8 B7 Z7 S7 M X7
  obtain ⟨x0, x1, x2, x3, x4, x5, x6, x7, x8⟩ := X8.out.cells
  obtain ⟨z0, z1, z2, z3, z4, z5, z6, z7, z8⟩ := Z8.out.cells
  obtain ⟨t0, t1, t2, t3, t4, t5, t6, t7, t8⟩ := Z8.out.thaws
  have KZ : Hid (Kp (w.heap.size + 1) w8 (((((((((w8.setCell ⟨w.heap.size + 1, 0, none⟩ (.int .i64 W.turn)).setCell ⟨w.heap.size + 1, 1, none⟩ (.int .i64 (W.next + 1))).setCell ⟨w.heap.size + 1, 2, none⟩ (.int .i64 W.wide)).setCell ⟨w.heap.size + 1, 3, none⟩ (.int .i64 W.high)).setCell ⟨w.heap.size + 1, 4, none⟩ (.slice a1 W.gs.length b1)).setCell ⟨w.heap.size + 1, 5, none⟩ (.slice a2 W.os.length b2)).setCell ⟨w.heap.size + 1, 6, none⟩ (.slice a3 W.gold.length b3)).setCell ⟨w.heap.size + 1, 7, none⟩ (.slice (some ⟨g, 0, none⟩) (W.us.length + 1) cap)).setCell ⟨w.heap.size + 1, 8, none⟩ (.slice a5 W.qs.length b5))) := put_kp _ _ _ _ _ _ _ _ _ _ _
  obtain ⟨y0, y1, y2, y3, y4, y5, y6, y7, y8⟩ := (Z8.out.put (.int .i64 W.turn) (.int .i64 (W.next + 1)) (.int .i64 W.wide) (.int .i64 W.high) (.slice a1 W.gs.length b1) (.slice a2 W.os.length b2) (.slice a3 W.gold.length b3) (.slice (some ⟨g, 0, none⟩) (W.us.length + 1) cap) (.slice a5 W.qs.length b5)).cells
  go_wp2
  clear x0 x1 x2 x3 x4 x5 x6 x7 x8 z0 z1 z2 z3 z4 z5 z6 z7 z8 t0 t1 t2 t3 t4 t5 t6 t7 t8
  generalize (((((((((w8.setCell ⟨w.heap.size + 1, 0, none⟩ (.int .i64 W.turn)).setCell ⟨w.heap.size + 1, 1, none⟩ (.int .i64 (W.next + 1))).setCell ⟨w.heap.size + 1, 2, none⟩ (.int .i64 W.wide)).setCell ⟨w.heap.size + 1, 3, none⟩ (.int .i64 W.high)).setCell ⟨w.heap.size + 1, 4, none⟩ (.slice a1 W.gs.length b1)).setCell ⟨w.heap.size + 1, 5, none⟩ (.slice a2 W.os.length b2)).setCell ⟨w.heap.size + 1, 6, none⟩ (.slice a3 W.gold.length b3)).setCell ⟨w.heap.size + 1, 7, none⟩ (.slice (some ⟨g, 0, none⟩) (W.us.length + 1) cap)).setCell ⟨w.heap.size + 1, 8, none⟩ (.slice a5 W.qs.length b5)) = w9 at *
  refine bodyPost_ret (v := .tuple #[.agg #[.int .i64 W.turn, .int .i64 (W.next + 1), .int .i64 W.wide, .int .i64 W.high, .slice a1 W.gs.length b1, .slice a2 W.os.length b2, .slice a3 W.gold.length b3, .slice (some ⟨g, 0, none⟩) (W.us.length + 1) cap, .slice a5 W.qs.length b5], .nilIface]) (by simp [results, Try.results17, go_sem, y0, y1, y2, y3, y4, y5, y6, y7, y8]) rfl ⟨_, _, rfl, by rw [P0.out]; exact Er.nil, ?_, KZ.out.below B8.out B8.out.size (by omega)⟩
  rw [placed_ok P0.out]
  unfold Wd.put
  rw [NU.out]
  exact ⟨_, _, _, _, _, rfl, (M8.out.1.kp KZ.out (by omega)).mono (by omega), (M8.out.2.1.kp KZ.out (by omega)).mono (by omega), (M8.out.2.2.1.kp KZ.out (by omega)).mono (by omega), (M8.out.2.2.2.1.kp KZ.out (by omega)).mono (by omega), (M8.out.2.2.2.2.kp KZ.out (by omega)).mono (by omega)⟩
end Go.Proofs.Ytagnjmellcibhaa

namespace Go.Proofs.Ytagnjmellcibhaa
open Go.RowKit
set_option linter.unusedVariables false

theorem and_low (n : Nat) (h : n ≤ 144) : n &&& 4294967295 = n := by
  have := Nat.and_two_pow_sub_one_eq_mod n 32
  rw [show 2 ^ 32 - 1 = 4294967295 from rfl] at this
  rw [this]
  exact Nat.mod_eq_of_lt (by omega)

set_option maxHeartbeats 1000000 in
theorem mul64_one (n : Nat) (w : World) (h : n ≤ 144) :
    Calls Try.prog 63 #[.int .u64 1, .int .u64 (n : Nat)] w fun e w' => e = .returned (.tuple #[.int .u64 0, .int .u64 (n : Nat)]) ∧ w' = w := by
  have e1 : bits BinOp.and IntKind.u64 1 4294967295 = 1 := bits_and_u64_nat 1 4294967295 (by omega) (by omega)
  have e2 : bits BinOp.and IntKind.u64 (n : Int) 4294967295 = (n : Int) := by
    have := bits_and_u64_nat n 4294967295 (by omega) (by omega)
    rw [and_low n h] at this
    exact this
  have e3 : (n : Int) / 4294967296 = 0 := by omega
  have e4 : bits BinOp.and IntKind.u64 0 4294967295 = 0 := bits_and_u64_nat 0 4294967295 (by omega) (by omega)
  go_enter Try.func63, Try.ntmps63
  go_wp2
  go_ret2
  exact ⟨rfl, rfl⟩

set_option maxHeartbeats 1000000 in
theorem mul_one (n : Nat) (w : World) (h : n ≤ 144) :
    Calls Try.prog 49 #[.int .u64 1, .int .u64 (n : Nat)] w fun e w' => e = .returned (.tuple #[.int .u64 0, .int .u64 (n : Nat)]) ∧ w' = w := by
  go_enter Try.func49, Try.ntmps49
  go_wp2_with (go_at_call 63; refine (mul64_one _ _ h).mono ?_; rintro e w' ⟨rfl, rfl⟩)
  go_ret2
  exact ⟨rfl, rfl⟩

theorem wpList_copy_is {P : Program} (w : World) {ops : Array Oper} {rest : List Oper} {o : Oper} {a : Act} {Q : Exit → Act → World → Prop} (hgd : o.guard = none) (s x : Operand) (t tx : TypeId)
    (ho : o.op = .call { callee := .builtin .copy, args := #[s, x], argTypes := #[t, tx] }) (v xv v' : Value) (w' : World) (hv : a.eval s = v) (hx : a.eval x = xv)
    (hrun : (Builtin.copy_ #[t, tx] o.type #[v, xv]).run P w = .ok v' w') (h : wpList P ops Q rest (a.put o.dst v') w') : wpList P ops Q (o :: rest) a w :=
  wpList_plain hgd fun K hK => by
    unfold Oper.wp
    simp [execOp, ho, resolve, invoke, builtin, hv, hx, hrun, Result.andThen]
    exact hK _ _ h

/-- the first m are vv, of n. -/
def rpCells (vv : Int) (n m : Nat) : Array Value := (List.replicate m (Value.int .i64 vv) ++ List.replicate (n - m) (Value.int .i64 0)).toArray
def Rp (vv : Int) (w : World) (b n m : Nat) : Prop := w.heap[b]? = some (.cells (rpCells vv n m) 3 (0, 0))
theorem Rp.bk {vv : Int} {w : World} {b n : Nat} (h : Rp vv w b n n) : Bk w b (List.replicate n vv) #[] := by
  unfold Rp at h
  unfold Bk
  rw [h]
  simp [intCells, rpCells]
theorem Rp.cell {vv : Int} {w : World} {b n m : Nat} (h : Rp vv w b n m) {i : Nat} (hi : i < m) : w.cell? ⟨b, i, none⟩ = some (.int .i64 vv) := by
  unfold Rp at h
  simp only [World.cell?, h]
  simp [rpCells, List.getElem?_append, hi]
theorem Rp.lt {vv : Int} {w : World} {b n m : Nat} (h : Rp vv w b n m) : b < w.heap.size := lt_of_block h
theorem Rp.drewN {vv : Int} {w : World} {b n m : Nat} (h : Rp vv w b n m) (k : Nat) : Rp vv (w.drewN k) b n m := h

theorem info_int1 : (Try.prog.info? 3).map (·.size) = some 1 := by kernel_rfl

theorem rep_more (a z : Value) (n m k : Nat) (h : m + k ≤ n) : (List.replicate m a ++ List.replicate (n - m) z).take m ++ List.replicate k a ++ (List.replicate m a ++ List.replicate (n - m) z).drop (m + k) = List.replicate (m + k) a ++ List.replicate (n - (m + k)) z := by
  rw [List.take_left' (by simp), List.drop_append, List.length_replicate, List.drop_eq_nil_of_le (by simp), List.nil_append, List.drop_replicate, List.replicate_append_replicate]
  congr 2
  omega

/-- k more of them. -/
theorem rp_copy (vv : Int) (w : World) (b n m k : Nat) (dLen dCap sLen sCap : Nat) (x : Addr) (h : Rp vv w b n m) (hn : k = Nat.min sLen dLen) (hk : m + k ≤ n) (hs : ∀ j, j < k → w.cell? (x.add j) = some (.int .i64 vv)) :
    (Builtin.copy_ #[23, 23] 3 #[.slice (some ⟨b, m, none⟩) dLen dCap, .slice (some x) sLen sCap]).run Try.prog w = .ok (.int .i64 (k : Nat)) (w.setRow b (rpCells vv n (m + k))) ∧ Rp vv (w.setRow b (rpCells vv n (m + k))) b n (m + k) ∧ Kp b w (w.setRow b (rpCells vv n (m + k))) := by
  unfold Rp at h
  have r := run_copy_row (P := Try.prog) w 23 23 3 3 b m dLen dCap x sLen sCap _ 3 (List.replicate k (.int .i64 vv)) Try.underlying23 info_int1 h (by simp [hn]) (fun j v hv => by
    rw [List.getElem?_replicate] at hv
    split at hv
    · injection hv with hv
      rw [← hv]
      exact hs j (by assumption)
    · cases hv) (by simp [rpCells]; omega) (fun v hv => by rw [List.eq_of_mem_replicate hv]; rfl)
  rw [List.length_replicate, show (rpCells vv n m).toList = List.replicate m (Value.int .i64 vv) ++ List.replicate (n - m) (Value.int .i64 0) from rfl, rep_more _ _ n m k hk] at r
  exact ⟨r, setRow_heap w b _ _ _ _ h, ⟨rfl, rfl, rfl, by simp, fun i _ hi => setRow_other w b i _ hi⟩⟩

set_option maxRecDepth 100000 in
set_option maxHeartbeats 2000000 in
theorem repeat_ok (vv : Int) (u : Value) (n : Nat) (w : World) (hu : Ro w u [vv]) (n0 : 0 < n) (n1 : n ≤ 144) :
    Calls Try.prog 32 #[u, .int .i64 (n : Nat)] w fun e w' => ∃ b, e = .returned (.slice (some ⟨b, 0, none⟩) n n) ∧ w.heap.size ≤ b ∧ Bk w' b (List.replicate n vv) #[] ∧ Below w.heap.size w w' := by
  obtain ⟨a, c, rfl, c1, c2, ca⟩ := hu
  obtain ⟨x, rfl, xl, hx⟩ := ca (by simp)
  have cx : Hid (w.cell? (x.add 0) = some (.int .i64 vv) ∧ x.block < w.heap.size) := ⟨hx 0 _ rfl, xl⟩
  clear ca hx xl
  simp only [List.length_cons, List.length_nil, Nat.zero_add] at c1 ⊢
  go_enter Try.func32, Try.ntmps32
  go_wp2_with fail
  refine (mul_one _ _ n1).mono ?_
  rintro e w' ⟨rfl, rfl⟩
  have h9 : ¬ (9223372036854775807 : Int) < (n : Int) := by omega
  go_wp2_with (at_make; obtain ⟨i0, hi, hz0, hz1, hz2⟩ := info_parts info_int; refine wpList_make_full _ rfl _ _ 23 rfl w'.heap.size 3 i0 (.int .i64 0) 1 Try.underlying23 hi hz0 hz1 _ _ _ _ n rfl rfl rfl rfl (by rw [hz2]; omega) (by unfold maxLen; omega) (Nat.le_refl _) ?_)
  intro w1 o1 g1
  clear hi hz0 hz1 hz2 h9
  have P1 : Hid (Rp vv w1 w'.heap.size n 0) := by
    rcases o1.2 with ⟨h, _⟩ | ⟨g, cap, cur, hv, hb, hg, h1, h2, h3, h4⟩
    · cases h
    · cases hv
      unfold Hid Rp rpCells
      rw [hg]
      congr 1
      have e : cur.toList = List.replicate n (Value.int .i64 0) := by
        have := toList_madeCells_one (.int .i64 0) n
        rw [List.take_of_length_le (by simp; omega)] at h4
        rw [h4]
        exact this
      simp only [List.replicate_zero, List.nil_append, Nat.sub_zero]
      rw [← e]
  have B1 : Hid (Below w'.heap.size w' w1) := (Below.refl _ _).grown g1 (Nat.le_refl _) (fun k hk => by cases hk)
  clear o1 g1
  obtain ⟨r2, p2, k2⟩ := rp_copy vv w1 w'.heap.size n 0 1 n n 1 c x P1.out (by show 1 = min 1 n; omega) (by omega) (fun j hj => by
    rw [show j = 0 by omega, B1.out.cell (p := x.add 0) (by rw [add_block]; exact cx.out.2)]
    exact cx.out.1)
  simp only [Nat.zero_add] at r2 p2 k2
  generalize w1.setRow w'.heap.size (rpCells vv n 1) = w2 at *
  have P2 : Hid (Rp vv w2 w'.heap.size n 1) := p2
  have B2 : Hid (Below w'.heap.size w' w2) := k2.below B1.out B1.out.size (Nat.le_refl _)
  clear p2 k2 P1 B1
  go_wp2
  clear r2
  obtain ⟨z, hz⟩ : ∃ z, w'.heap.size = z := ⟨_, rfl⟩
  rw [hz] at P2 B2
  simp only [hz]
  have Hz : Hid (w'.heap.size = z) := hz
  clear hz
  go_loopw [8] (fun i W' => ∃ m : Nat, 1 ≤ m ∧ m ≤ n ∧ i = .int .i64 (m : Nat) ∧ Rp vv W' z n m ∧ Below z w' W') (fun i _ => n - (intOf i).toNat)
  case atStart => exact ⟨1, Nat.le_refl _, n0, rfl, P2, B2⟩
  case round =>
    obtain ⟨m, m1, m2, rfl, hp, hb⟩ := hrel
    have P : Hid (Rp vv wr z n m) := hp
    have B : Hid (Below z w' wr) := hb
    clear hp hb P2 B2
    by_cases h0 : m = n
    · subst h0
      go_wp2
      go_ret
      exact ⟨z, rfl, by rw [Hz.out]; exact Nat.le_refl _, P.out.bk, by rw [Hz.out]; exact B⟩
    · have hm : m < n := by omega
      obtain ⟨k, hk⟩ : ∃ k, k = Nat.min m (n - m) := ⟨_, rfl⟩
      have hk' : k ≤ m ∧ k ≤ n - m ∧ 0 < k := by
        have : k = min m (n - m) := hk
        omega
      have rr : (Builtin.copy_ #[23, 23] 3 #[.slice (some ⟨z, m, none⟩) (n - m) (n - m), .slice (some ⟨z, 0, none⟩) m n]).run Try.prog wr.drew = .ok (.int .i64 (k : Nat)) (wr.drew.setRow z (rpCells vv n (m + k))) ∧ _ :=
        rp_copy vv wr.drew z n m k (n - m) (n - m) m n ⟨z, 0, none⟩ P.out hk (by omega) (fun j hj => by
          rw [Addr.add_lit, Nat.zero_add]
          exact Rp.cell (w := wr) P.out (by omega))
      obtain ⟨r1, p1, q1⟩ := rr
      have P1 : Hid (Rp vv (wr.drew.setRow z (rpCells vv n (m + k))) z n (m + k)) := p1
      have B1 : Hid (Below z w' (wr.drew.setRow z (rpCells vv n (m + k)))) := q1.below B.out.drew (by have := P.out.lt; show z ≤ wr.heap.size; omega) (Nat.le_refl _)
      obtain ⟨k1, k2, k3⟩ := hk'
      clear hk p1 q1
      generalize wr.drew.setRow z (rpCells vv n (m + k)) = w3 at *
      go_wp2
      go_region
      clear r1
      go_wp2
      go_round
      case rel => exact ⟨m + k, by omega, by omega, by go_num, P1, B1⟩
      case measure => simp [intOf]; omega
end Go.Proofs.Ytagnjmellcibhaa

namespace Go.Proofs.Ytagnjmellcibhaa
open Go.RowKit
set_option linter.unusedVariables false

namespace Wd
def bare (wd hg : Int) (gs os : List Int) : WV := ⟨0, 1, wd, hg, gs, os, [], [], []⟩
/-- what is told where a world is to begin. -/
def newFault (ks : List KV) (wd hg : Int) (gs os : List Int) (pls gold : Int) : Int := if ground ks (bare wd hg gs os) = 0 then (if (1 ≤ pls ∧ pls ≤ 4) ∧ 0 ≤ gold ∧ gold ≤ 1000000 then 0 else 1) else ground ks (bare wd hg gs os)
/-- the world that begins. -/
def begun (ks : List KV) (wd hg : Int) (gs os : List Int) (pls gold : Int) : WV := if newFault ks wd hg gs os pls gold = 0 then ⟨0, 1, wd, hg, gs, os, List.replicate pls.toNat gold, [], []⟩ else WV.zero
end Wd
theorem begun_bad {ks : List KV} {wd hg : Int} {gs os : List Int} {pls gold : Int} (h : Wd.newFault ks wd hg gs os pls gold ≠ 0) : Wd.begun ks wd hg gs os pls gold = WV.zero := by unfold Wd.begun; rw [if_neg h]
theorem begun_ok {ks : List KV} {wd hg : Int} {gs os : List Int} {pls gold : Int} (h : Wd.newFault ks wd hg gs os pls gold = 0) : Wd.begun ks wd hg gs os pls gold = ⟨0, 1, wd, hg, gs, os, List.replicate pls.toNat gold, [], []⟩ := by unfold Wd.begun; rw [if_pos h]
/-- a field in a box. -/
structure Bx (w : World) (z : Nat) (wd hg : Int) (u1 u2 : Value) : Prop where
  c0 : w.cell? ⟨z, 0, none⟩ = some (.int .i64 wd)
  c1 : w.cell? ⟨z, 1, none⟩ = some (.int .i64 hg)
  c2 : w.cell? ⟨z, 2, none⟩ = some u1
  c3 : w.cell? ⟨z, 3, none⟩ = some u2
theorem Bx.lt {w : World} {z : Nat} {wd hg : Int} {u1 u2 : Value} (h : Bx w z wd hg u1 u2) : z < w.heap.size := cell_lt h.c0
theorem Bx.below {w w' : World} {z n : Nat} {wd hg : Int} {u1 u2 : Value} (h : Bx w z wd hg u1 u2) (hb : Below n w w') (hn : z < n) : Bx w' z wd hg u1 u2 :=
  ⟨by rw [hb.cell (p := ⟨z, 0, none⟩) hn]; exact h.c0, by rw [hb.cell (p := ⟨z, 1, none⟩) hn]; exact h.c1, by rw [hb.cell (p := ⟨z, 2, none⟩) hn]; exact h.c2, by rw [hb.cell (p := ⟨z, 3, none⟩) hn]; exact h.c3⟩
theorem Bx.mk' {w : World} {z : Nat} (wd hg : Int) (u1 u2 : Value) (hz : w.heap.size = z) : Bx (w.alloc (.cells #[.int .i64 wd, .int .i64 hg, u1, u2] 25)) z wd hg u1 u2 := by
  subst hz
  constructor <;> simp
set_option maxRecDepth 100000 in
set_option maxHeartbeats 8000000 in
theorem new_any (vk vf : Value) (ks : List KV) (wd hg : Int) (gs os : List Int) (pls gold : Int) (w : World) (hk : Kl w vk ks) (hb : ∀ k ∈ ks, k.b.size ≤ 9223372036854775807) (hf : Fl w vf wd hg gs os) :
    Calls Try.prog 16 #[vk, vf, .int .i64 pls, .int .i64 gold] w fun e w' => ∃ u r, e = .returned (.tuple #[u, r]) ∧ Er r (Wd.newFault ks wd hg gs os pls gold) ∧ Wo w' w.heap.size u (Wd.begun ks wd hg gs os pls gold) ∧ Below w.heap.size w w' := by
  have K : Hid (Kl w vk ks ∧ ∀ k ∈ ks, k.b.size ≤ 9223372036854775807) := ⟨hk, hb⟩
  have F : Hid (Fl w vf wd hg gs os) := hf
  obtain ⟨u1, u2, rfl, r1, r2⟩ := hf
  obtain ⟨p1, q1, rfl, -⟩ := r1
  obtain ⟨p2, q2, rfl, -⟩ := r2
  clear hb hk
  go_enter Try.func16, Try.ntmps16
  go_upto_region 1 with fail
  have B0 : Hid (Below w.heap.size w ((w.alloc (.cells #[.int .i64 wd, .int .i64 hg, .slice p1 gs.length q1, .slice p2 os.length q2] 25)).alloc (.cells #[.int .i64 0, .int .i64 0, .int .i64 0, .int .i64 0, .slice none 0 0, .slice none 0 0, .slice none 0 0, .slice none 0 0, .slice none 0 0] 29))) := ((Below.refl _ _).alloc (Nat.le_refl _) _).alloc (by simp) _
  have X0 : Hid (Bx ((w.alloc (.cells #[.int .i64 wd, .int .i64 hg, .slice p1 gs.length q1, .slice p2 os.length q2] 25)).alloc (.cells #[.int .i64 0, .int .i64 0, .int .i64 0, .int .i64 0, .slice none 0 0, .slice none 0 0, .slice none 0 0, .slice none 0 0, .slice none 0 0] 29)) w.heap.size wd hg (.slice p1 gs.length q1) (.slice p2 os.length q2)) := (Bx.mk' (w := w) _ _ _ _ rfl).below ((Below.refl _ _).alloc (Nat.le_refl _) _) (by simp)
  have Z0 : Hid (Wx ((w.alloc (.cells #[.int .i64 wd, .int .i64 hg, .slice p1 gs.length q1, .slice p2 os.length q2] 25)).alloc (.cells #[.int .i64 0, .int .i64 0, .int .i64 0, .int .i64 0, .slice none 0 0, .slice none 0 0, .slice none 0 0, .slice none 0 0, .slice none 0 0] 29)) (w.heap.size + 1) (.int .i64 0) (.int .i64 0) (.int .i64 0) (.int .i64 0) (.slice none 0 0) (.slice none 0 0) (.slice none 0 0) (.slice none 0 0) (.slice none 0 0)) := Wx.new _ _ _ _ _ _ _ _ _ (by simp)
  have S0 : Hid (w.heap.size + 2 ≤ ((w.alloc (.cells #[.int .i64 wd, .int .i64 hg, .slice p1 gs.length q1, .slice p2 os.length q2] 25)).alloc (.cells #[.int .i64 0, .int .i64 0, .int .i64 0, .int .i64 0, .slice none 0 0, .slice none 0 0, .slice none 0 0, .slice none 0 0, .slice none 0 0] 29)).heap.size) := by unfold Hid; simp
  generalize ((w.alloc (.cells #[.int .i64 wd, .int .i64 hg, .slice p1 gs.length q1, .slice p2 os.length q2] 25)).alloc (.cells #[.int .i64 0, .int .i64 0, .int .i64 0, .int .i64 0, .slice none 0 0, .slice none 0 0, .slice none 0 0, .slice none 0 0, .slice none 0 0] 29)) = w0 at *
  obtain ⟨x0, x1, x2, x3⟩ := X0.out
  go_wp2_with fail
  refine (ground_any _ _ ks (Wd.bare wd hg gs os) w0 (K.out.1.below B0.out) K.out.2 (F.out.below B0.out)).mono ?_
  rintro e w1 ⟨r, rfl, hr, hb1⟩
  clear x0 x1 x2 x3
  have B1 : Hid (Below w.heap.size w w1) := B0.out.trans (hb1.mono B0.out.size)
  have X1 : Hid (Bx w1 w.heap.size wd hg (.slice p1 gs.length q1) (.slice p2 os.length q2)) := X0.out.below hb1 X0.out.lt
  have Z1 : Hid (Wx w1 (w.heap.size + 1) (.int .i64 0) (.int .i64 0) (.int .i64 0) (.int .i64 0) (.slice none 0 0) (.slice none 0 0) (.slice none 0 0) (.slice none 0 0) (.slice none 0 0)) := Z0.out.below hb1 Z0.out.lt
  have S1 : Hid (w.heap.size + 2 ≤ w1.heap.size) := Nat.le_trans S0.out hb1.size
  clear hb1 B0 X0 Z0 S0
  rcases hr with ⟨hf, rfl⟩ | ⟨hf, rfl⟩
  case inr =>
    obtain ⟨fe, hfe⟩ : ∃ f, Wd.ground ks (Wd.bare wd hg gs os) = f := ⟨_, rfl⟩
    have HFE : Hid (fe ≠ 0) := by rw [← hfe]; exact hf
    have FE : Hid (Wd.newFault ks wd hg gs os pls gold = fe) := by unfold Hid Wd.newFault; rw [if_neg hf]; exact hfe
    rw [hfe]
    clear hf hfe
    obtain ⟨z0, z1, z2, z3, z4, z5, z6, z7, z8⟩ := Z1.out.cells
    obtain ⟨t0, t1, t2, t3, t4, t5, t6, t7, t8⟩ := Z1.out.thaws
    have KZ : Hid (Kp (w.heap.size + 1) w1 (((((((((w1.setCell ⟨w.heap.size + 1, 0, none⟩ (.int .i64 0)).setCell ⟨w.heap.size + 1, 1, none⟩ (.int .i64 0)).setCell ⟨w.heap.size + 1, 2, none⟩ (.int .i64 0)).setCell ⟨w.heap.size + 1, 3, none⟩ (.int .i64 0)).setCell ⟨w.heap.size + 1, 4, none⟩ (.slice none 0 0)).setCell ⟨w.heap.size + 1, 5, none⟩ (.slice none 0 0)).setCell ⟨w.heap.size + 1, 6, none⟩ (.slice none 0 0)).setCell ⟨w.heap.size + 1, 7, none⟩ (.slice none 0 0)).setCell ⟨w.heap.size + 1, 8, none⟩ (.slice none 0 0))) := put_kp _ _ _ _ _ _ _ _ _ _ _
    obtain ⟨y0, y1, y2, y3, y4, y5, y6, y7, y8⟩ := (Z1.out.put (.int .i64 0) (.int .i64 0) (.int .i64 0) (.int .i64 0) (.slice none 0 0) (.slice none 0 0) (.slice none 0 0) (.slice none 0 0) (.slice none 0 0)).cells
    go_wp2
    clear z0 z1 z2 z3 z4 z5 z6 z7 z8 t0 t1 t2 t3 t4 t5 t6 t7 t8
    generalize (((((((((w1.setCell ⟨w.heap.size + 1, 0, none⟩ (.int .i64 0)).setCell ⟨w.heap.size + 1, 1, none⟩ (.int .i64 0)).setCell ⟨w.heap.size + 1, 2, none⟩ (.int .i64 0)).setCell ⟨w.heap.size + 1, 3, none⟩ (.int .i64 0)).setCell ⟨w.heap.size + 1, 4, none⟩ (.slice none 0 0)).setCell ⟨w.heap.size + 1, 5, none⟩ (.slice none 0 0)).setCell ⟨w.heap.size + 1, 6, none⟩ (.slice none 0 0)).setCell ⟨w.heap.size + 1, 7, none⟩ (.slice none 0 0)).setCell ⟨w.heap.size + 1, 8, none⟩ (.slice none 0 0)) = w9 at *
    refine bodyPost_ret (v := .tuple #[.agg #[.int .i64 0, .int .i64 0, .int .i64 0, .int .i64 0, .slice none 0 0, .slice none 0 0, .slice none 0 0, .slice none 0 0, .slice none 0 0], .iface 53 (.int .i64 fe)]) (by simp [results, Try.results16, go_sem, y0, y1, y2, y3, y4, y5, y6, y7, y8]) rfl ⟨_, _, rfl, by rw [FE.out]; exact Er.no HFE.out, by rw [begun_bad (by rw [FE.out]; exact HFE.out)]; exact zero_wo _ _, KZ.out.below B1.out B1.out.size (by omega)⟩
  have HF : Hid (Wd.ground ks (Wd.bare wd hg gs os) = 0) := hf
  have NF : Hid (Wd.newFault ks wd hg gs os pls gold = if (1 ≤ pls ∧ pls ≤ 4) ∧ 0 ≤ gold ∧ gold ≤ 1000000 then 0 else 1) := by unfold Hid Wd.newFault; rw [if_pos hf]
  have GL : Hid (gs.length ≤ 144 ∧ os.length ≤ 144) := by
    unfold Wd.ground at hf
    split at hf
    · obtain ⟨Wn, Hn, -, -, G⟩ := Fd.fault_zero hf
      have h1 := G.pos
      have h2 := G.gl
      have h3 := G.ol
      unfold Wd.bare at h2 h3
      exact ⟨by simp only at h2; omega, by simp only at h3; omega⟩
    · rename_i h0
      exact absurd hf h0
  clear hf
  by_cases hp : 1 ≤ pls ∧ pls ≤ 4
  case neg =>
    have t : decide (1 ≤ pls ∧ pls ≤ 4) = false := decide_eq_false hp
    have HFE : Hid ((1 : Int) ≠ 0) := by unfold Hid; decide
    have FE : Hid (Wd.newFault ks wd hg gs os pls gold = 1) := by unfold Hid; rw [NF.out, if_neg (fun h => hp h.1)]
    clear hp
    go_wp2_with fail
    refine (wwithin_any pls 1 4 w1).mono ?_
    rintro e w2 ⟨rfl, hww⟩
    obtain rfl := hww.symm
    rw [t]
    clear t
    obtain ⟨z0, z1, z2, z3, z4, z5, z6, z7, z8⟩ := Z1.out.cells
    obtain ⟨t0, t1, t2, t3, t4, t5, t6, t7, t8⟩ := Z1.out.thaws
    have KZ : Hid (Kp (w.heap.size + 1) w1 (((((((((w1.setCell ⟨w.heap.size + 1, 0, none⟩ (.int .i64 0)).setCell ⟨w.heap.size + 1, 1, none⟩ (.int .i64 0)).setCell ⟨w.heap.size + 1, 2, none⟩ (.int .i64 0)).setCell ⟨w.heap.size + 1, 3, none⟩ (.int .i64 0)).setCell ⟨w.heap.size + 1, 4, none⟩ (.slice none 0 0)).setCell ⟨w.heap.size + 1, 5, none⟩ (.slice none 0 0)).setCell ⟨w.heap.size + 1, 6, none⟩ (.slice none 0 0)).setCell ⟨w.heap.size + 1, 7, none⟩ (.slice none 0 0)).setCell ⟨w.heap.size + 1, 8, none⟩ (.slice none 0 0))) := put_kp _ _ _ _ _ _ _ _ _ _ _
    obtain ⟨y0, y1, y2, y3, y4, y5, y6, y7, y8⟩ := (Z1.out.put (.int .i64 0) (.int .i64 0) (.int .i64 0) (.int .i64 0) (.slice none 0 0) (.slice none 0 0) (.slice none 0 0) (.slice none 0 0) (.slice none 0 0)).cells
    go_wp2
    clear z0 z1 z2 z3 z4 z5 z6 z7 z8 t0 t1 t2 t3 t4 t5 t6 t7 t8
    generalize (((((((((w1.setCell ⟨w.heap.size + 1, 0, none⟩ (.int .i64 0)).setCell ⟨w.heap.size + 1, 1, none⟩ (.int .i64 0)).setCell ⟨w.heap.size + 1, 2, none⟩ (.int .i64 0)).setCell ⟨w.heap.size + 1, 3, none⟩ (.int .i64 0)).setCell ⟨w.heap.size + 1, 4, none⟩ (.slice none 0 0)).setCell ⟨w.heap.size + 1, 5, none⟩ (.slice none 0 0)).setCell ⟨w.heap.size + 1, 6, none⟩ (.slice none 0 0)).setCell ⟨w.heap.size + 1, 7, none⟩ (.slice none 0 0)).setCell ⟨w.heap.size + 1, 8, none⟩ (.slice none 0 0)) = w9 at *
    refine bodyPost_ret (v := .tuple #[.agg #[.int .i64 0, .int .i64 0, .int .i64 0, .int .i64 0, .slice none 0 0, .slice none 0 0, .slice none 0 0, .slice none 0 0, .slice none 0 0], .iface 53 (.int .i64 1)]) (by simp [results, Try.results16, go_sem, y0, y1, y2, y3, y4, y5, y6, y7, y8]) rfl ⟨_, _, rfl, by rw [FE.out]; exact Er.no HFE.out, by rw [begun_bad (by rw [FE.out]; exact HFE.out)]; exact zero_wo _ _, KZ.out.below B1.out B1.out.size (by omega)⟩
  have t : decide (1 ≤ pls ∧ pls ≤ 4) = true := decide_eq_true hp
  go_wp2_with fail
  refine (wwithin_any pls 1 4 w1).mono ?_
  rintro e w2 ⟨rfl, hww⟩
  obtain rfl := hww.symm
  rw [t]
  clear t
  by_cases hgd : 0 ≤ gold ∧ gold ≤ 1000000
  case neg =>
    have t : decide (0 ≤ gold ∧ gold ≤ 1000000) = false := decide_eq_false hgd
    have HFE : Hid ((1 : Int) ≠ 0) := by unfold Hid; decide
    have FE : Hid (Wd.newFault ks wd hg gs os pls gold = 1) := by unfold Hid; rw [NF.out, if_neg (fun h => hgd h.2)]
    clear hgd hp
    go_wp2_with fail
    refine (wwithin_any gold 0 1000000 w1).mono ?_
    rintro e w2 ⟨rfl, hww⟩
    obtain rfl := hww.symm
    rw [t]
    clear t
    obtain ⟨z0, z1, z2, z3, z4, z5, z6, z7, z8⟩ := Z1.out.cells
    obtain ⟨t0, t1, t2, t3, t4, t5, t6, t7, t8⟩ := Z1.out.thaws
    have KZ : Hid (Kp (w.heap.size + 1) w1 (((((((((w1.setCell ⟨w.heap.size + 1, 0, none⟩ (.int .i64 0)).setCell ⟨w.heap.size + 1, 1, none⟩ (.int .i64 0)).setCell ⟨w.heap.size + 1, 2, none⟩ (.int .i64 0)).setCell ⟨w.heap.size + 1, 3, none⟩ (.int .i64 0)).setCell ⟨w.heap.size + 1, 4, none⟩ (.slice none 0 0)).setCell ⟨w.heap.size + 1, 5, none⟩ (.slice none 0 0)).setCell ⟨w.heap.size + 1, 6, none⟩ (.slice none 0 0)).setCell ⟨w.heap.size + 1, 7, none⟩ (.slice none 0 0)).setCell ⟨w.heap.size + 1, 8, none⟩ (.slice none 0 0))) := put_kp _ _ _ _ _ _ _ _ _ _ _
    obtain ⟨y0, y1, y2, y3, y4, y5, y6, y7, y8⟩ := (Z1.out.put (.int .i64 0) (.int .i64 0) (.int .i64 0) (.int .i64 0) (.slice none 0 0) (.slice none 0 0) (.slice none 0 0) (.slice none 0 0) (.slice none 0 0)).cells
    go_wp2
    clear z0 z1 z2 z3 z4 z5 z6 z7 z8 t0 t1 t2 t3 t4 t5 t6 t7 t8
    generalize (((((((((w1.setCell ⟨w.heap.size + 1, 0, none⟩ (.int .i64 0)).setCell ⟨w.heap.size + 1, 1, none⟩ (.int .i64 0)).setCell ⟨w.heap.size + 1, 2, none⟩ (.int .i64 0)).setCell ⟨w.heap.size + 1, 3, none⟩ (.int .i64 0)).setCell ⟨w.heap.size + 1, 4, none⟩ (.slice none 0 0)).setCell ⟨w.heap.size + 1, 5, none⟩ (.slice none 0 0)).setCell ⟨w.heap.size + 1, 6, none⟩ (.slice none 0 0)).setCell ⟨w.heap.size + 1, 7, none⟩ (.slice none 0 0)).setCell ⟨w.heap.size + 1, 8, none⟩ (.slice none 0 0)) = w9 at *
    refine bodyPost_ret (v := .tuple #[.agg #[.int .i64 0, .int .i64 0, .int .i64 0, .int .i64 0, .slice none 0 0, .slice none 0 0, .slice none 0 0, .slice none 0 0, .slice none 0 0], .iface 53 (.int .i64 1)]) (by simp [results, Try.results16, go_sem, y0, y1, y2, y3, y4, y5, y6, y7, y8]) rfl ⟨_, _, rfl, by rw [FE.out]; exact Er.no HFE.out, by rw [begun_bad (by rw [FE.out]; exact HFE.out)]; exact zero_wo _ _, KZ.out.below B1.out B1.out.size (by omega)⟩
  have t : decide (0 ≤ gold ∧ gold ≤ 1000000) = true := decide_eq_true hgd
  have F0 : Hid (Wd.newFault ks wd hg gs os pls gold = 0) := by unfold Hid; rw [NF.out, if_pos ⟨hp, hgd⟩]
  go_wp2_with fail
  refine (wwithin_any gold 0 1000000 w1).mono ?_
  rintro e w2 ⟨rfl, hww⟩
  obtain rfl := hww.symm
  rw [t]
  clear t
  obtain ⟨n, rfl⟩ : ∃ n : Nat, pls = n := ⟨pls.toNat, by omega⟩
  have hn : 0 < n ∧ n ≤ 4 := by omega
  have HN : Hid (0 < n ∧ n ≤ 4) := hn
  clear hp hgd hn
  go_wp2_with fail
  have BA : Hid (Below w1.heap.size w1 (w1.alloc (Obj.cells #[.int .i64 gold] 3))) := (Below.refl _ _).alloc (Nat.le_refl _) _
  have RA : Hid (Ro (w1.alloc (Obj.cells #[.int .i64 gold] 3)) (.slice (some ⟨w1.heap.size, 0, none⟩) 1 1) [gold]) := Ro.lit1 gold rfl
  generalize (w1.alloc (Obj.cells #[.int .i64 gold] 3)) = wa at *
  refine (repeat_ok gold _ n wa RA.out (HN.out.1) (by have := HN.out.2; omega)).mono ?_
  rintro e w2 ⟨b, rfl, -, hbk, hb2⟩
  have BW : Hid (Below w1.heap.size w1 w2) := BA.out.trans (hb2.mono BA.out.size)
  have B2 : Hid (Below w.heap.size w w2) := B1.out.trans (BW.out.mono B1.out.size)
  have X2 : Hid (Bx w2 w.heap.size wd hg (.slice p1 gs.length q1) (.slice p2 os.length q2)) := X1.out.below BW.out X1.out.lt
  have Z2 : Hid (Wx w2 (w.heap.size + 1) (.int .i64 0) (.int .i64 0) (.int .i64 0) (.int .i64 0) (.slice none 0 0) (.slice none 0 0) (.slice none 0 0) (.slice none 0 0) (.slice none 0 0)) := Z1.out.below BW.out Z1.out.lt
  have S2 : Hid (w.heap.size + 2 ≤ w2.heap.size) := Nat.le_trans S1.out BW.out.size
  have G2 : Hid (Ro w2 (.slice (some ⟨b, 0, none⟩) n n) (List.replicate n gold)) := by
    unfold Hid
    have := hbk.ro (c := n) (by simp) (by have := HN.out.2; omega)
    simpa using this
  clear hb2 hbk B1 X1 Z1 S1 BA RA BW
  obtain ⟨x0, x1, x2, x3⟩ := X2.out
  go_wp2_with fail
  have F2 := F.out.below B2.out
  obtain ⟨v1, v2, he, f1, f2⟩ := F2
  injection he with he
  simp only [Array.mk.injEq, List.cons.injEq, and_true, true_and] at he
  obtain ⟨rfl, rfl⟩ := he
  refine (copy_any _ ⟨0, 1, wd, hg, gs, os, List.replicate n gold, [], []⟩ w2 ⟨_, _, _, _, _, rfl, f1, f2, G2.out, ⟨none, 0, rfl, Nat.le_refl _, by omega, fun h => absurd rfl h⟩, ⟨none, 0, rfl, Nat.le_refl _, by omega, fun h => absurd rfl h⟩⟩ ⟨by have := GL.out.1; simp only; omega, by have := GL.out.2; simp only; omega, by have := HN.out.2; simp only [List.length_replicate]; omega, by simp, by simp⟩).mono ?_
  rintro e w3 ⟨u, rfl, ho, hb3⟩
  clear f1 f2 x0 x1 x2 x3
  have B3 : Hid (Below w.heap.size w w3) := B2.out.trans (hb3.mono B2.out.size)
  have Z3 : Hid (Wx w3 (w.heap.size + 1) (.int .i64 0) (.int .i64 0) (.int .i64 0) (.int .i64 0) (.slice none 0 0) (.slice none 0 0) (.slice none 0 0) (.slice none 0 0) (.slice none 0 0)) := Z2.out.below hb3 Z2.out.lt
  obtain ⟨v1, v2, v3, v4, v5, rfl, o1, o2, o3, o4, o5⟩ := ho.wo.mono S2.out
  have O3 : Hid (Ow w3 (w.heap.size + 2) v1 gs ∧ Ow w3 (w.heap.size + 2) v2 os ∧ Ow w3 (w.heap.size + 2) v3 (List.replicate n gold) ∧ Uno w3 (w.heap.size + 2) v4 [] ∧ Jbo w3 (w.heap.size + 2) v5 []) := ⟨o1, o2, o3, o4, o5⟩
  obtain ⟨a1, b1, rfl⟩ := o1.len
  obtain ⟨a2, b2, rfl⟩ := o2.len
  obtain ⟨a3, b3, rfl⟩ := o3.len
  obtain ⟨a4, b4, rfl⟩ := o4.len
  obtain ⟨a5, b5, rfl⟩ := o5.len
  simp only [List.length_replicate, List.length_nil] at O3 ⊢
  clear ho hb3 o1 o2 o3 o4 o5 B2 X2 Z2 S2 G2
  obtain ⟨z0, z1, z2, z3, z4, z5, z6, z7, z8⟩ := Z3.out.cells
  obtain ⟨t0, t1, t2, t3, t4, t5, t6, t7, t8⟩ := Z3.out.thaws
  have KZ : Hid (Kp (w.heap.size + 1) w3 (((((((((w3.setCell ⟨w.heap.size + 1, 0, none⟩ (.int .i64 0)).setCell ⟨w.heap.size + 1, 1, none⟩ (.int .i64 1)).setCell ⟨w.heap.size + 1, 2, none⟩ (.int .i64 wd)).setCell ⟨w.heap.size + 1, 3, none⟩ (.int .i64 hg)).setCell ⟨w.heap.size + 1, 4, none⟩ (.slice a1 gs.length b1)).setCell ⟨w.heap.size + 1, 5, none⟩ (.slice a2 os.length b2)).setCell ⟨w.heap.size + 1, 6, none⟩ (.slice a3 n b3)).setCell ⟨w.heap.size + 1, 7, none⟩ (.slice a4 0 b4)).setCell ⟨w.heap.size + 1, 8, none⟩ (.slice a5 0 b5))) := put_kp _ _ _ _ _ _ _ _ _ _ _
  obtain ⟨y0, y1, y2, y3, y4, y5, y6, y7, y8⟩ := (Z3.out.put (.int .i64 0) (.int .i64 1) (.int .i64 wd) (.int .i64 hg) (.slice a1 gs.length b1) (.slice a2 os.length b2) (.slice a3 n b3) (.slice a4 0 b4) (.slice a5 0 b5)).cells
  go_wp2
  clear z0 z1 z2 z3 z4 z5 z6 z7 z8 t0 t1 t2 t3 t4 t5 t6 t7 t8
  generalize (((((((((w3.setCell ⟨w.heap.size + 1, 0, none⟩ (.int .i64 0)).setCell ⟨w.heap.size + 1, 1, none⟩ (.int .i64 1)).setCell ⟨w.heap.size + 1, 2, none⟩ (.int .i64 wd)).setCell ⟨w.heap.size + 1, 3, none⟩ (.int .i64 hg)).setCell ⟨w.heap.size + 1, 4, none⟩ (.slice a1 gs.length b1)).setCell ⟨w.heap.size + 1, 5, none⟩ (.slice a2 os.length b2)).setCell ⟨w.heap.size + 1, 6, none⟩ (.slice a3 n b3)).setCell ⟨w.heap.size + 1, 7, none⟩ (.slice a4 0 b4)).setCell ⟨w.heap.size + 1, 8, none⟩ (.slice a5 0 b5)) = w9 at *
  refine bodyPost_ret (v := .tuple #[.agg #[.int .i64 0, .int .i64 1, .int .i64 wd, .int .i64 hg, .slice a1 gs.length b1, .slice a2 os.length b2, .slice a3 n b3, .slice a4 0 b4, .slice a5 0 b5], .nilIface]) (by simp [results, Try.results16, go_sem, y0, y1, y2, y3, y4, y5, y6, y7, y8]) rfl ⟨_, _, rfl, by rw [F0.out]; exact Er.nil, ?_, KZ.out.below B3.out B3.out.size (by omega)⟩
  rw [begun_ok F0.out, Int.toNat_natCast]
  exact ⟨_, _, _, _, _, rfl, (O3.out.1.kp KZ.out (by omega)).mono (by omega), (O3.out.2.1.kp KZ.out (by omega)).mono (by omega), (O3.out.2.2.1.kp KZ.out (by omega)).mono (by omega), (O3.out.2.2.2.1.kp KZ.out (by omega)).mono (by omega), (O3.out.2.2.2.2.kp KZ.out (by omega)).mono (by omega)⟩
end Go.Proofs.Ytagnjmellcibhaa

namespace Go.Proofs.Ytagnjmellcibhaa.Fd

/-- the sign of a ground. -/
def gsign (g : Int) : UInt8 := if g = 0 then 46 else if g = 1 then 35 else if g = 2 then 126 else 94
/-- the sign of a cell. -/
def sgn (g o : Int) : UInt8 := if o = 0 then gsign g else if o % 10 = 0 ∧ o ≤ 90 then (48 + (o / 10).toNat).toUInt8 else 43
def cellsTo (W : Nat) (gs os : List Int) (r c : Nat) : List UInt8 := (List.range c).map fun j => sgn (gs.getD (r * W + j) 0) (os.getD (r * W + j) 0)
def rowsTo (W : Nat) (gs os : List Int) : Nat → List UInt8
  | 0 => []
  | r + 1 => rowsTo W gs os r ++ (cellsTo W gs os r W ++ [10])
/-- a field as text. -/
def prt (W H : Nat) (gs os : List Int) : List UInt8 := rowsTo W gs os H

theorem cellsTo_succ (W : Nat) (gs os : List Int) (r c : Nat) : cellsTo W gs os r (c + 1) = cellsTo W gs os r c ++ [sgn (gs.getD (r * W + c) 0) (os.getD (r * W + c) 0)] := by
  unfold cellsTo
  rw [List.range_succ, List.map_append]
  rfl
theorem cellsTo_len (W : Nat) (gs os : List Int) (r c : Nat) : (cellsTo W gs os r c).length = c := by
  unfold cellsTo
  simp
theorem rowsTo_len (W : Nat) (gs os : List Int) (r : Nat) : (rowsTo W gs os r).length = r * (W + 1) := by
  induction r with
  | zero => simp [rowsTo]
  | succ r ih =>
    simp only [rowsTo, List.length_append, ih, cellsTo_len, List.length_cons, List.length_nil]
    rw [Nat.add_mul]
    omega

/-- a field as far as its text is read. -/
structure St where
  c : Nat
  W : Nat
  H : Nat
  gs : List Int
  os : List Int
def st0 : St := ⟨0, 0, 0, [], []⟩
/-- what a sign stands for. -/
def meant (b : UInt8) : Option (Int × Int) :=
  if 49 ≤ b.toNat ∧ b.toNat ≤ 57 then some (0, ((b.toNat : Int) - 48) * 10) else if b = 46 then some (0, 0) else if b = 35 then some (1, 0) else if b = 126 then some (2, 0) else if b = 94 then some (3, 0) else none
/-- one byte more. -/
def step (s : St) (b : UInt8) : Int ⊕ St :=
  if b = 10 then (if s.c = 0 ∨ (0 < s.H ∧ s.c ≠ s.W) then .inl 2 else .inr ⟨0, s.c, s.H + 1, s.gs, s.os⟩)
  else match meant b with
    | none => .inl 2
    | some (g, o) => if 0 < s.H ∧ s.c = s.W then .inl 2 else if s.c = 12 ∨ s.H = 12 then .inl 4 else .inr ⟨s.c + 1, s.W, s.H, s.gs ++ [g], s.os ++ [o]⟩
def run : St → Nat → List UInt8 → (Nat × Int) ⊕ St
  | s, _, [] => .inr s
  | s, i, b :: bs => match step s b with
    | .inl e => .inl (i, e)
    | .inr s' => run s' (i + 1) bs
/-- what is wrong, and where; else the field. -/
def parse (l : List UInt8) : (Nat × Int) ⊕ St :=
  match run st0 0 l with
  | .inl x => .inl x
  | .inr s => if 0 < s.c ∨ s.H = 0 then .inl (l.length, 2) else .inr s

theorem run_cons (s : St) (i : Nat) (b : UInt8) (bs : List UInt8) : run s i (b :: bs) = match step s b with | .inl e => .inl (i, e) | .inr s' => run s' (i + 1) bs := rfl
theorem run_append (s : St) (i : Nat) (l m : List UInt8) : run s i (l ++ m) = match run s i l with | .inl x => .inl x | .inr s' => run s' (i + l.length) m := by
  induction l generalizing s i with
  | nil => simp [run]
  | cons b bs ih =>
    rw [List.cons_append, run_cons, run_cons]
    cases step s b with
    | inl e => rfl
    | inr s' =>
      simp only
      rw [ih, List.length_cons, show i + 1 + bs.length = i + (bs.length + 1) by omega]

/-- what may be read. -/
def Tens (g o : Int) : Prop := 0 ≤ g ∧ g ≤ 3 ∧ 0 ≤ o ∧ o ≤ 90 ∧ o % 10 = 0 ∧ (0 < o → g = 0)
theorem meant_sgn {b : UInt8} {g o : Int} (h : meant b = some (g, o)) : sgn g o = b ∧ Tens g o := by
  unfold meant at h
  split at h
  · rename_i hb
    simp only [Option.some.injEq, Prod.mk.injEq] at h
    obtain ⟨rfl, rfl⟩ := h
    have e1 : (((b.toNat : Int) - 48) * 10) / 10 = (b.toNat : Int) - 48 := by omega
    refine ⟨?_, by unfold Tens; omega⟩
    unfold sgn
    rw [if_neg (by omega), if_pos (by omega), e1, show 48 + ((b.toNat : Int) - 48).toNat = b.toNat by omega]
    exact UInt8.ofNat_toNat
  · split at h
    · rename_i hb
      simp only [Option.some.injEq, Prod.mk.injEq] at h
      obtain ⟨rfl, rfl⟩ := h
      exact ⟨by rw [hb]; rfl, by unfold Tens; omega⟩
    · split at h
      · rename_i hb
        simp only [Option.some.injEq, Prod.mk.injEq] at h
        obtain ⟨rfl, rfl⟩ := h
        exact ⟨by rw [hb]; rfl, by unfold Tens; omega⟩
      · split at h
        · rename_i hb
          simp only [Option.some.injEq, Prod.mk.injEq] at h
          obtain ⟨rfl, rfl⟩ := h
          exact ⟨by rw [hb]; rfl, by unfold Tens; omega⟩
        · split at h
          · rename_i hb
            simp only [Option.some.injEq, Prod.mk.injEq] at h
            obtain ⟨rfl, rfl⟩ := h
            exact ⟨by rw [hb]; rfl, by unfold Tens; omega⟩
          · cases h
theorem sgn_meant {g o : Int} (h : Tens g o) : meant (sgn g o) = some (g, o) ∧ sgn g o ≠ 10 := by
  obtain ⟨h1, h2, h3, h4, h5, h6⟩ := h
  by_cases h0 : o = 0
  · subst h0
    have hg : g = 0 ∨ g = 1 ∨ g = 2 ∨ g = 3 := by omega
    rcases hg with rfl | rfl | rfl | rfl
    all_goals exact ⟨by decide, by decide⟩
  · obtain rfl := h6 (by omega)
    have ho : o = 10 ∨ o = 20 ∨ o = 30 ∨ o = 40 ∨ o = 50 ∨ o = 60 ∨ o = 70 ∨ o = 80 ∨ o = 90 := by omega
    rcases ho with rfl | rfl | rfl | rfl | rfl | rfl | rfl | rfl | rfl
    all_goals exact ⟨by decide, by decide⟩

theorem getD_snoc_lt {l : List Int} {x : Int} {i : Nat} (h : i < l.length) : (l ++ [x]).getD i 0 = l.getD i 0 := by
  rw [List.getD_eq_getElem?_getD, List.getD_eq_getElem?_getD, List.getElem?_append_left h]
theorem getD_snoc_len {l : List Int} {x : Int} {i : Nat} (h : i = l.length) : (l ++ [x]).getD i 0 = x := by
  subst h
  rw [List.getD_eq_getElem?_getD, List.getElem?_append_right (Nat.le_refl _)]
  simp
theorem cellsTo_snoc {W : Nat} {gs os : List Int} {g o : Int} {r c : Nat} (h1 : r * W + c ≤ gs.length) (h2 : r * W + c ≤ os.length) : cellsTo W (gs ++ [g]) (os ++ [o]) r c = cellsTo W gs os r c := by
  induction c with
  | zero => rfl
  | succ c ih =>
    rw [cellsTo_succ, cellsTo_succ, ih (by omega) (by omega), getD_snoc_lt (by omega), getD_snoc_lt (by omega)]
theorem rowsTo_snoc {W : Nat} {gs os : List Int} {g o : Int} {r : Nat} (h1 : r * W ≤ gs.length) (h2 : r * W ≤ os.length) : rowsTo W (gs ++ [g]) (os ++ [o]) r = rowsTo W gs os r := by
  induction r with
  | zero => rfl
  | succ r ih =>
    rw [Nat.add_mul] at h1 h2
    simp only [rowsTo]
    rw [ih (by omega) (by omega), cellsTo_snoc (by omega) (by omega)]
theorem cellsTo_row0 (W V : Nat) (gs os : List Int) (c : Nat) : cellsTo W gs os 0 c = cellsTo V gs os 0 c := by
  unfold cellsTo
  simp

/-- what holds of a field as far as its text l is read. -/
structure Inv (s : St) (l : List UInt8) : Prop where
  w0 : s.H = 0 → s.W = 0
  wp : 0 < s.H → 0 < s.W
  cw : 0 < s.H → s.c ≤ s.W
  c12 : s.c ≤ 12
  w12 : s.W ≤ 12
  h12 : s.H ≤ 12
  top : s.H = 12 → s.c = 0
  gl : s.gs.length = s.H * s.W + s.c
  ol : s.os.length = s.H * s.W + s.c
  tens : ∀ (i : Nat) g o, s.gs[i]? = some g → s.os[i]? = some o → Tens g o
  text : l = rowsTo s.W s.gs s.os s.H ++ cellsTo s.W s.gs s.os s.H s.c
theorem inv0 : Inv st0 [] := ⟨fun _ => rfl, fun h => by simp [st0] at h, fun h => by simp [st0] at h, by simp [st0], by simp [st0], by simp [st0], fun h => by simp [st0] at h, rfl, rfl, fun i g o h => by simp [st0] at h, rfl⟩

theorem snoc_get {l : List Int} {x y : Int} {i : Nat} (h : (l ++ [x])[i]? = some y) : (i < l.length ∧ l[i]? = some y) ∨ (i = l.length ∧ y = x) := by
  rcases Nat.lt_or_ge i l.length with h1 | h1
  · left; rw [List.getElem?_append_left h1] at h; exact ⟨h1, h⟩
  · right
    rw [List.getElem?_append_right h1] at h
    have h2 : i - l.length = 0 := by
      rcases Nat.eq_zero_or_pos (i - l.length) with h2 | h2
      · exact h2
      · rw [List.getElem?_eq_none (by simp; omega)] at h; cases h
    rw [h2] at h
    simp at h
    exact ⟨by omega, h.symm⟩

theorem Inv.step {s s' : St} {l : List UInt8} {b : UInt8} (h : Inv s l) (hs : step s b = .inr s') : Inv s' (l ++ [b]) := by
  unfold Fd.step at hs
  split at hs
  · rename_i hb
    subst hb
    split at hs
    · cases hs
    · rename_i hc
      injection hs with hs
      subst hs
      have hc0 : 0 < s.c := by omega
      have hcw : 0 < s.H → s.c = s.W := by omega
      have hh : s.H ≠ 12 := fun e => by have := h.top e; omega
      have h12 := h.h12; have c12 := h.c12
      have el : s.H * s.W + s.c = (s.H + 1) * s.c := by
        rcases Nat.eq_zero_or_pos s.H with e | e
        · rw [e]; simp
        · rw [← hcw e, Nat.add_mul, Nat.one_mul]
      refine ⟨by simp, by simp; exact hc0, by simp, by simp, c12, by show s.H + 1 ≤ 12; omega, by simp, ?_, ?_, h.tens, ?_⟩
      · show s.gs.length = (s.H + 1) * s.c + 0; rw [h.gl, el]; rfl
      · show s.os.length = (s.H + 1) * s.c + 0; rw [h.ol, el]; rfl
      · show l ++ [10] = rowsTo s.c s.gs s.os (s.H + 1) ++ cellsTo s.c s.gs s.os (s.H + 1) 0
        rw [h.text]
        simp only [rowsTo]
        rcases Nat.eq_zero_or_pos s.H with e | e
        · rw [e, cellsTo_row0 s.W s.c]
          simp [rowsTo, cellsTo]
        · rw [← hcw e]
          simp [cellsTo]
  · split at hs
    · cases hs
    · rename_i g o hm
      split at hs
      · cases hs
      · split at hs
        · cases hs
        · rename_i h1 h2
          injection hs with hs
          subst hs
          obtain ⟨e1, e2⟩ := meant_sgn hm
          have cw := h.cw; have c12 := h.c12; have h12 := h.h12
          refine ⟨h.w0, h.wp, fun hp => ?_, ?_, h.w12, h.h12, fun e => ?_, ?_, ?_, ?_, ?_⟩
          · show s.c + 1 ≤ s.W; have := cw hp; have : 0 < s.H := hp; omega
          · show s.c + 1 ≤ 12; omega
          · exfalso; have : s.H = 12 := e; omega
          · show (s.gs ++ [g]).length = s.H * s.W + (s.c + 1); rw [List.length_append, h.gl]; rfl
          · show (s.os ++ [o]).length = s.H * s.W + (s.c + 1); rw [List.length_append, h.ol]; rfl
          · intro i g' o' hg ho
            rcases snoc_get hg with ⟨l1, q1⟩ | ⟨l1, q1⟩
            · rcases snoc_get ho with ⟨l2, q2⟩ | ⟨l2, q2⟩
              · exact h.tens i g' o' q1 q2
              · have := h.gl; have := h.ol; omega
            · rcases snoc_get ho with ⟨l2, q2⟩ | ⟨l2, q2⟩
              · have := h.gl; have := h.ol; omega
              · rw [q1, q2]; exact e2
          · show l ++ [b] = rowsTo s.W (s.gs ++ [g]) (s.os ++ [o]) s.H ++ cellsTo s.W (s.gs ++ [g]) (s.os ++ [o]) s.H (s.c + 1)
            have := h.gl; have := h.ol
            rw [rowsTo_snoc (by omega) (by omega), cellsTo_succ, cellsTo_snoc (by omega) (by omega), getD_snoc_len (by omega), getD_snoc_len (by omega), e1, h.text, List.append_assoc]
theorem Inv.run {s s' : St} {l m : List UInt8} {i : Nat} (h : Inv s l) (hs : run s i m = .inr s') : Inv s' (l ++ m) := by
  induction m generalizing s l i with
  | nil =>
    simp only [Fd.run] at hs
    injection hs with hs
    subst hs
    simpa using h
  | cons b bs ih =>
    rw [run_cons] at hs
    cases hb : Fd.step s b with
    | inl e => rw [hb] at hs; cases hs
    | inr s1 =>
      rw [hb] at hs
      have := ih (h.step hb) hs
      rwa [List.append_assoc] at this

/-- what is read is printed as it was. -/
theorem parse_back {l : List UInt8} {s : St} (h : parse l = .inr s) : Good s.W s.H s.gs s.os ∧ prt s.W s.H s.gs s.os = l ∧ s.c = 0 := by
  unfold parse at h
  cases hr : run st0 0 l with
  | inl x => rw [hr] at h; cases h
  | inr s1 =>
    rw [hr] at h
    simp only at h
    split at h
    · cases h
    · rename_i hc
      injection h with h
      subst h
      have hi := inv0.run hr
      have hc0 : s1.c = 0 := by omega
      have hH : 0 < s1.H := by omega
      have t := hi.text
      have gl := hi.gl; have ol := hi.ol
      rw [hc0] at t gl ol
      refine ⟨⟨hi.wp hH, hi.w12, hH, hi.h12, by rw [gl, Nat.mul_comm]; rfl, by rw [ol, Nat.mul_comm]; rfl, fun i g o h1 h2 => ?_⟩, ?_, hc0⟩
      · obtain ⟨t1, t2, t3, t4, t5, t6⟩ := hi.tens i g o h1 h2
        exact ⟨t1, t2, t3, by omega, t6⟩
      · unfold prt
        simpa [cellsTo] using t.symm

theorem step_sign {s : St} {b : UInt8} {g o : Int} (hb : b ≠ 10) (hm : meant b = some (g, o)) (h1 : ¬ (0 < s.H ∧ s.c = s.W)) (h2 : s.c ≠ 12) (h3 : s.H ≠ 12) : step s b = .inr ⟨s.c + 1, s.W, s.H, s.gs ++ [g], s.os ++ [o]⟩ := by
  unfold step
  rw [if_neg hb, hm]
  simp only
  rw [if_neg h1, if_neg (by omega)]
theorem step_end {s : St} (h1 : s.c ≠ 0) (h2 : 0 < s.H → s.c = s.W) : step s 10 = .inr ⟨0, s.c, s.H + 1, s.gs, s.os⟩ := by
  unfold step
  rw [if_pos rfl, if_neg (by omega)]
theorem take_snoc {l : List Int} {k : Nat} (h : k < l.length) : l.take (k + 1) = l.take k ++ [l.getD k 0] := by
  rw [List.take_succ_eq_append_getElem h, List.getD_eq_getElem?_getD, List.getElem?_eq_getElem h]
  rfl

section
variable {W H : Nat} {gs os : List Int} (G : Good W H gs os) (ht : ∀ o ∈ os, o ≤ 90 ∧ o % 10 = 0)
include G ht
theorem run_cells (r c i : Nat) (hr : r < H) (hc : c ≤ W) :
    run ⟨0, if r = 0 then 0 else W, r, gs.take (r * W), os.take (r * W)⟩ i (cellsTo W gs os r c) = .inr ⟨c, if r = 0 then 0 else W, r, gs.take (r * W + c), os.take (r * W + c)⟩ := by
  induction c with
  | zero => simp [cellsTo, run]
  | succ c ih =>
    have hl : r * W + c < W * H := by
      have := Nat.mul_le_mul_right W (show r + 1 ≤ H by omega)
      rw [Nat.add_mul, Nat.mul_comm H W] at this
      omega
    have hg : r * W + c < gs.length := by rw [G.gl]; exact hl
    have ho : r * W + c < os.length := by rw [G.ol]; exact hl
    have eg : gs[r * W + c]? = some (gs.getD (r * W + c) 0) := by rw [List.getD_eq_getElem?_getD, List.getElem?_eq_getElem hg]; rfl
    have eo : os[r * W + c]? = some (os.getD (r * W + c) 0) := by rw [List.getD_eq_getElem?_getD, List.getElem?_eq_getElem ho]; rfl
    obtain ⟨t1, t2, t3, t4, t5⟩ := G.cell _ _ _ eg eo
    obtain ⟨u1, u2⟩ := ht _ (List.mem_of_getElem? eo)
    obtain ⟨m1, m2⟩ := sgn_meant ⟨t1, t2, t3, u1, u2, t5⟩
    have w2 := G.w2; have h2 := G.h2
    rw [cellsTo_succ, run_append, ih (by omega)]
    simp only
    rw [run_cons, step_sign m2 m1 (by simp only; rintro ⟨q1, q2⟩; rw [if_neg (by omega)] at q2; omega) (by simp only; omega) (by simp only; omega)]
    simp only [run]
    rw [show r * W + (c + 1) = (r * W + c) + 1 by omega, take_snoc hg, take_snoc ho]
theorem run_rows (r i : Nat) (hr : r ≤ H) :
    run st0 i (rowsTo W gs os r) = .inr ⟨0, if r = 0 then 0 else W, r, gs.take (r * W), os.take (r * W)⟩ := by
  induction r with
  | zero => simp [rowsTo, run, st0]
  | succ r ih =>
    have w1 := G.w1
    simp only [rowsTo]
    rw [run_append, ih (by omega)]
    simp only
    rw [run_append, run_cells G ht r W _ (by omega) (Nat.le_refl _)]
    simp only
    rw [run_cons, step_end (by simp only; omega) (by simp only; intro q; rw [if_neg (by omega)])]
    simp only [run]
    rw [if_neg (by omega), Nat.add_mul, Nat.one_mul]
/-- what is printed is read as it was. -/
theorem parse_prt : parse (prt W H gs os) = .inr ⟨0, W, H, gs, os⟩ := by
  have h1 := G.h1
  unfold parse prt
  rw [run_rows G ht H 0 (Nat.le_refl _)]
  simp only
  rw [if_neg (by omega), if_neg (by omega), Nat.mul_comm H W, ← G.gl, List.take_length, G.gl, ← G.ol, List.take_length]
end
end Go.Proofs.Ytagnjmellcibhaa.Fd

namespace Go.Proofs.Ytagnjmellcibhaa
set_option linter.unusedVariables false

/-- a fact's kinds. -/
def SK : List KV := [⟨⟨#[98, 97, 115, 101]⟩, 50, 0, 0, 4, 0, 50, 5, 0, false, true⟩, ⟨⟨#[100, 105, 103, 103, 101, 114]⟩, 10, 0, 0, 3, 2, 10, 2, 20, false, false⟩, ⟨⟨#[102, 105, 103, 104, 116, 101, 114]⟩, 20, 4, 1, 4, 2, 20, 3, 0, false, false⟩]
def SG : List Int := [0, 0, 0, 0, 0, 0, 0, 0]
def SO : List Int := [0, 0, 0, 0, 0, 0, 30, 0]
/-- the small world, with none, one, two and three units. -/
def S0 : WV := ⟨0, 1, 4, 2, SG, SO, [100, 100], [], []⟩
def S1 : WV := ⟨0, 2, 4, 2, SG, SO, [100, 100], [⟨1, 0, 0, 0, 50, 0, 0, 0⟩], []⟩
def S2 : WV := ⟨0, 3, 4, 2, SG, SO, [100, 100], [⟨1, 0, 0, 0, 50, 0, 0, 0⟩, ⟨2, 0, 1, 1, 10, 0, 0, 0⟩], []⟩
def S3 : WV := ⟨0, 4, 4, 2, SG, SO, [100, 100], [⟨1, 0, 0, 0, 50, 0, 0, 0⟩, ⟨2, 0, 1, 1, 10, 0, 0, 0⟩, ⟨3, 1, 2, 3, 20, 0, 0, 0⟩], []⟩
theorem sm_parse : Fd.parse [46, 46, 46, 46, 10, 46, 46, 51, 46, 10] = .inr ⟨0, 4, 2, SG, SO⟩ := by rfl
theorem sm_f0 : Wd.newFault SK 4 2 SG SO 2 100 = 0 := by decide +kernel
theorem sm_f1 : Wd.putFault SK S0 0 0 0 = 0 := by decide +kernel
theorem sm_f2 : Wd.putFault SK S1 0 1 1 = 0 := by decide +kernel
theorem sm_f3 : Wd.putFault SK S2 1 2 3 = 0 := by decide +kernel
theorem sm_0 : Wd.begun SK 4 2 SG SO 2 100 = S0 := begun_ok sm_f0
theorem sm_1 : Wd.placed SK S0 0 0 0 = S1 := (placed_ok sm_f1).trans rfl
theorem sm_2 : Wd.placed SK S1 0 1 1 = S2 := (placed_ok sm_f2).trans rfl
theorem sm_3 : Wd.placed SK S2 1 2 3 = S3 := (placed_ok sm_f3).trans rfl
theorem sm_names : ∀ k ∈ SK, k.b.size ≤ 9223372036854775807 := by
  intro k hk
  unfold SK at hk
  rcases List.mem_cons.1 hk with rfl | hk
  · decide
  rcases List.mem_cons.1 hk with rfl | hk
  · decide
  rcases List.mem_cons.1 hk with rfl | hk
  · decide
  · cases hk
end Go.Proofs.Ytagnjmellcibhaa

namespace Go.Proofs.Ytagnjmellcibhaa
open Go.RowKit
set_option linter.unusedVariables false

set_option maxRecDepth 100000 in
set_option maxHeartbeats 1000000 in
theorem lite_any (s : ByteArray) (c : Int) (w : World) :
    Calls Try.prog 74 #[.string s, .int .u8 c] w fun e w' => e = .returned (.int .i64 (Lib.indexByte s.data.toList c.toNat.toUInt8)) ∧ w' = w := by
  have hx := run_callFunc_extern (w := w) (args := #[.string s, .int .u8 c]) Try.func81 (by kernel_rfl) (by kernel_rfl) (by kernel_rfl) (e := Extern.BytealgIndexByte.indexByte) (by kernel_rfl)
  go_enter Try.func74, Try.ntmps74
  go_wp2
  rw [Lib.run_indexByteString]
  simp only [Result.andThen]
  rw [Oper.upon_value]
  go_wp2
  go_ret
  exact ⟨rfl, rfl⟩

set_option maxHeartbeats 1000000 in
theorem idx_byte (s : ByteArray) (c : Int) (w : World) :
    Calls Try.prog 58 #[.string s, .int .u8 c] w fun e w' => e = .returned (.int .i64 (Lib.indexByte s.data.toList c.toNat.toUInt8)) ∧ w' = w := by
  have K : Hid (Calls Try.prog 74 #[.string s, .int .u8 c] w fun e w' => e = .returned (.int .i64 (Lib.indexByte s.data.toList c.toNat.toUInt8)) ∧ w' = w) := lite_any s c w
  go_enter Try.func58, Try.ntmps58
  go_wp2_with fail
  refine Calls.mono K.out ?_
  rintro e w' ⟨rfl, rfl⟩
  go_wp2
  go_ret
  exact ⟨rfl, rfl⟩

namespace Fd
/-- the number of a sign's ground; -1: there is none. -/
def gnum (b : UInt8) : Int := if b = 46 then 0 else if b = 35 then 1 else if b = 126 then 2 else if b = 94 then 3 else -1
theorem gnum_meant (b : UInt8) (h : ¬ (49 ≤ b.toNat ∧ b.toNat ≤ 57)) : meant b = if 0 ≤ gnum b then some (gnum b, 0) else none := by
  unfold meant gnum
  rw [if_neg h]
  split
  · rfl
  · split
    · rfl
    · split
      · rfl
      · split
        · rfl
        · rfl
end Fd

theorem idx_sign (b : UInt8) : Lib.indexByte [46, 35, 126, 94] b = Fd.gnum b := by
  unfold Fd.gnum
  by_cases h1 : b = 46
  · subst h1; decide
  · by_cases h2 : b = 35
    · subst h2; decide
    · by_cases h3 : b = 126
      · subst h3; decide
      · by_cases h4 : b = 94
        · subst h4; decide
        · have g1 : ¬ 46 = b := fun h => h1 h.symm
          have g2 : ¬ 35 = b := fun h => h2 h.symm
          have g3 : ¬ 126 = b := fun h => h3 h.symm
          have g4 : ¬ 94 = b := fun h => h4 h.symm
          simp [Lib.indexByte, h1, h2, h3, h4, g1, g2, g3, g4]

set_option maxHeartbeats 1000000 in
theorem meant_any (b : UInt8) (w : World) :
    Calls Try.prog 46 #[.int .u8 (b.toNat : Nat)] w fun e w' => (∃ g o, Fd.meant b = some (g, o) ∧ e = .returned (.tuple #[.int .i64 g, .int .i64 o, .bool true]) ∧ w' = w) ∨ (Fd.meant b = none ∧ e = .returned (.tuple #[.int .i64 (-1), .int .i64 0, .bool false]) ∧ w' = w) := by
  have hb := b.toNat_lt
  by_cases h : 49 ≤ b.toNat ∧ b.toNat ≤ 57
  · have e : Fd.meant b = some (0, ((b.toNat : Int) - 48) * 10) := by unfold Fd.meant; rw [if_pos h]
    have E : Hid _ := e
    obtain ⟨h1, h2⟩ := h
    clear e
    generalize b.toNat = n at *
    have w1 : IntKind.u8.wrap ((n : Int) - 48) = (n : Int) - 48 := by rw [IntKind.wrap_u8]; omega
    go_enter Try.func46, Try.ntmps46
    go_wp2
    go_ret3
    exact .inl ⟨_, _, E.out, rfl, rfl⟩
  · have e := Fd.gnum_meant b h
    have I : Hid (Calls Try.prog 58 #[.string ⟨#[46, 35, 126, 94]⟩, .int .u8 (b.toNat : Nat)] w fun e w' => e = .returned (.int .i64 (Fd.gnum b)) ∧ w' = w) := by
      refine (idx_byte ⟨#[46, 35, 126, 94]⟩ (b.toNat : Nat) w).mono ?_
      rintro e w' ⟨rfl, rfl⟩
      refine ⟨?_, rfl⟩
      have e2 : ((b.toNat : Nat) : Int).toNat.toUInt8 = b := by rw [Int.toNat_natCast]; exact UInt8.ofNat_toNat
      rw [e2]
      rw [← idx_sign b]
    have gl : -1 ≤ Fd.gnum b := by unfold Fd.gnum; split <;> (try split) <;> (try split) <;> (try split) <;> omega
    generalize Fd.gnum b = g at *
    by_cases hg : 0 ≤ g
    · have E : Hid (Fd.meant b = some (g, 0)) := by unfold Hid; rw [e, if_pos hg]
      clear e
      by_cases h1 : 49 ≤ b.toNat
      · have h2 : ¬ b.toNat ≤ 57 := by omega
        clear h
        go_enter Try.func46, Try.ntmps46
        go_wp2_with fail
        refine Calls.mono I.out ?_
        rintro e w' ⟨rfl, rfl⟩
        go_wp2
        go_ret3
        exact .inl ⟨_, _, E.out, rfl, rfl⟩
      · clear h
        go_enter Try.func46, Try.ntmps46
        go_wp2_with fail
        refine Calls.mono I.out ?_
        rintro e w' ⟨rfl, rfl⟩
        go_wp2
        go_ret3
        exact .inl ⟨_, _, E.out, rfl, rfl⟩
    · obtain rfl : g = -1 := by omega
      have E : Hid (Fd.meant b = none) := by unfold Hid; rw [e, if_neg hg]
      clear e gl hg
      by_cases h1 : 49 ≤ b.toNat
      · have h2 : ¬ b.toNat ≤ 57 := by omega
        clear h
        go_enter Try.func46, Try.ntmps46
        go_wp2_with fail
        refine Calls.mono I.out ?_
        rintro e w' ⟨rfl, rfl⟩
        go_wp2
        go_ret3
        exact .inr ⟨E.out, rfl, rfl⟩
      · clear h
        go_enter Try.func46, Try.ntmps46
        go_wp2_with fail
        refine Calls.mono I.out ?_
        rintro e w' ⟨rfl, rfl⟩
        go_wp2
        go_ret3
        exact .inr ⟨E.out, rfl, rfl⟩
end Go.Proofs.Ytagnjmellcibhaa

namespace Go.Proofs.Ytagnjmellcibhaa
open Go.RowKit
set_option linter.unusedVariables false

/-- two lists in blocks of their own, which are two. -/
structure Two (w : World) (base : Nat) (u1 u2 : Value) (gs os : List Int) : Prop where
  o1 : Ow w base u1 gs
  o2 : Ow w base u2 os
  ne : ∀ k, u1.ownBlock = some k → u2.ownBlock ≠ some k
theorem Two.below {w w' : World} {base n : Nat} {u1 u2 : Value} {gs os : List Int} (h : Two w base u1 u2 gs os) (hb : Below n w w') (hn : w.heap.size ≤ n) : Two w' base u1 u2 gs os :=
  ⟨h.o1.below (hb.mono hn), h.o2.below (hb.mono hn), h.ne⟩
/-- what stays where one block below the base turns. -/
theorem Two.kp {w w' : World} {base z : Nat} {u1 u2 : Value} {gs os : List Int} (h : Two w base u1 u2 gs os) (hk : Kp z w w') (hz : z < base) : Two w' base u1 u2 gs os := by
  have hg : w.grownBy w' (some z) := ⟨hk.os, hk.tape, hk.output, hk.size, fun k hk' hne => hk.block k hk' (fun e => hne (by rw [e]))⟩
  refine ⟨h.o1.kept hg ?_, h.o2.kept hg ?_, h.ne⟩
  · right; intro e; have := (h.o1.block z e).1; omega
  · right; intro e; have := (h.o2.block z e).1; omega

/-- the block of a draft. -/
def Dt (w : World) (z : Nat) (u1 u2 : Value) (s : Fd.St) : Prop := w.heap[z]? = some (.cells #[.int .i64 (s.W : Nat), .int .i64 (s.H : Nat), u1, u2, .int .i64 (s.c : Nat)] 69 (0, 0))
/-- a draft. -/
def Dr (w : World) (z : Nat) (s : Fd.St) : Prop := ∃ u1 u2, Dt w z u1 u2 s ∧ Two w (z + 1) u1 u2 s.gs s.os

section
variable {w : World} {z : Nat} {u1 u2 : Value} {s : Fd.St}
theorem Dt.c0 (h : Dt w z u1 u2 s) : w.cell? ⟨z, 0, none⟩ = some (.int .i64 (s.W : Nat)) := by unfold Dt at h; simp [World.cell?, h]
theorem Dt.c1 (h : Dt w z u1 u2 s) : w.cell? ⟨z, 1, none⟩ = some (.int .i64 (s.H : Nat)) := by unfold Dt at h; simp [World.cell?, h]
theorem Dt.c2 (h : Dt w z u1 u2 s) : w.cell? ⟨z, 2, none⟩ = some u1 := by unfold Dt at h; simp [World.cell?, h]
theorem Dt.c3 (h : Dt w z u1 u2 s) : w.cell? ⟨z, 3, none⟩ = some u2 := by unfold Dt at h; simp [World.cell?, h]
theorem Dt.c4 (h : Dt w z u1 u2 s) : w.cell? ⟨z, 4, none⟩ = some (.int .i64 (s.c : Nat)) := by unfold Dt at h; simp [World.cell?, h]
theorem Dt.fz (h : Dt w z u1 u2 s) (i : Nat) : w.frozen? ⟨z, i, none⟩ = false := by unfold Dt at h; simp [World.frozen?, h]
theorem Dt.lt (h : Dt w z u1 u2 s) : z < w.heap.size := lt_of_block h
theorem Dt.below {w' : World} {n : Nat} (h : Dt w z u1 u2 s) (hb : Below n w w') (hz : z < n) : Dt w' z u1 u2 s := (hb.block z hz).trans h
end

set_option maxHeartbeats 1000000 in
theorem end_bad (z : Nat) (u1 u2 : Value) (s : Fd.St) (w : World) (h : Dt w z u1 u2 s) (hc : s.c ≤ 12) (hw : s.W ≤ 12) (hb : s.c = 0 ∨ s.c < s.W) :
    Calls Try.prog 45 #[.pointer (some ⟨z, 0, none⟩)] w fun e w' => e = .returned (.iface 53 (.int .i64 2)) ∧ ∃ n, w' = w.drewN n := by
  have c0 := h.c0
  have c4 := h.c4
  obtain ⟨c, W, H, gs, os⟩ := s
  simp only at hc hw hb c0 c4
  clear h
  by_cases q : c = 0
  · subst q
    go_enter Try.func45, Try.ntmps45
    go_wp2_with fail
    go_quiet (fail)
    go_wp2
    go_ret
    exact ⟨rfl, _, rfl⟩
  · have q2 : c < W := by omega
    have q' : ((c : Int) == 0) = false := by rw [beq_eq_false_iff_ne]; omega
    clear hb
    go_enter Try.func45, Try.ntmps45
    go_wp2_with fail
    go_quiet (fail)
    go_wp2
    go_ret
    exact ⟨rfl, _, rfl⟩

set_option maxHeartbeats 1000000 in
theorem end_ok (z : Nat) (u1 u2 : Value) (s : Fd.St) (w : World) (h : Dt w z u1 u2 s) (hc : s.c ≤ 12) (hw : s.W ≤ 12) (hh : s.H ≤ 12) (h0 : s.c ≠ 0) (h1 : ¬ s.c < s.W) :
    Calls Try.prog 45 #[.pointer (some ⟨z, 0, none⟩)] w fun e w' => e = .returned .nilIface ∧ Dt w' z u1 u2 ⟨0, s.c, s.H + 1, s.gs, s.os⟩ ∧ Kp z w w' := by
  have D : Hid (Dt w z u1 u2 s) := h
  have c0 := h.c0
  have c1 := h.c1
  have c4 := h.c4
  have f0 := h.fz 0
  have f1 := h.fz 1
  have f4 := h.fz 4
  obtain ⟨c, W, H, gs, os⟩ := s
  simp only at hc hw hh h0 h1 c0 c1 c4
  have q' : ((c : Int) == 0) = false := by rw [beq_eq_false_iff_ne]; omega
  clear h
  go_enter Try.func45, Try.ntmps45
  go_wp2_with fail
  go_quiet (fail)
  have Dq : Hid (Dt (w.drewN nq) z u1 u2 ⟨c, W, H, gs, os⟩) := D.out
  have Kq : Hid (Kp z w (w.drewN nq)) := (Kp.refl z w).drewN nq
  have c0 : (w.drewN nq).cell? ⟨z, 0, none⟩ = some (.int .i64 (W : Nat)) := Dq.out.c0
  have c1 : (w.drewN nq).cell? ⟨z, 1, none⟩ = some (.int .i64 (H : Nat)) := Dq.out.c1
  have c4 : (w.drewN nq).cell? ⟨z, 4, none⟩ = some (.int .i64 (c : Nat)) := Dq.out.c4
  have f0 := Dq.out.fz 0
  have f1 := Dq.out.fz 1
  have f4 := Dq.out.fz 4
  generalize w.drewN nq = w1 at *
  go_wp2
  go_ret
  refine ⟨rfl, ?_, ?_⟩
  · unfold Dt
    rw [heap_setCell_same _ z 4 _ _ _ (heap_setCell_same _ z 1 _ _ _ (heap_setCell_same w1 z 0 _ _ _ Dq.out))]
    simp
  · exact ((Kq.out.trans (Kp.set _ _ _)).trans (Kp.set _ _ _)).trans (Kp.set _ _ _)
end Go.Proofs.Ytagnjmellcibhaa

