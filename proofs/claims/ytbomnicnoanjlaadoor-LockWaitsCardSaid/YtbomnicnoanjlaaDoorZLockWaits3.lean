/- slices.stableCmpFunc, slices.SortStableFunc of at most 60 orders by compare. · slices.stableCmpFunc of at most 60 orders: stab_a. · slices.stableCmpFunc of at most 60 orders: stab_b0. · slices.stableCmpFunc of at most 60 orders: stab_b1. · slices.stableCmpFunc of at most 60 orders: stab_c0. · slices.stableCmpFunc of at most 60 orders: stab_c1. · slices.stableCmpFunc of at most 60 orders: stab_d. · slices.SortStableFunc of at most 60 orders by compare. · orders.Last. · Lists of integers: a whole list behind another one. · Slices of api.Order: a whole list behind another one. · Lists of lists of orders. · orders.Merge of any lists. · lock.lists, Take. · slices.ContainsFunc of orders. · A region that draws its order, in which calls that change memory stand in one order, and what else there is reads what they leave: it may be walked in an order of one's own. · A region that draws its order: what reads, and calls in one order, first, in an order of one's own; then what turns what was read, each the only one that may come. · A region that draws its order, in which one operation (A: what makes memory for an answer) may come at any time beside calls in one order and what reads. -/
import Derived.Test.YtbomnicnoanjlaaDoorZLockWaits2
import Derived.Deep.DeepCutAuto
import Derived.Test.YtbomnicnoanjlaaDoorZLockWaits1
import Derived.Laws.AppendOwnNone
import Derived.Deep.RegionLaw
import Derived.Laws.Closers25
import Derived.IntWalk
import Derived.StillTail
import Derived.Below
namespace Go.Proofs.YtbomnicnoanjlaaDoor
open Go.RowKit Go.Proofs.YtbomnicnoanjlaaDoor.So
set_option linter.unusedVariables false
set_option linter.unusedSimpArgs false

theorem isort_i (A U B : List T) (g cap n : Nat) (ai bi : Int) (rest : List Value) (w : World) (hU : U.Pairwise (fun x y => x.2 < y.2)) (hr : Rb w g (fs (A ++ U ++ B)) rest) (hL : A.length + U.length + B.length = n) (hn : n ≤ 1000) (ha : ((A.length : Nat) : Int) = ai) (hb : ((A.length + U.length : Nat) : Int) = bi) :
    Calls Tryd.prog 52 #[.slice (some ⟨g, 0, none⟩) n cap, .int .i64 ai, .int .i64 bi, .func (.func 44) #[] #[]] w (SortSays A U B g rest w) := by
  have e : (A ++ U ++ B).length = n := by simp; omega
  have h := isort_any A U B g cap rest w hU hr (by omega)
  rw [e, ha, hb] at h
  exact h
theorem sym_i (A X Y B : List T) (g cap n : Nat) (ai mi bi : Int) (rest : List Value) (w : World) (hX0 : X ≠ []) (hY0 : Y ≠ []) (hX : X.Pairwise lt) (hY : Y.Pairwise lt) (hp : ∀ x ∈ X, ∀ y ∈ Y, x.2 < y.2) (hr : Rb w g (fs (A ++ X ++ Y ++ B)) rest) (hL : A.length + X.length + Y.length + B.length = n) (hn : n ≤ 1000) (ha : ((A.length : Nat) : Int) = ai) (hm : ((A.length + X.length : Nat) : Int) = mi) (hb : ((A.length + X.length + Y.length : Nat) : Int) = bi) :
    Calls Tryd.prog 53 #[.slice (some ⟨g, 0, none⟩) n cap, .int .i64 ai, .int .i64 mi, .int .i64 bi, .func (.func 44) #[] #[]] w (MergeSays A (X ++ Y) B g rest w) := by
  have h := sym_any (X.length + Y.length) A X Y B g cap n _ _ _ rest w (Nat.le_refl _) hX0 hY0 hX hY hp hr hL hn rfl rfl rfl
  rw [ha, hm, hb] at h
  exact h
theorem tag_of {X U V Y : List T} {Z : List T} (hU : (U ++ V).Pairwise (fun x y => x.2 < y.2)) (hX : X.Perm U) (hY : ∀ y ∈ Y, y ∈ V) : ∀ x ∈ X, ∀ y ∈ Y, x.2 < y.2 := fun x hx y hy => (List.pairwise_append.1 hU).2.2 x (hX.mem_iff.1 hx) y (hY y hy)
def StabSays (U : List T) (g : Nat) (rest : List Value) (w : World) (e : Ending) (w' : World) : Prop := e = .returned (.tuple #[]) ∧ ∃ S, S.Perm U ∧ S.Pairwise lt ∧ Rb w' g (fs S) rest ∧ Kp g w w'
theorem ne_of_pos {l : List T} (h : 0 < l.length) : l ≠ [] := List.length_pos_iff.1 h

end Go.Proofs.YtbomnicnoanjlaaDoor

namespace Go.Proofs.YtbomnicnoanjlaaDoor
open Go.RowKit Go.Proofs.YtbomnicnoanjlaaDoor.So
set_option linter.unusedVariables false
set_option linter.unusedSimpArgs false


set_option maxRecDepth 100000 in
set_option maxHeartbeats 16000000 in
theorem stab_a (U1 : List T) (g cap n : Nat) (rest : List Value) (w : World) (h1 : U1.length = n) (hU : (U1).Pairwise (fun x y => x.2 < y.2)) (hr : Rb w g (fs (U1)) rest) (hn : n < 20) :
    Calls Tryd.prog 48 #[.slice (some ⟨g, 0, none⟩) n cap, .int .i64 (n : Nat), .func (.func 44) #[] #[]] w (StabSays (U1) g rest w) := by
  have R0 : Hid (Rb w g (fs (U1)) rest) := hr
  have HU : Hid ((U1).Pairwise (fun x y => x.2 < y.2)) := hU
  have HL : Hid (U1.length = n ∧ n ≤ 60) := ⟨h1, by omega⟩
  have le20 : ¬ (20 : Int) ≤ (n : Nat) := by omega
  have lt20 : ¬ (20 : Int) < (n : Nat) := by omega
  have le40 : ¬ (40 : Int) ≤ (n : Nat) := by omega
  have le80 : ¬ (80 : Int) ≤ (n : Nat) := by omega
  have HN : Hid (n < 20) := hn
  clear hn
  clear hr hU h1
  go_enter Tryd.func48, Tryd.ntmps48
  go_wp2_with fail
  refine wp_loop_rounds 1 ?_
  rw [rounds_succ]
  go_wp2_with fail
  have C : Calls _ _ _ _ _ := isort_i ([]) U1 ([]) g cap n 0 (n : Nat) rest w (HU.out) (by have := R0.out; simpa [fs] using this) (by have q1 := HL.out; have q2 := HN.out;  (try simp only [List.length_append, List.length_nil]); omega) (by have := HL.out; omega) (by have q1 := HL.out; have q2 := HN.out;  (try simp only [List.length_append, List.length_nil]); omega) (by have q1 := HL.out; have q2 := HN.out;  (try simp only [List.length_append, List.length_nil]); omega)
  refine Calls.mono C ?_
  clear C
  rintro er v1 ⟨rfl, S1, hp, hs, hr, hk⟩
  have R1 : Hid (Rb v1 g (fs (S1)) rest) := by unfold Hid; simpa [fs] using hr
  have P1 : Hid (S1.Perm U1 ∧ S1.Pairwise lt) := ⟨hp, hs⟩
  have K1 : Hid (Kp g w v1) := hk
  clear hp hs hr hk
  go_wp2_with fail
  refine wp_loop_rounds 1 ?_
  rw [rounds_succ]
  go_wp2_with fail
  go_wp2
  go_end0
  exact ⟨rfl, S1, P1.out.1, P1.out.2, R1.out, K1.out⟩
end Go.Proofs.YtbomnicnoanjlaaDoor

namespace Go.Proofs.YtbomnicnoanjlaaDoor
open Go.RowKit Go.Proofs.YtbomnicnoanjlaaDoor.So
set_option linter.unusedVariables false
set_option linter.unusedSimpArgs false


set_option maxRecDepth 100000 in
set_option maxHeartbeats 16000000 in
theorem stab_b0 (U1 U2 : List T) (g cap n : Nat) (rest : List Value) (w : World) (h1 : U1.length = 20) (h2 : U2.length = 0) (hU : (U1 ++ U2).Pairwise (fun x y => x.2 < y.2)) (hr : Rb w g (fs (U1 ++ U2)) rest) (hn : n = 20) :
    Calls Tryd.prog 48 #[.slice (some ⟨g, 0, none⟩) n cap, .int .i64 (n : Nat), .func (.func 44) #[] #[]] w (StabSays (U1 ++ U2) g rest w) := by
  have R0 : Hid (Rb w g (fs (U1 ++ U2)) rest) := hr
  have HU : Hid ((U1 ++ U2).Pairwise (fun x y => x.2 < y.2)) := hU
  have HL : Hid (U1.length = 20 ∧ U2.length = 0 ∧ n ≤ 60) := ⟨h1, h2, by omega⟩
  have le20 : (20 : Int) ≤ (n : Nat) := by omega
  have le40 : ¬ (40 : Int) ≤ (n : Nat) := by omega
  have lt20 : ¬ (20 : Int) < (n : Nat) := by omega
  have le80 : ¬ (80 : Int) ≤ (n : Nat) := by omega
  have HN : Hid (n = 20) := hn
  clear hn
  clear hr hU h1 h2
  go_enter Tryd.func48, Tryd.ntmps48
  go_wp2_with fail
  refine wp_loop_rounds 2 ?_
  rw [rounds_succ]
  go_wp2_with fail
  have C : Calls _ _ _ _ _ := isort_i ([]) U1 (U2) g cap n 0 20 rest w ((List.pairwise_append.1 HU.out).1) (by have := R0.out; simpa [fs] using this) (by have q1 := HL.out; have q2 := HN.out;  (try simp only [List.length_append, List.length_nil]); omega) (by have := HL.out; omega) (by have q1 := HL.out; have q2 := HN.out;  (try simp only [List.length_append, List.length_nil]); omega) (by have q1 := HL.out; have q2 := HN.out;  (try simp only [List.length_append, List.length_nil]); omega)
  refine Calls.mono C ?_
  clear C
  rintro er v1 ⟨rfl, S1, hp, hs, hr, hk⟩
  have R1 : Hid (Rb v1 g (fs (S1 ++ U2)) rest) := by unfold Hid; simpa [fs] using hr
  have P1 : Hid (S1.Perm U1 ∧ S1.Pairwise lt) := ⟨hp, hs⟩
  have K1 : Hid (Kp g w v1) := hk
  clear hp hs hr hk
  go_wp2_with fail
  rw [rounds_succ]
  go_wp2_with fail
  have C : Calls _ _ _ _ _ := isort_i (S1) U2 ([]) g cap n 20 (n : Nat) rest v1 ((List.pairwise_append.1 HU.out).2.1) (by have := R1.out; simpa [fs] using this) (by have q1 := HL.out; have q2 := HN.out; have z1 := P1.out.1.length_eq; (try simp only [List.length_append, List.length_nil]); omega) (by have := HL.out; omega) (by have q1 := HL.out; have q2 := HN.out; have z1 := P1.out.1.length_eq; (try simp only [List.length_append, List.length_nil]); omega) (by have q1 := HL.out; have q2 := HN.out; have z1 := P1.out.1.length_eq; (try simp only [List.length_append, List.length_nil]); omega)
  refine Calls.mono C ?_
  clear C
  rintro er v2 ⟨rfl, S2, hp, hs, hr, hk⟩
  have R2 : Hid (Rb v2 g (fs (S1 ++ S2)) rest) := by unfold Hid; simpa [fs] using hr
  have P2 : Hid (S2.Perm U2 ∧ S2.Pairwise lt) := ⟨hp, hs⟩
  have K2 : Hid (Kp g w v2) := K1.out.trans hk
  clear hp hs hr hk
  go_wp2_with fail
  refine wp_loop_rounds 1 ?_
  rw [rounds_succ]
  go_wp2_with fail
  go_wp2
  go_end0
  have eS2 : S2 = [] := List.length_eq_zero_iff.1 (by have q1 := HL.out; have q2 := HN.out; have z := P2.out.1.length_eq; omega)
  have eU2 : U2 = [] := List.length_eq_zero_iff.1 (by have q1 := HL.out; have q2 := HN.out; omega)
  refine ⟨rfl, S1, ?_, P1.out.2, ?_, K2.out⟩
  · have h := P1.out.1
    simpa [eU2] using h
  · have h := R2.out
    rw [eS2] at h
    simpa using h
end Go.Proofs.YtbomnicnoanjlaaDoor

namespace Go.Proofs.YtbomnicnoanjlaaDoor
open Go.RowKit Go.Proofs.YtbomnicnoanjlaaDoor.So
set_option linter.unusedVariables false
set_option linter.unusedSimpArgs false


set_option maxRecDepth 100000 in
set_option maxHeartbeats 16000000 in
theorem stab_b1 (U1 U2 : List T) (g cap n : Nat) (rest : List Value) (w : World) (h1 : U1.length = 20) (h2 : U2.length = n - 20) (hU : (U1 ++ U2).Pairwise (fun x y => x.2 < y.2)) (hr : Rb w g (fs (U1 ++ U2)) rest) (hn : 20 < n ∧ n < 40) :
    Calls Tryd.prog 48 #[.slice (some ⟨g, 0, none⟩) n cap, .int .i64 (n : Nat), .func (.func 44) #[] #[]] w (StabSays (U1 ++ U2) g rest w) := by
  have R0 : Hid (Rb w g (fs (U1 ++ U2)) rest) := hr
  have HU : Hid ((U1 ++ U2).Pairwise (fun x y => x.2 < y.2)) := hU
  have HL : Hid (U1.length = 20 ∧ U2.length = n - 20 ∧ n ≤ 60) := ⟨h1, h2, by omega⟩
  have le20 : (20 : Int) ≤ (n : Nat) := by omega
  have le40 : ¬ (40 : Int) ≤ (n : Nat) := by omega
  have lt20 : (20 : Int) < (n : Nat) := by omega
  have lt40 : ¬ (40 : Int) < (n : Nat) := by omega
  have le80 : ¬ (80 : Int) ≤ (n : Nat) := by omega
  have HN : Hid (20 < n ∧ n < 40) := hn
  clear hn
  clear hr hU h1 h2
  go_enter Tryd.func48, Tryd.ntmps48
  go_wp2_with fail
  refine wp_loop_rounds 2 ?_
  rw [rounds_succ]
  go_wp2_with fail
  have C : Calls _ _ _ _ _ := isort_i ([]) U1 (U2) g cap n 0 20 rest w ((List.pairwise_append.1 HU.out).1) (by have := R0.out; simpa [fs] using this) (by have q1 := HL.out; have q2 := HN.out;  (try simp only [List.length_append, List.length_nil]); omega) (by have := HL.out; omega) (by have q1 := HL.out; have q2 := HN.out;  (try simp only [List.length_append, List.length_nil]); omega) (by have q1 := HL.out; have q2 := HN.out;  (try simp only [List.length_append, List.length_nil]); omega)
  refine Calls.mono C ?_
  clear C
  rintro er v1 ⟨rfl, S1, hp, hs, hr, hk⟩
  have R1 : Hid (Rb v1 g (fs (S1 ++ U2)) rest) := by unfold Hid; simpa [fs] using hr
  have P1 : Hid (S1.Perm U1 ∧ S1.Pairwise lt) := ⟨hp, hs⟩
  have K1 : Hid (Kp g w v1) := hk
  clear hp hs hr hk
  go_wp2_with fail
  rw [rounds_succ]
  go_wp2_with fail
  have C : Calls _ _ _ _ _ := isort_i (S1) U2 ([]) g cap n 20 (n : Nat) rest v1 ((List.pairwise_append.1 HU.out).2.1) (by have := R1.out; simpa [fs] using this) (by have q1 := HL.out; have q2 := HN.out; have z1 := P1.out.1.length_eq; (try simp only [List.length_append, List.length_nil]); omega) (by have := HL.out; omega) (by have q1 := HL.out; have q2 := HN.out; have z1 := P1.out.1.length_eq; (try simp only [List.length_append, List.length_nil]); omega) (by have q1 := HL.out; have q2 := HN.out; have z1 := P1.out.1.length_eq; (try simp only [List.length_append, List.length_nil]); omega)
  refine Calls.mono C ?_
  clear C
  rintro er v2 ⟨rfl, S2, hp, hs, hr, hk⟩
  have R2 : Hid (Rb v2 g (fs (S1 ++ S2)) rest) := by unfold Hid; simpa [fs] using hr
  have P2 : Hid (S2.Perm U2 ∧ S2.Pairwise lt) := ⟨hp, hs⟩
  have K2 : Hid (Kp g w v2) := K1.out.trans hk
  clear hp hs hr hk
  go_wp2_with fail
  refine wp_loop_rounds 2 ?_
  rw [rounds_succ]
  go_wp2_with fail
  refine wp_loop_rounds 1 ?_
  rw [rounds_succ]
  go_wp2_with fail
  have TG : Hid (∀ x ∈ S1, ∀ y ∈ S2, x.2 < y.2) := fun x hx y hy => by have h1 := P1.out.1.mem_iff.1 hx; have h2 := P2.out.1.mem_iff.1 hy; have h3 := HU.out; have e : (U1) ++ (U2) ++ ([]) = U1 ++ U2 := (by simp); rw [← e, List.pairwise_append] at h3; exact (List.pairwise_append.1 h3.1).2.2 x h1 y h2
  have C : Calls _ _ _ _ _ := sym_i ([]) S1 S2 ([]) g cap n 0 20 (n : Nat) rest v2 (ne_of_pos (by have q1 := HL.out; have q2 := HN.out; have z0 := P1.out.1.length_eq; have z1 := P2.out.1.length_eq; (try simp only [List.length_append] at z0 z1); (try simp only [List.length_append, List.length_nil]); omega)) (ne_of_pos (by have q1 := HL.out; have q2 := HN.out; have z0 := P1.out.1.length_eq; have z1 := P2.out.1.length_eq; (try simp only [List.length_append] at z0 z1); (try simp only [List.length_append, List.length_nil]); omega)) P1.out.2 P2.out.2 TG.out (by have := R2.out; simpa [fs] using this) (by have q1 := HL.out; have q2 := HN.out; have z0 := P1.out.1.length_eq; have z1 := P2.out.1.length_eq; (try simp only [List.length_append] at z0 z1); (try simp only [List.length_append, List.length_nil]); omega) (by have := HL.out; omega) (by have q1 := HL.out; have q2 := HN.out; have z0 := P1.out.1.length_eq; have z1 := P2.out.1.length_eq; (try simp only [List.length_append] at z0 z1); (try simp only [List.length_append, List.length_nil]); omega) (by have q1 := HL.out; have q2 := HN.out; have z0 := P1.out.1.length_eq; have z1 := P2.out.1.length_eq; (try simp only [List.length_append] at z0 z1); (try simp only [List.length_append, List.length_nil]); omega) (by have q1 := HL.out; have q2 := HN.out; have z0 := P1.out.1.length_eq; have z1 := P2.out.1.length_eq; (try simp only [List.length_append] at z0 z1); (try simp only [List.length_append, List.length_nil]); omega)
  refine Calls.mono C ?_
  clear C
  rintro er v3 ⟨rfl, S3, hp, hs, hr, hk⟩
  have R3 : Hid (Rb v3 g (fs (S3)) rest) := by unfold Hid; simpa [fs] using hr
  have P3 : Hid (S3.Perm (U1 ++ U2) ∧ S3.Pairwise lt) := ⟨hp.trans (P1.out.1.append P2.out.1), hs⟩
  have K3 : Hid (Kp g w v3) := K2.out.trans hk
  clear hp hs hr hk TG
  go_wp2_with fail
  rw [rounds_succ]
  go_wp2_with fail
  go_wp2
  go_end0
  exact ⟨rfl, S3, P3.out.1, P3.out.2, R3.out, K3.out⟩
end Go.Proofs.YtbomnicnoanjlaaDoor

namespace Go.Proofs.YtbomnicnoanjlaaDoor
open Go.RowKit Go.Proofs.YtbomnicnoanjlaaDoor.So
set_option linter.unusedVariables false
set_option linter.unusedSimpArgs false


set_option maxRecDepth 100000 in
set_option maxHeartbeats 16000000 in
theorem stab_c0 (U1 U2 U3 : List T) (g cap n : Nat) (rest : List Value) (w : World) (h1 : U1.length = 20) (h2 : U2.length = 20) (h3 : U3.length = 0) (hU : (U1 ++ U2 ++ U3).Pairwise (fun x y => x.2 < y.2)) (hr : Rb w g (fs (U1 ++ U2 ++ U3)) rest) (hn : n = 40) :
    Calls Tryd.prog 48 #[.slice (some ⟨g, 0, none⟩) n cap, .int .i64 (n : Nat), .func (.func 44) #[] #[]] w (StabSays (U1 ++ U2 ++ U3) g rest w) := by
  have R0 : Hid (Rb w g (fs (U1 ++ U2 ++ U3)) rest) := hr
  have HU : Hid ((U1 ++ U2 ++ U3).Pairwise (fun x y => x.2 < y.2)) := hU
  have HL : Hid (U1.length = 20 ∧ U2.length = 20 ∧ U3.length = 0 ∧ n ≤ 60) := ⟨h1, h2, h3, by omega⟩
  have le20 : (20 : Int) ≤ (n : Nat) := by omega
  have le40 : (40 : Int) ≤ (n : Nat) := by omega
  have le60 : ¬ (60 : Int) ≤ (n : Nat) := by omega
  have lt20 : (20 : Int) < (n : Nat) := by omega
  have lt40 : ¬ (40 : Int) < (n : Nat) := by omega
  have le80 : ¬ (80 : Int) ≤ (n : Nat) := by omega
  have HN : Hid (n = 40) := hn
  clear hn
  clear hr hU h1 h2 h3
  go_enter Tryd.func48, Tryd.ntmps48
  go_wp2_with fail
  refine wp_loop_rounds 3 ?_
  rw [rounds_succ]
  go_wp2_with fail
  have C : Calls _ _ _ _ _ := isort_i ([]) U1 (U2 ++ U3) g cap n 0 20 rest w ((List.pairwise_append.1 (List.pairwise_append.1 HU.out).1).1) (by have := R0.out; simpa [fs] using this) (by have q1 := HL.out; have q2 := HN.out;  (try simp only [List.length_append, List.length_nil]); omega) (by have := HL.out; omega) (by have q1 := HL.out; have q2 := HN.out;  (try simp only [List.length_append, List.length_nil]); omega) (by have q1 := HL.out; have q2 := HN.out;  (try simp only [List.length_append, List.length_nil]); omega)
  refine Calls.mono C ?_
  clear C
  rintro er v1 ⟨rfl, S1, hp, hs, hr, hk⟩
  have R1 : Hid (Rb v1 g (fs (S1 ++ U2 ++ U3)) rest) := by unfold Hid; simpa [fs] using hr
  have P1 : Hid (S1.Perm U1 ∧ S1.Pairwise lt) := ⟨hp, hs⟩
  have K1 : Hid (Kp g w v1) := hk
  clear hp hs hr hk
  go_wp2_with fail
  rw [rounds_succ]
  go_wp2_with fail
  have C : Calls _ _ _ _ _ := isort_i (S1) U2 (U3) g cap n 20 40 rest v1 ((List.pairwise_append.1 (List.pairwise_append.1 HU.out).1).2.1) (by have := R1.out; simpa [fs] using this) (by have q1 := HL.out; have q2 := HN.out; have z1 := P1.out.1.length_eq; (try simp only [List.length_append, List.length_nil]); omega) (by have := HL.out; omega) (by have q1 := HL.out; have q2 := HN.out; have z1 := P1.out.1.length_eq; (try simp only [List.length_append, List.length_nil]); omega) (by have q1 := HL.out; have q2 := HN.out; have z1 := P1.out.1.length_eq; (try simp only [List.length_append, List.length_nil]); omega)
  refine Calls.mono C ?_
  clear C
  rintro er v2 ⟨rfl, S2, hp, hs, hr, hk⟩
  have R2 : Hid (Rb v2 g (fs (S1 ++ S2 ++ U3)) rest) := by unfold Hid; simpa [fs] using hr
  have P2 : Hid (S2.Perm U2 ∧ S2.Pairwise lt) := ⟨hp, hs⟩
  have K2 : Hid (Kp g w v2) := K1.out.trans hk
  clear hp hs hr hk
  go_wp2_with fail
  rw [rounds_succ]
  go_wp2_with fail
  have C : Calls _ _ _ _ _ := isort_i (S1 ++ S2) U3 ([]) g cap n 40 (n : Nat) rest v2 ((List.pairwise_append.1 HU.out).2.1) (by have := R2.out; simpa [fs] using this) (by have q1 := HL.out; have q2 := HN.out; have z1 := P1.out.1.length_eq; have z2 := P2.out.1.length_eq; (try simp only [List.length_append, List.length_nil]); omega) (by have := HL.out; omega) (by have q1 := HL.out; have q2 := HN.out; have z1 := P1.out.1.length_eq; have z2 := P2.out.1.length_eq; (try simp only [List.length_append, List.length_nil]); omega) (by have q1 := HL.out; have q2 := HN.out; have z1 := P1.out.1.length_eq; have z2 := P2.out.1.length_eq; (try simp only [List.length_append, List.length_nil]); omega)
  refine Calls.mono C ?_
  clear C
  rintro er v3 ⟨rfl, S3, hp, hs, hr, hk⟩
  have R3 : Hid (Rb v3 g (fs (S1 ++ S2 ++ S3)) rest) := by unfold Hid; simpa [fs] using hr
  have P3 : Hid (S3.Perm U3 ∧ S3.Pairwise lt) := ⟨hp, hs⟩
  have K3 : Hid (Kp g w v3) := K2.out.trans hk
  clear hp hs hr hk
  go_wp2_with fail
  refine wp_loop_rounds 2 ?_
  rw [rounds_succ]
  go_wp2_with fail
  refine wp_loop_rounds 2 ?_
  rw [rounds_succ]
  go_wp2_with fail
  have TG : Hid (∀ x ∈ S1, ∀ y ∈ S2, x.2 < y.2) := fun x hx y hy => by have h1 := P1.out.1.mem_iff.1 hx; have h2 := P2.out.1.mem_iff.1 hy; have h3 := HU.out; have e : (U1) ++ (U2) ++ (U3) = U1 ++ U2 ++ U3 := (by simp); rw [← e, List.pairwise_append] at h3; exact (List.pairwise_append.1 h3.1).2.2 x h1 y h2
  have C : Calls _ _ _ _ _ := sym_i ([]) S1 S2 (S3) g cap n 0 20 40 rest v3 (ne_of_pos (by have q1 := HL.out; have q2 := HN.out; have z0 := P1.out.1.length_eq; have z1 := P2.out.1.length_eq; have z2 := P3.out.1.length_eq; (try simp only [List.length_append] at z0 z1 z2); (try simp only [List.length_append, List.length_nil]); omega)) (ne_of_pos (by have q1 := HL.out; have q2 := HN.out; have z0 := P1.out.1.length_eq; have z1 := P2.out.1.length_eq; have z2 := P3.out.1.length_eq; (try simp only [List.length_append] at z0 z1 z2); (try simp only [List.length_append, List.length_nil]); omega)) P1.out.2 P2.out.2 TG.out (by have := R3.out; simpa [fs] using this) (by have q1 := HL.out; have q2 := HN.out; have z0 := P1.out.1.length_eq; have z1 := P2.out.1.length_eq; have z2 := P3.out.1.length_eq; (try simp only [List.length_append] at z0 z1 z2); (try simp only [List.length_append, List.length_nil]); omega) (by have := HL.out; omega) (by have q1 := HL.out; have q2 := HN.out; have z0 := P1.out.1.length_eq; have z1 := P2.out.1.length_eq; have z2 := P3.out.1.length_eq; (try simp only [List.length_append] at z0 z1 z2); (try simp only [List.length_append, List.length_nil]); omega) (by have q1 := HL.out; have q2 := HN.out; have z0 := P1.out.1.length_eq; have z1 := P2.out.1.length_eq; have z2 := P3.out.1.length_eq; (try simp only [List.length_append] at z0 z1 z2); (try simp only [List.length_append, List.length_nil]); omega) (by have q1 := HL.out; have q2 := HN.out; have z0 := P1.out.1.length_eq; have z1 := P2.out.1.length_eq; have z2 := P3.out.1.length_eq; (try simp only [List.length_append] at z0 z1 z2); (try simp only [List.length_append, List.length_nil]); omega)
  refine Calls.mono C ?_
  clear C
  rintro er v4 ⟨rfl, S4, hp, hs, hr, hk⟩
  have R4 : Hid (Rb v4 g (fs (S4 ++ S3)) rest) := by unfold Hid; simpa [fs] using hr
  have P4 : Hid (S4.Perm (U1 ++ U2) ∧ S4.Pairwise lt) := ⟨hp.trans (P1.out.1.append P2.out.1), hs⟩
  have K4 : Hid (Kp g w v4) := K3.out.trans hk
  clear hp hs hr hk TG
  go_wp2_with fail
  rw [rounds_succ]
  go_wp2_with fail
  rw [rounds_succ]
  go_wp2_with fail
  go_wp2
  go_end0
  have eS3 : S3 = [] := List.length_eq_zero_iff.1 (by have q1 := HL.out; have q2 := HN.out; have z := P3.out.1.length_eq; omega)
  have eU3 : U3 = [] := List.length_eq_zero_iff.1 (by have q1 := HL.out; have q2 := HN.out; omega)
  refine ⟨rfl, S4, ?_, P4.out.2, ?_, K4.out⟩
  · have h := P4.out.1
    simpa [eU3] using h
  · have h := R4.out
    rw [eS3] at h
    simpa using h
end Go.Proofs.YtbomnicnoanjlaaDoor

namespace Go.Proofs.YtbomnicnoanjlaaDoor
open Go.RowKit Go.Proofs.YtbomnicnoanjlaaDoor.So
set_option linter.unusedVariables false
set_option linter.unusedSimpArgs false


set_option maxRecDepth 100000 in
set_option maxHeartbeats 16000000 in
theorem stab_c1 (U1 U2 U3 : List T) (g cap n : Nat) (rest : List Value) (w : World) (h1 : U1.length = 20) (h2 : U2.length = 20) (h3 : U3.length = n - 40) (hU : (U1 ++ U2 ++ U3).Pairwise (fun x y => x.2 < y.2)) (hr : Rb w g (fs (U1 ++ U2 ++ U3)) rest) (hn : 40 < n ∧ n < 60) :
    Calls Tryd.prog 48 #[.slice (some ⟨g, 0, none⟩) n cap, .int .i64 (n : Nat), .func (.func 44) #[] #[]] w (StabSays (U1 ++ U2 ++ U3) g rest w) := by
  have R0 : Hid (Rb w g (fs (U1 ++ U2 ++ U3)) rest) := hr
  have HU : Hid ((U1 ++ U2 ++ U3).Pairwise (fun x y => x.2 < y.2)) := hU
  have HL : Hid (U1.length = 20 ∧ U2.length = 20 ∧ U3.length = n - 40 ∧ n ≤ 60) := ⟨h1, h2, h3, by omega⟩
  have le20 : (20 : Int) ≤ (n : Nat) := by omega
  have le40 : (40 : Int) ≤ (n : Nat) := by omega
  have le60 : ¬ (60 : Int) ≤ (n : Nat) := by omega
  have lt20 : (20 : Int) < (n : Nat) := by omega
  have lt40 : (40 : Int) < (n : Nat) := by omega
  have lt80 : ¬ (80 : Int) < (n : Nat) := by omega
  have le80 : ¬ (80 : Int) ≤ (n : Nat) := by omega
  have HN : Hid (40 < n ∧ n < 60) := hn
  clear hn
  clear hr hU h1 h2 h3
  go_enter Tryd.func48, Tryd.ntmps48
  go_wp2_with fail
  refine wp_loop_rounds 3 ?_
  rw [rounds_succ]
  go_wp2_with fail
  have C : Calls _ _ _ _ _ := isort_i ([]) U1 (U2 ++ U3) g cap n 0 20 rest w ((List.pairwise_append.1 (List.pairwise_append.1 HU.out).1).1) (by have := R0.out; simpa [fs] using this) (by have q1 := HL.out; have q2 := HN.out;  (try simp only [List.length_append, List.length_nil]); omega) (by have := HL.out; omega) (by have q1 := HL.out; have q2 := HN.out;  (try simp only [List.length_append, List.length_nil]); omega) (by have q1 := HL.out; have q2 := HN.out;  (try simp only [List.length_append, List.length_nil]); omega)
  refine Calls.mono C ?_
  clear C
  rintro er v1 ⟨rfl, S1, hp, hs, hr, hk⟩
  have R1 : Hid (Rb v1 g (fs (S1 ++ U2 ++ U3)) rest) := by unfold Hid; simpa [fs] using hr
  have P1 : Hid (S1.Perm U1 ∧ S1.Pairwise lt) := ⟨hp, hs⟩
  have K1 : Hid (Kp g w v1) := hk
  clear hp hs hr hk
  go_wp2_with fail
  rw [rounds_succ]
  go_wp2_with fail
  have C : Calls _ _ _ _ _ := isort_i (S1) U2 (U3) g cap n 20 40 rest v1 ((List.pairwise_append.1 (List.pairwise_append.1 HU.out).1).2.1) (by have := R1.out; simpa [fs] using this) (by have q1 := HL.out; have q2 := HN.out; have z1 := P1.out.1.length_eq; (try simp only [List.length_append, List.length_nil]); omega) (by have := HL.out; omega) (by have q1 := HL.out; have q2 := HN.out; have z1 := P1.out.1.length_eq; (try simp only [List.length_append, List.length_nil]); omega) (by have q1 := HL.out; have q2 := HN.out; have z1 := P1.out.1.length_eq; (try simp only [List.length_append, List.length_nil]); omega)
  refine Calls.mono C ?_
  clear C
  rintro er v2 ⟨rfl, S2, hp, hs, hr, hk⟩
  have R2 : Hid (Rb v2 g (fs (S1 ++ S2 ++ U3)) rest) := by unfold Hid; simpa [fs] using hr
  have P2 : Hid (S2.Perm U2 ∧ S2.Pairwise lt) := ⟨hp, hs⟩
  have K2 : Hid (Kp g w v2) := K1.out.trans hk
  clear hp hs hr hk
  go_wp2_with fail
  rw [rounds_succ]
  go_wp2_with fail
  have C : Calls _ _ _ _ _ := isort_i (S1 ++ S2) U3 ([]) g cap n 40 (n : Nat) rest v2 ((List.pairwise_append.1 HU.out).2.1) (by have := R2.out; simpa [fs] using this) (by have q1 := HL.out; have q2 := HN.out; have z1 := P1.out.1.length_eq; have z2 := P2.out.1.length_eq; (try simp only [List.length_append, List.length_nil]); omega) (by have := HL.out; omega) (by have q1 := HL.out; have q2 := HN.out; have z1 := P1.out.1.length_eq; have z2 := P2.out.1.length_eq; (try simp only [List.length_append, List.length_nil]); omega) (by have q1 := HL.out; have q2 := HN.out; have z1 := P1.out.1.length_eq; have z2 := P2.out.1.length_eq; (try simp only [List.length_append, List.length_nil]); omega)
  refine Calls.mono C ?_
  clear C
  rintro er v3 ⟨rfl, S3, hp, hs, hr, hk⟩
  have R3 : Hid (Rb v3 g (fs (S1 ++ S2 ++ S3)) rest) := by unfold Hid; simpa [fs] using hr
  have P3 : Hid (S3.Perm U3 ∧ S3.Pairwise lt) := ⟨hp, hs⟩
  have K3 : Hid (Kp g w v3) := K2.out.trans hk
  clear hp hs hr hk
  go_wp2_with fail
  refine wp_loop_rounds 3 ?_
  rw [rounds_succ]
  go_wp2_with fail
  refine wp_loop_rounds 2 ?_
  rw [rounds_succ]
  go_wp2_with fail
  have TG : Hid (∀ x ∈ S1, ∀ y ∈ S2, x.2 < y.2) := fun x hx y hy => by have h1 := P1.out.1.mem_iff.1 hx; have h2 := P2.out.1.mem_iff.1 hy; have h3 := HU.out; have e : (U1) ++ (U2) ++ (U3) = U1 ++ U2 ++ U3 := (by simp); rw [← e, List.pairwise_append] at h3; exact (List.pairwise_append.1 h3.1).2.2 x h1 y h2
  have C : Calls _ _ _ _ _ := sym_i ([]) S1 S2 (S3) g cap n 0 20 40 rest v3 (ne_of_pos (by have q1 := HL.out; have q2 := HN.out; have z0 := P1.out.1.length_eq; have z1 := P2.out.1.length_eq; have z2 := P3.out.1.length_eq; (try simp only [List.length_append] at z0 z1 z2); (try simp only [List.length_append, List.length_nil]); omega)) (ne_of_pos (by have q1 := HL.out; have q2 := HN.out; have z0 := P1.out.1.length_eq; have z1 := P2.out.1.length_eq; have z2 := P3.out.1.length_eq; (try simp only [List.length_append] at z0 z1 z2); (try simp only [List.length_append, List.length_nil]); omega)) P1.out.2 P2.out.2 TG.out (by have := R3.out; simpa [fs] using this) (by have q1 := HL.out; have q2 := HN.out; have z0 := P1.out.1.length_eq; have z1 := P2.out.1.length_eq; have z2 := P3.out.1.length_eq; (try simp only [List.length_append] at z0 z1 z2); (try simp only [List.length_append, List.length_nil]); omega) (by have := HL.out; omega) (by have q1 := HL.out; have q2 := HN.out; have z0 := P1.out.1.length_eq; have z1 := P2.out.1.length_eq; have z2 := P3.out.1.length_eq; (try simp only [List.length_append] at z0 z1 z2); (try simp only [List.length_append, List.length_nil]); omega) (by have q1 := HL.out; have q2 := HN.out; have z0 := P1.out.1.length_eq; have z1 := P2.out.1.length_eq; have z2 := P3.out.1.length_eq; (try simp only [List.length_append] at z0 z1 z2); (try simp only [List.length_append, List.length_nil]); omega) (by have q1 := HL.out; have q2 := HN.out; have z0 := P1.out.1.length_eq; have z1 := P2.out.1.length_eq; have z2 := P3.out.1.length_eq; (try simp only [List.length_append] at z0 z1 z2); (try simp only [List.length_append, List.length_nil]); omega)
  refine Calls.mono C ?_
  clear C
  rintro er v4 ⟨rfl, S4, hp, hs, hr, hk⟩
  have R4 : Hid (Rb v4 g (fs (S4 ++ S3)) rest) := by unfold Hid; simpa [fs] using hr
  have P4 : Hid (S4.Perm (U1 ++ U2) ∧ S4.Pairwise lt) := ⟨hp.trans (P1.out.1.append P2.out.1), hs⟩
  have K4 : Hid (Kp g w v4) := K3.out.trans hk
  clear hp hs hr hk TG
  go_wp2_with fail
  rw [rounds_succ]
  go_wp2_with fail
  rw [rounds_succ]
  go_wp2_with fail
  refine wp_loop_rounds 1 ?_
  rw [rounds_succ]
  go_wp2_with fail
  have TG : Hid (∀ x ∈ S4, ∀ y ∈ S3, x.2 < y.2) := fun x hx y hy => by have h1 := P4.out.1.mem_iff.1 hx; have h2 := P3.out.1.mem_iff.1 hy; have h3 := HU.out; have e : (U1 ++ U2) ++ (U3) ++ ([]) = U1 ++ U2 ++ U3 := (by simp); rw [← e, List.pairwise_append] at h3; exact (List.pairwise_append.1 h3.1).2.2 x h1 y h2
  have C : Calls _ _ _ _ _ := sym_i ([]) S4 S3 ([]) g cap n 0 40 (n : Nat) rest v4 (ne_of_pos (by have q1 := HL.out; have q2 := HN.out; have z0 := P4.out.1.length_eq; have z1 := P3.out.1.length_eq; (try simp only [List.length_append] at z0 z1); (try simp only [List.length_append, List.length_nil]); omega)) (ne_of_pos (by have q1 := HL.out; have q2 := HN.out; have z0 := P4.out.1.length_eq; have z1 := P3.out.1.length_eq; (try simp only [List.length_append] at z0 z1); (try simp only [List.length_append, List.length_nil]); omega)) P4.out.2 P3.out.2 TG.out (by have := R4.out; simpa [fs] using this) (by have q1 := HL.out; have q2 := HN.out; have z0 := P4.out.1.length_eq; have z1 := P3.out.1.length_eq; (try simp only [List.length_append] at z0 z1); (try simp only [List.length_append, List.length_nil]); omega) (by have := HL.out; omega) (by have q1 := HL.out; have q2 := HN.out; have z0 := P4.out.1.length_eq; have z1 := P3.out.1.length_eq; (try simp only [List.length_append] at z0 z1); (try simp only [List.length_append, List.length_nil]); omega) (by have q1 := HL.out; have q2 := HN.out; have z0 := P4.out.1.length_eq; have z1 := P3.out.1.length_eq; (try simp only [List.length_append] at z0 z1); (try simp only [List.length_append, List.length_nil]); omega) (by have q1 := HL.out; have q2 := HN.out; have z0 := P4.out.1.length_eq; have z1 := P3.out.1.length_eq; (try simp only [List.length_append] at z0 z1); (try simp only [List.length_append, List.length_nil]); omega)
  refine Calls.mono C ?_
  clear C
  rintro er v5 ⟨rfl, S5, hp, hs, hr, hk⟩
  have R5 : Hid (Rb v5 g (fs (S5)) rest) := by unfold Hid; simpa [fs] using hr
  have P5 : Hid (S5.Perm ((U1 ++ U2) ++ U3) ∧ S5.Pairwise lt) := ⟨hp.trans (P4.out.1.append P3.out.1), hs⟩
  have K5 : Hid (Kp g w v5) := K4.out.trans hk
  clear hp hs hr hk TG
  go_wp2_with fail
  rw [rounds_succ]
  go_wp2_with fail
  go_wp2
  go_end0
  exact ⟨rfl, S5, P5.out.1, P5.out.2, R5.out, K5.out⟩
end Go.Proofs.YtbomnicnoanjlaaDoor

namespace Go.Proofs.YtbomnicnoanjlaaDoor
open Go.RowKit Go.Proofs.YtbomnicnoanjlaaDoor.So
set_option linter.unusedVariables false
set_option linter.unusedSimpArgs false


set_option maxRecDepth 100000 in
set_option maxHeartbeats 16000000 in
theorem stab_d (U1 U2 U3 U4 : List T) (g cap n : Nat) (rest : List Value) (w : World) (h1 : U1.length = 20) (h2 : U2.length = 20) (h3 : U3.length = 20) (h4 : U4.length = 0) (hU : (U1 ++ U2 ++ U3 ++ U4).Pairwise (fun x y => x.2 < y.2)) (hr : Rb w g (fs (U1 ++ U2 ++ U3 ++ U4)) rest) (hn : n = 60) :
    Calls Tryd.prog 48 #[.slice (some ⟨g, 0, none⟩) n cap, .int .i64 (n : Nat), .func (.func 44) #[] #[]] w (StabSays (U1 ++ U2 ++ U3 ++ U4) g rest w) := by
  have R0 : Hid (Rb w g (fs (U1 ++ U2 ++ U3 ++ U4)) rest) := hr
  have HU : Hid ((U1 ++ U2 ++ U3 ++ U4).Pairwise (fun x y => x.2 < y.2)) := hU
  have HL : Hid (U1.length = 20 ∧ U2.length = 20 ∧ U3.length = 20 ∧ U4.length = 0 ∧ n ≤ 60) := ⟨h1, h2, h3, h4, by omega⟩
  have le20 : (20 : Int) ≤ (n : Nat) := by omega
  have le40 : (40 : Int) ≤ (n : Nat) := by omega
  have le60 : (60 : Int) ≤ (n : Nat) := by omega
  have le80 : ¬ (80 : Int) ≤ (n : Nat) := by omega
  have lt20 : (20 : Int) < (n : Nat) := by omega
  have lt40 : (40 : Int) < (n : Nat) := by omega
  have lt80 : ¬ (80 : Int) < (n : Nat) := by omega
  have lt60 : ¬ (60 : Int) < (n : Nat) := by omega
  have HN : Hid (n = 60) := hn
  clear hn
  clear hr hU h1 h2 h3 h4
  go_enter Tryd.func48, Tryd.ntmps48
  go_wp2_with fail
  refine wp_loop_rounds 4 ?_
  rw [rounds_succ]
  go_wp2_with fail
  have C : Calls _ _ _ _ _ := isort_i ([]) U1 (U2 ++ U3 ++ U4) g cap n 0 20 rest w ((List.pairwise_append.1 (List.pairwise_append.1 (List.pairwise_append.1 HU.out).1).1).1) (by have := R0.out; simpa [fs] using this) (by have q1 := HL.out; have q2 := HN.out;  (try simp only [List.length_append, List.length_nil]); omega) (by have := HL.out; omega) (by have q1 := HL.out; have q2 := HN.out;  (try simp only [List.length_append, List.length_nil]); omega) (by have q1 := HL.out; have q2 := HN.out;  (try simp only [List.length_append, List.length_nil]); omega)
  refine Calls.mono C ?_
  clear C
  rintro er v1 ⟨rfl, S1, hp, hs, hr, hk⟩
  have R1 : Hid (Rb v1 g (fs (S1 ++ U2 ++ U3 ++ U4)) rest) := by unfold Hid; simpa [fs] using hr
  have P1 : Hid (S1.Perm U1 ∧ S1.Pairwise lt) := ⟨hp, hs⟩
  have K1 : Hid (Kp g w v1) := hk
  clear hp hs hr hk
  go_wp2_with fail
  rw [rounds_succ]
  go_wp2_with fail
  have C : Calls _ _ _ _ _ := isort_i (S1) U2 (U3 ++ U4) g cap n 20 40 rest v1 ((List.pairwise_append.1 (List.pairwise_append.1 (List.pairwise_append.1 HU.out).1).1).2.1) (by have := R1.out; simpa [fs] using this) (by have q1 := HL.out; have q2 := HN.out; have z1 := P1.out.1.length_eq; (try simp only [List.length_append, List.length_nil]); omega) (by have := HL.out; omega) (by have q1 := HL.out; have q2 := HN.out; have z1 := P1.out.1.length_eq; (try simp only [List.length_append, List.length_nil]); omega) (by have q1 := HL.out; have q2 := HN.out; have z1 := P1.out.1.length_eq; (try simp only [List.length_append, List.length_nil]); omega)
  refine Calls.mono C ?_
  clear C
  rintro er v2 ⟨rfl, S2, hp, hs, hr, hk⟩
  have R2 : Hid (Rb v2 g (fs (S1 ++ S2 ++ U3 ++ U4)) rest) := by unfold Hid; simpa [fs] using hr
  have P2 : Hid (S2.Perm U2 ∧ S2.Pairwise lt) := ⟨hp, hs⟩
  have K2 : Hid (Kp g w v2) := K1.out.trans hk
  clear hp hs hr hk
  go_wp2_with fail
  rw [rounds_succ]
  go_wp2_with fail
  have C : Calls _ _ _ _ _ := isort_i (S1 ++ S2) U3 (U4) g cap n 40 60 rest v2 ((List.pairwise_append.1 (List.pairwise_append.1 HU.out).1).2.1) (by have := R2.out; simpa [fs] using this) (by have q1 := HL.out; have q2 := HN.out; have z1 := P1.out.1.length_eq; have z2 := P2.out.1.length_eq; (try simp only [List.length_append, List.length_nil]); omega) (by have := HL.out; omega) (by have q1 := HL.out; have q2 := HN.out; have z1 := P1.out.1.length_eq; have z2 := P2.out.1.length_eq; (try simp only [List.length_append, List.length_nil]); omega) (by have q1 := HL.out; have q2 := HN.out; have z1 := P1.out.1.length_eq; have z2 := P2.out.1.length_eq; (try simp only [List.length_append, List.length_nil]); omega)
  refine Calls.mono C ?_
  clear C
  rintro er v3 ⟨rfl, S3, hp, hs, hr, hk⟩
  have R3 : Hid (Rb v3 g (fs (S1 ++ S2 ++ S3 ++ U4)) rest) := by unfold Hid; simpa [fs] using hr
  have P3 : Hid (S3.Perm U3 ∧ S3.Pairwise lt) := ⟨hp, hs⟩
  have K3 : Hid (Kp g w v3) := K2.out.trans hk
  clear hp hs hr hk
  go_wp2_with fail
  rw [rounds_succ]
  go_wp2_with fail
  have C : Calls _ _ _ _ _ := isort_i (S1 ++ S2 ++ S3) U4 ([]) g cap n 60 (n : Nat) rest v3 ((List.pairwise_append.1 HU.out).2.1) (by have := R3.out; simpa [fs] using this) (by have q1 := HL.out; have q2 := HN.out; have z1 := P1.out.1.length_eq; have z2 := P2.out.1.length_eq; have z3 := P3.out.1.length_eq; (try simp only [List.length_append, List.length_nil]); omega) (by have := HL.out; omega) (by have q1 := HL.out; have q2 := HN.out; have z1 := P1.out.1.length_eq; have z2 := P2.out.1.length_eq; have z3 := P3.out.1.length_eq; (try simp only [List.length_append, List.length_nil]); omega) (by have q1 := HL.out; have q2 := HN.out; have z1 := P1.out.1.length_eq; have z2 := P2.out.1.length_eq; have z3 := P3.out.1.length_eq; (try simp only [List.length_append, List.length_nil]); omega)
  refine Calls.mono C ?_
  clear C
  rintro er v4 ⟨rfl, S4, hp, hs, hr, hk⟩
  have R4 : Hid (Rb v4 g (fs (S1 ++ S2 ++ S3 ++ S4)) rest) := by unfold Hid; simpa [fs] using hr
  have P4 : Hid (S4.Perm U4 ∧ S4.Pairwise lt) := ⟨hp, hs⟩
  have K4 : Hid (Kp g w v4) := K3.out.trans hk
  clear hp hs hr hk
  go_wp2_with fail
  refine wp_loop_rounds 3 ?_
  rw [rounds_succ]
  go_wp2_with fail
  refine wp_loop_rounds 2 ?_
  rw [rounds_succ]
  go_wp2_with fail
  have TG : Hid (∀ x ∈ S1, ∀ y ∈ S2, x.2 < y.2) := fun x hx y hy => by have h1 := P1.out.1.mem_iff.1 hx; have h2 := P2.out.1.mem_iff.1 hy; have h3 := HU.out; have e : (U1) ++ (U2) ++ (U3 ++ U4) = U1 ++ U2 ++ U3 ++ U4 := (by simp); rw [← e, List.pairwise_append] at h3; exact (List.pairwise_append.1 h3.1).2.2 x h1 y h2
  have C : Calls _ _ _ _ _ := sym_i ([]) S1 S2 (S3 ++ S4) g cap n 0 20 40 rest v4 (ne_of_pos (by have q1 := HL.out; have q2 := HN.out; have z0 := P1.out.1.length_eq; have z1 := P2.out.1.length_eq; have z2 := P3.out.1.length_eq; have z3 := P4.out.1.length_eq; (try simp only [List.length_append] at z0 z1 z2 z3); (try simp only [List.length_append, List.length_nil]); omega)) (ne_of_pos (by have q1 := HL.out; have q2 := HN.out; have z0 := P1.out.1.length_eq; have z1 := P2.out.1.length_eq; have z2 := P3.out.1.length_eq; have z3 := P4.out.1.length_eq; (try simp only [List.length_append] at z0 z1 z2 z3); (try simp only [List.length_append, List.length_nil]); omega)) P1.out.2 P2.out.2 TG.out (by have := R4.out; simpa [fs] using this) (by have q1 := HL.out; have q2 := HN.out; have z0 := P1.out.1.length_eq; have z1 := P2.out.1.length_eq; have z2 := P3.out.1.length_eq; have z3 := P4.out.1.length_eq; (try simp only [List.length_append] at z0 z1 z2 z3); (try simp only [List.length_append, List.length_nil]); omega) (by have := HL.out; omega) (by have q1 := HL.out; have q2 := HN.out; have z0 := P1.out.1.length_eq; have z1 := P2.out.1.length_eq; have z2 := P3.out.1.length_eq; have z3 := P4.out.1.length_eq; (try simp only [List.length_append] at z0 z1 z2 z3); (try simp only [List.length_append, List.length_nil]); omega) (by have q1 := HL.out; have q2 := HN.out; have z0 := P1.out.1.length_eq; have z1 := P2.out.1.length_eq; have z2 := P3.out.1.length_eq; have z3 := P4.out.1.length_eq; (try simp only [List.length_append] at z0 z1 z2 z3); (try simp only [List.length_append, List.length_nil]); omega) (by have q1 := HL.out; have q2 := HN.out; have z0 := P1.out.1.length_eq; have z1 := P2.out.1.length_eq; have z2 := P3.out.1.length_eq; have z3 := P4.out.1.length_eq; (try simp only [List.length_append] at z0 z1 z2 z3); (try simp only [List.length_append, List.length_nil]); omega)
  refine Calls.mono C ?_
  clear C
  rintro er v5 ⟨rfl, S5, hp, hs, hr, hk⟩
  have R5 : Hid (Rb v5 g (fs (S5 ++ S3 ++ S4)) rest) := by unfold Hid; simpa [fs] using hr
  have P5 : Hid (S5.Perm (U1 ++ U2) ∧ S5.Pairwise lt) := ⟨hp.trans (P1.out.1.append P2.out.1), hs⟩
  have K5 : Hid (Kp g w v5) := K4.out.trans hk
  clear hp hs hr hk TG
  go_wp2_with fail
  rw [rounds_succ]
  go_wp2_with fail
  rw [rounds_succ]
  go_wp2_with fail
  refine wp_loop_rounds 1 ?_
  rw [rounds_succ]
  go_wp2_with fail
  have TG : Hid (∀ x ∈ S5, ∀ y ∈ S3, x.2 < y.2) := fun x hx y hy => by have h1 := P5.out.1.mem_iff.1 hx; have h2 := P3.out.1.mem_iff.1 hy; have h3 := HU.out; have e : (U1 ++ U2) ++ (U3) ++ (U4) = U1 ++ U2 ++ U3 ++ U4 := (by simp); rw [← e, List.pairwise_append] at h3; exact (List.pairwise_append.1 h3.1).2.2 x h1 y h2
  have C : Calls _ _ _ _ _ := sym_i ([]) S5 S3 (S4) g cap n 0 40 (n : Nat) rest v5 (ne_of_pos (by have q1 := HL.out; have q2 := HN.out; have z0 := P5.out.1.length_eq; have z1 := P3.out.1.length_eq; have z2 := P4.out.1.length_eq; (try simp only [List.length_append] at z0 z1 z2); (try simp only [List.length_append, List.length_nil]); omega)) (ne_of_pos (by have q1 := HL.out; have q2 := HN.out; have z0 := P5.out.1.length_eq; have z1 := P3.out.1.length_eq; have z2 := P4.out.1.length_eq; (try simp only [List.length_append] at z0 z1 z2); (try simp only [List.length_append, List.length_nil]); omega)) P5.out.2 P3.out.2 TG.out (by have := R5.out; simpa [fs] using this) (by have q1 := HL.out; have q2 := HN.out; have z0 := P5.out.1.length_eq; have z1 := P3.out.1.length_eq; have z2 := P4.out.1.length_eq; (try simp only [List.length_append] at z0 z1 z2); (try simp only [List.length_append, List.length_nil]); omega) (by have := HL.out; omega) (by have q1 := HL.out; have q2 := HN.out; have z0 := P5.out.1.length_eq; have z1 := P3.out.1.length_eq; have z2 := P4.out.1.length_eq; (try simp only [List.length_append] at z0 z1 z2); (try simp only [List.length_append, List.length_nil]); omega) (by have q1 := HL.out; have q2 := HN.out; have z0 := P5.out.1.length_eq; have z1 := P3.out.1.length_eq; have z2 := P4.out.1.length_eq; (try simp only [List.length_append] at z0 z1 z2); (try simp only [List.length_append, List.length_nil]); omega) (by have q1 := HL.out; have q2 := HN.out; have z0 := P5.out.1.length_eq; have z1 := P3.out.1.length_eq; have z2 := P4.out.1.length_eq; (try simp only [List.length_append] at z0 z1 z2); (try simp only [List.length_append, List.length_nil]); omega)
  refine Calls.mono C ?_
  clear C
  rintro er v6 ⟨rfl, S6, hp, hs, hr, hk⟩
  have R6 : Hid (Rb v6 g (fs (S6 ++ S4)) rest) := by unfold Hid; simpa [fs] using hr
  have P6 : Hid (S6.Perm ((U1 ++ U2) ++ U3) ∧ S6.Pairwise lt) := ⟨hp.trans (P5.out.1.append P3.out.1), hs⟩
  have K6 : Hid (Kp g w v6) := K5.out.trans hk
  clear hp hs hr hk TG
  go_wp2_with fail
  rw [rounds_succ]
  go_wp2_with fail
  go_wp2
  go_end0
  have eS4 : S4 = [] := List.length_eq_zero_iff.1 (by have q1 := HL.out; have q2 := HN.out; have z := P4.out.1.length_eq; omega)
  have eU4 : U4 = [] := List.length_eq_zero_iff.1 (by have q1 := HL.out; have q2 := HN.out; omega)
  refine ⟨rfl, S6, ?_, P6.out.2, ?_, K6.out⟩
  · have h := P6.out.1
    simpa [eU4] using h
  · have h := R6.out
    rw [eS4] at h
    simpa using h
end Go.Proofs.YtbomnicnoanjlaaDoor

namespace Go.Proofs.YtbomnicnoanjlaaDoor
open Go.RowKit Go.Proofs.YtbomnicnoanjlaaDoor.So
set_option linter.unusedVariables false

theorem cut2 (U : List T) (i : Nat) (h : i ≤ U.length) : ∃ U1 U2, U = U1 ++ U2 ∧ U1.length = i ∧ U2.length = U.length - i := ⟨U.take i, U.drop i, (List.take_append_drop _ _).symm, by rw [List.length_take]; omega, by rw [List.length_drop]⟩
theorem stab_any (U : List T) (g cap n : Nat) (rest : List Value) (w : World) (hL : U.length = n) (hn : n ≤ 60) (hU : U.Pairwise (fun x y => x.2 < y.2)) (hr : Rb w g (fs U) rest) :
    Calls Tryd.prog 48 #[.slice (some ⟨g, 0, none⟩) n cap, .int .i64 (n : Nat), .func (.func 44) #[] #[]] w (StabSays U g rest w) := by
  by_cases h20 : n < 20
  · exact stab_a U g cap n rest w hL hU hr h20
  obtain ⟨U1, V1, rfl, l1, m1⟩ := cut2 U 20 (by omega)
  by_cases h21 : n = 20
  · exact stab_b0 U1 V1 g cap n rest w l1 (by omega) hU hr h21
  by_cases h40 : n < 40
  · exact stab_b1 U1 V1 g cap n rest w l1 (by omega) hU hr ⟨by omega, h40⟩
  obtain ⟨U2, V2, rfl, l2, m2⟩ := cut2 V1 20 (by omega)
  rw [← List.append_assoc] at hU hr ⊢
  by_cases h41 : n = 40
  · exact stab_c0 U1 U2 V2 g cap n rest w l1 l2 (by omega) hU hr h41
  by_cases h60 : n < 60
  · exact stab_c1 U1 U2 V2 g cap n rest w l1 l2 (by omega) hU hr ⟨by omega, h60⟩
  obtain ⟨U3, V3, rfl, l3, m3⟩ := cut2 V2 20 (by omega)
  rw [← List.append_assoc] at hU hr ⊢
  exact stab_d U1 U2 U3 V3 g cap n rest w l1 l2 l3 (by omega) hU hr (by omega)
set_option maxHeartbeats 4000000 in
theorem sortst_any (U : List T) (g cap n : Nat) (rest : List Value) (w : World) (hL : U.length = n) (hn : n ≤ 60) (hU : U.Pairwise (fun x y => x.2 < y.2)) (hr : Rb w g (fs U) rest) :
    Calls Tryd.prog 43 #[.slice (some ⟨g, 0, none⟩) n cap, .func (.func 44) #[] #[]] w (StabSays U g rest w) := by
  have C := stab_any U g cap n rest w hL hn hU hr
  clear hL hn hU hr
  go_enter Tryd.func43, Tryd.ntmps43
  go_wp2_with fail
  refine Calls.mono C ?_
  rintro e w1 ⟨rfl, h⟩
  have H : Hid (∃ S, S.Perm U ∧ S.Pairwise lt ∧ Rb w1 g (fs S) rest ∧ Kp g w w1) := h
  clear h C
  go_wp2
  go_end0
  exact ⟨rfl, H.out⟩
end Go.Proofs.YtbomnicnoanjlaaDoor

namespace Go.Proofs.YtbomnicnoanjlaaDoor
open Go.RowKit Go.Proofs.YtbomnicnoanjlaaDoor.So
set_option linter.unusedVariables false

theorem Oro.rb {w : World} {base : Nat} {v : Value} {ks : List OrV} (h : Oro w base v ks) : (v = .slice none 0 0 ∧ ks = []) ∨ ∃ g cap rest, v = .slice (some ⟨g, 0, none⟩) ks.length cap ∧ base ≤ g ∧ ks.length ≤ cap ∧ cap ≤ maxLen ∧ ks.length * 4 + rest.length = cap * 4 ∧ Rb w g ks rest := by
  rcases h.2 with ⟨h1, h2⟩ | ⟨g, cap, cur, h1, h2, h3, h4, h5, h6, h7⟩
  · exact .inl ⟨h1, List.length_eq_zero_iff.1 h2⟩
  · refine .inr ⟨g, cap, cur.toList.drop (ks.length * 4), h1, h2, h4, h5, ?_, ?_⟩
    · have e6 : cur.toList.length = cap * 4 := by simpa using h6
      rw [List.length_drop, e6]
      have : ks.length * 4 ≤ cap * 4 := Nat.mul_le_mul_right _ h4
      omega
    · unfold Rb
      rw [← h7, List.take_append_drop, Array.toArray_toList]
      exact h3
theorem Rb.oro {w : World} {base g cap : Nat} {ks : List OrV} {rest : List Value} (h : Rb w g ks rest) (hb : base ≤ g) (h1 : ks.length ≤ cap) (h2 : cap ≤ maxLen) (h3 : ks.length * 4 + rest.length = cap * 4) : Oro w base (.slice (some ⟨g, 0, none⟩) ks.length cap) ks := by
  refine ⟨oflat_len ks, .inr ⟨g, cap, _, rfl, hb, h, h1, h2, ?_, ?_⟩⟩
  · simp only [List.size_toArray, List.length_append, oflat_len]; omega
  · show (ks.flatMap OrV.cs ++ rest).take (ks.length * 4) = _
    rw [List.take_append_of_le_length (by rw [oflat_len]; exact Nat.le_refl _), List.take_of_length_le (by rw [oflat_len]; exact Nat.le_refl _)]
set_option maxHeartbeats 1000000 in
theorem isort_nil (fv : Value) (w : World) : Calls Tryd.prog 52 #[.slice none 0 0, .int .i64 0, .int .i64 0, fv] w fun e w' => e = .returned (.tuple #[]) ∧ w' = w := by
  go_enter Tryd.func52, Tryd.ntmps52
  go_wp2_with fail
  refine wp_loop_rounds 1 ?_
  rw [rounds_succ]
  go_wp2
  go_end0
  exact ⟨rfl, rfl⟩
set_option maxHeartbeats 1000000 in
theorem stab_nil (fv : Value) (w : World) : Calls Tryd.prog 48 #[.slice none 0 0, .int .i64 0, fv] w fun e w' => e = .returned (.tuple #[]) ∧ w' = w := by
  go_enter Tryd.func48, Tryd.ntmps48
  go_wp2_with fail
  refine wp_loop_rounds 1 ?_
  rw [rounds_succ]
  go_wp2_with fail
  refine Calls.mono (isort_nil fv w) ?_
  rintro e w' ⟨rfl, rfl⟩
  go_wp2_with fail
  refine wp_loop_rounds 1 ?_
  rw [rounds_succ]
  go_wp2
  go_end0
  exact ⟨rfl, rfl⟩
set_option maxHeartbeats 1000000 in
theorem sort_nil (fv : Value) (w : World) : Calls Tryd.prog 43 #[.slice none 0 0, fv] w fun e w' => e = .returned (.tuple #[]) ∧ w' = w := by
  go_enter Tryd.func43, Tryd.ntmps43
  go_wp2_with fail
  refine Calls.mono (stab_nil fv w) ?_
  rintro e w' ⟨rfl, rfl⟩
  go_wp2
  go_end0
  exact ⟨rfl, rfl⟩
/-- what comes of a sort of an owned list. -/
theorem sort_own (l : List OrV) (v : Value) (b1 : Nat) (w : World) (hl : l.length ≤ 60) (ho : Oro w b1 v (fs (kp l l.length))) :
    Calls Tryd.prog 43 #[v, .func (.func 44) #[] #[]] w fun e w' => e = .returned (.tuple #[]) ∧ ∃ out, LastSays l out ∧ Oro w' b1 v out ∧ w.grownBy w' v.ownBlock := by
  rcases ho.rb with ⟨rfl, hn⟩ | ⟨g, cap, rest, rfl, hb, h1, h2, h3, hr⟩
  · refine (sort_nil _ w).mono ?_
    rintro e w' ⟨rfl, rfl⟩
    have e0 : kp l l.length = [] := List.map_eq_nil_iff.1 hn
    refine ⟨rfl, [], ⟨[], by rw [e0], List.Pairwise.nil, rfl⟩, by rw [hn] at ho; exact ho, ?_⟩
    exact ⟨rfl, rfl, rfl, Nat.le_refl _, fun _ _ _ => rfl⟩
  · have hlen : (fs (kp l l.length)).length = (kp l l.length).length := by simp [fs]
    rw [hlen] at h1 h3 ⊢
    refine (sortst_any (kp l l.length) g cap _ rest w rfl (Nat.le_trans (kp_len _) hl) (kp_tags _) hr).mono ?_
    rintro e w' ⟨rfl, S, hp, hs, hr', hk⟩
    have el : (fs S).length = (kp l l.length).length := by simp [fs, hp.length_eq]
    refine ⟨rfl, fs S, ⟨S, hp, hs, rfl⟩, ?_, ⟨hk.os, hk.tape, hk.output, hk.size, fun k hk' hn => hk.block k hk' (fun e => hn (by rw [e]; rfl))⟩⟩
    have := hr'.oro (base := b1) (cap := cap) hb (by omega) h2 (by omega)
    rw [el] at this
    exact this
def LsI (ks : List OrV) (w1 : World) (mb n : Nat) (j kv : Value) (W : World) : Prop := ∃ q : Nat, q ≤ ks.length ∧ j = .int .i64 (q : Nat) ∧ Oro W w1.heap.size kv (fs (kp ks q)) ∧ Um W mb n (lf ks ks.length) ∧ Below w1.heap.size w1 W
def LastTells (ks : List OrV) (w : World) (e : Ending) (w' : World) : Prop := ∃ u r, e = .returned (.tuple #[u, r]) ∧ Er r (Od.faults ks) ∧ ((Od.faults ks ≠ 0 ∧ u = .slice none 0 0) ∨ (Od.faults ks = 0 ∧ ∃ out, LastSays ks out ∧ Oro w' w.heap.size u out)) ∧ Below w.heap.size w w'
set_option maxRecDepth 100000 in
set_option maxHeartbeats 8000000 in
theorem last_any (v : Value) (ks : List OrV) (w : World) (h : Orl w v ks) : Calls Tryd.prog 35 #[v] w (LastTells ks w) := by
  have K0 : Hid (Orl w v ks) := h
  obtain ⟨a, c, rfl, c1, c2, -⟩ := h
  go_enter Tryd.func35, Tryd.ntmps35
  go_wp2_with fail
  refine Calls.mono (ocheck_any _ ks w K0.out) ?_
  rintro e w0 ⟨u, rfl, hu, b0⟩
  obtain ⟨F, hF⟩ : ∃ F, Od.faults ks = F := ⟨_, rfl⟩
  have HF : Hid (Od.faults ks = F) := hF
  rw [hF] at hu
  have B0 : Hid (Below w.heap.size w w0) := b0
  clear hF b0
  rcases hu with ⟨hF, rfl⟩ | ⟨hF, rfl⟩
  case inr =>
    have E : Hid (F ≠ 0) := hF
    clear hF
    go_wp2
    go_ret2
    exact ⟨_, _, rfl, by rw [HF.out]; exact Er.no E.out, .inl ⟨by rw [HF.out]; exact E.out, rfl⟩, B0.out⟩
  subst hF
  have FO : Hid (ks.length ≤ 60 ∧ ∀ o ∈ ks, ¬ Od.bad o) := Od.faults_ok HF.out
  go_wp2_with fail
  refine Calls.mono (lastOnes_any _ ks w0 (K0.out.below B0.out) FO.out.1 FO.out.2) ?_
  rintro e w1 ⟨mb, n, rfl, hm, hmb, b1⟩
  have M1 : Hid (Um w1 mb n (lf ks ks.length)) := hm
  have B1 : Hid (Below w.heap.size w w1) := B0.out.trans (b1.mono B0.out.size)
  clear hm hmb b1
  go_wp2_with fail
  go_loopw [18, 6] (fun j kv W => LsI ks w1 mb n j kv W) (fun j _ _ => ks.length - (intOf j).toNat)
  case atStart => exact ⟨0, Nat.zero_le _, rfl, Oro.nil _ _, M1.out, Below.refl _ _⟩
  case round =>
    obtain ⟨q, hq, rfl, hko, hm, hb⟩ := hrel
    have OQ : Hid (Oro wr w1.heap.size u6 (fs (kp ks q))) := hko
    have MQ : Hid (Um wr mb n (lf ks ks.length)) := hm
    have BQ : Hid (Below w1.heap.size w1 wr) := hb
    clear hko hm hb
    by_cases hql : q = ks.length
    · subst hql
      go_wp2_with fail
      refine Calls.mono (sort_own ks u6 w1.heap.size wr FO.out.1 OQ.out) ?_
      rintro e w2 ⟨rfl, out, hls, ho, hg⟩
      have G2 : Hid (Below w.heap.size w w2) := (B1.out.trans (BQ.out.mono B1.out.size)).grown hg (by have := B1.out.size; have := BQ.out.size; omega) (fun k hk => by have := (OQ.out.block k hk).1; have := B1.out.size; omega)
      have FIN : Hid (∃ out, LastSays ks out ∧ Oro w2 w.heap.size u6 out) := ⟨out, hls, ho.mono B1.out.size⟩
      clear hls ho hg
      go_wp2
      go_ret2
      exact ⟨_, _, rfl, by rw [HF.out]; exact Er.nil, .inr ⟨HF.out, FIN.out⟩, G2.out⟩
    · have hqk : q < ks.length := by omega
      obtain ⟨k, hk⟩ : ∃ k, ks[q]? = some k := ⟨_, List.getElem?_eq_getElem hqk⟩
      have HK : Hid (ks[q]? = some k) := hk
      have OK := Od.ok_of (FO.out.2 k (List.mem_of_getElem? hk))
      have WF : Hid ((Lit.int .i64 k.player).wf = true ∧ (Lit.int .i64 k.unit).wf = true) := ⟨wf64 (by omega) (by omega), wf64 (by omega) (by omega)⟩
      have K1 := K0.out.below (B1.out.trans (BQ.out.mono B1.out.size))
      obtain ⟨a', c', e, -, -, h3⟩ := K1
      injection e with e1 e2 e3
      subst e1 e3
      obtain ⟨x, rfl, hx1, hx⟩ := h3 (by rintro rfl; simp at hqk)
      have Yc := hx q k hk
      clear hx h3 e2 hk OK
      obtain ⟨q0, q1, q2, q3⟩ := Yc
      go_upto_region 9 with fail
      have BA : Hid (Below wr.heap.size wr (wr.alloc (Obj.cells #[.int .i64 k.player, .int .i64 k.unit, .int .i64 k.what, .int .i64 k.arg] 38))) := (Below.refl _ _).alloc (Nat.le_refl _) _
      have XA : Hid (Orc (wr.alloc (Obj.cells #[.int .i64 k.player, .int .i64 k.unit, .int .i64 k.what, .int .i64 k.arg] 38)) ⟨wr.heap.size, 0, none⟩ k) := Orc.mk' (w := wr) k rfl
      clear q0 q1 q2 q3
      obtain ⟨z, hz⟩ : ∃ z, wr.heap.size = z := ⟨_, rfl⟩
      rw [hz] at XA ⊢
      have SZ : Hid (wr.heap.size = z) := hz
      clear hz
      generalize wr.alloc (Obj.cells #[.int .i64 k.player, .int .i64 k.unit, .int .i64 k.what, .int .i64 k.arg] 38) = w2 at *
      have B2 : Hid (Below w1.heap.size w1 w2) := BQ.out.trans (BA.out.mono BQ.out.size)
      have M2 : Hid (Um w2 mb n (lf ks ks.length)) := MQ.out.below BA.out
      have O2 : Hid (Oro w2 w1.heap.size u6 (fs (kp ks q))) := OQ.out.below BA.out
      clear MQ OQ BQ BA
      have KL : Hid ((fs (kp ks q)).length ≤ 60) := by have h1 := kp_len (l := ks) q; have h2 := FO.out.1; unfold Hid; simp [fs]; omega
      by_cases h3 : k.what = 3
      · obtain ⟨x0, x1, x2, x3⟩ := XA.out
        simp only [Nat.zero_add] at x1 x2 x3
        have OA : Hid (Oro (w2.alloc (Obj.cells #[.int .i64 k.player, .int .i64 k.unit, .int .i64 k.what, .int .i64 k.arg] 38)) w1.heap.size u6 (fs (kp ks q))) := O2.out.alloc _
        have RC : Hid (Orc (w2.alloc (Obj.cells #[.int .i64 k.player, .int .i64 k.unit, .int .i64 k.what, .int .i64 k.arg] 38)) ⟨w2.heap.size, 0, none⟩ k) := Orc.mk' (w := w2) k rfl
        have BB : Hid (Below w2.heap.size w2 (w2.alloc (Obj.cells #[.int .i64 k.player, .int .i64 k.unit, .int .i64 k.what, .int .i64 k.arg] 38))) := (Below.refl _ _).alloc (Nat.le_refl _) _
        have SB : Hid (w1.heap.size ≤ (w2.alloc (Obj.cells #[.int .i64 k.player, .int .i64 k.unit, .int .i64 k.what, .int .i64 k.arg] 38)).heap.size) := Nat.le_trans B2.out.size BB.out.size
        have h3c : k.what = 3 := h3
        have NK : Hid (kp ks (q + 1) = kp ks q ++ [(k, q)]) := kp_yes HK.out (.inl h3)
        rw [h3] at OA RC BB SB
        go_wp2_with (at_builtin; refine app_or _ rfl _ _ rfl w1.heap.size _ (fs (kp ks q)) rfl OA.out w2.heap.size k rfl RC.out (by have := KL.out; omega) SB.out ?_)
        intro g cap w5 o5 g5 a5 l5
        have B5 : Hid (Below w1.heap.size w1 w5) := (B2.out.trans (BB.out.mono B2.out.size)).grown g5 SB.out (fun k hk => (O2.out.block k hk).1)
        have M5 : Hid (Um w5 mb n (lf ks ks.length)) := (M2.out.below BB.out).gb g5 (fun e => by have := (O2.out.block mb e.symm).1; have := M1.out.lt; omega)
        have O5 : Hid (Oro w5 w1.heap.size (.slice (some ⟨g, 0, none⟩) ((kp ks q).length + 1) cap) (fs (kp ks (q + 1)))) := by unfold Hid; rw [NK.out]; simpa [fs] using o5
        clear o5 g5 a5 l5 x0 x1 x2 x3
        go_wp2
        go_round
        case rel => exact ⟨q + 1, by omega, by go_num, O5.out, M5.out, B5.out⟩
        case measure => simp [intOf]; omega
      · have h3b : (k.what == 3) = false := beq_eq_false_iff_ne.2 h3
        obtain ⟨x0, x1, x2, x3⟩ := XA.out
        simp only [Nat.zero_add] at x1 x2 x3
        go_wp2_with fail
        refine Calls.mono (unitOf_any k w2) ?_
        rintro e w3 ⟨rfl, b3⟩
        have B3 : Hid (Below w1.heap.size w1 w3) := B2.out.trans (b3.mono B2.out.size)
        have M3 : Hid (Um w3 mb n (lf ks ks.length)) := M2.out.below b3
        have O3 : Hid (Oro w3 w1.heap.size u6 (fs (kp ks q))) := O2.out.below b3
        have X3 : Hid (Orc w3 ⟨z, 0, none⟩ k) := XA.out.below b3 XA.out.lt
        have LK := M3.out.look WF.out.1 WF.out.2
        clear b3 x0 x1 x2 x3 B2 M2 O2 XA
        by_cases hi : lf ks ks.length k.player k.unit = (q : Nat)
        · obtain ⟨x0, x1, x2, x3⟩ := X3.out
          simp only [Nat.zero_add] at x1 x2 x3
          have OA : Hid (Oro (w3.alloc (Obj.cells #[.int .i64 k.player, .int .i64 k.unit, .int .i64 k.what, .int .i64 k.arg] 38)) w1.heap.size u6 (fs (kp ks q))) := O3.out.alloc _
          have RC : Hid (Orc (w3.alloc (Obj.cells #[.int .i64 k.player, .int .i64 k.unit, .int .i64 k.what, .int .i64 k.arg] 38)) ⟨w3.heap.size, 0, none⟩ k) := Orc.mk' (w := w3) k rfl
          have BB : Hid (Below w3.heap.size w3 (w3.alloc (Obj.cells #[.int .i64 k.player, .int .i64 k.unit, .int .i64 k.what, .int .i64 k.arg] 38))) := (Below.refl _ _).alloc (Nat.le_refl _) _
          have SB : Hid (w1.heap.size ≤ (w3.alloc (Obj.cells #[.int .i64 k.player, .int .i64 k.unit, .int .i64 k.what, .int .i64 k.arg] 38)).heap.size) := Nat.le_trans B3.out.size BB.out.size
          have NK : Hid (kp ks (q + 1) = kp ks q ++ [(k, q)]) := kp_yes HK.out (.inr hi)
          rw [hi] at LK
          clear hi
          go_wp2_with (at_builtin; refine app_or _ rfl _ _ rfl w1.heap.size _ (fs (kp ks q)) rfl OA.out w3.heap.size k rfl RC.out (by have := KL.out; omega) SB.out ?_)
          intro g cap w5 o5 g5 a5 l5
          have B5 : Hid (Below w1.heap.size w1 w5) := (B3.out.trans (BB.out.mono B3.out.size)).grown g5 SB.out (fun k hk => (O3.out.block k hk).1)
          have M5 : Hid (Um w5 mb n (lf ks ks.length)) := (M3.out.below BB.out).gb g5 (fun e => by have := (O3.out.block mb e.symm).1; have := M1.out.lt; omega)
          have O5 : Hid (Oro w5 w1.heap.size (.slice (some ⟨g, 0, none⟩) ((kp ks q).length + 1) cap) (fs (kp ks (q + 1)))) := by unfold Hid; rw [NK.out]; simpa [fs] using o5
          clear o5 g5 a5 l5 x0 x1 x2 x3
          go_wp2
          go_round
          case rel => exact ⟨q + 1, by omega, by go_num, O5.out, M5.out, B5.out⟩
          case measure => simp [intOf]; omega
        · have hib : (lf ks ks.length k.player k.unit == ((q : Nat) : Int)) = false := beq_eq_false_iff_ne.2 hi
          have NK : Hid (kp ks (q + 1) = kp ks q) := kp_no HK.out (by rintro (h | h); exact h3 h; exact hi h)
          generalize lf ks ks.length k.player k.unit = lfv at *
          go_wp2
          go_round
          case rel => exact ⟨q + 1, by omega, by go_num, by rw [NK.out]; exact O3.out, M3.out, B3.out⟩
          case measure => simp [intOf]; omega
end Go.Proofs.YtbomnicnoanjlaaDoor

namespace Go.Proofs.YtbomnicnoanjlaaDoor
open Go.RowKit
set_option linter.unusedVariables false

theorem run_append_no {P : Program} {w : World} (base : Nat) (t ty e : TypeId) (i : TypeInfo) (size : Nat) (ht : P.underlying t = some (.slice e)) (hi : P.info? e = some i)
    (v : Value) (n : Nat) (xs : List Value) (hown : w.ownsRow base e size v n xs) (a : Option Addr) (c : Nat) :
    (Builtin.append_ #[t, t] ty #[v, .slice a 0 c]).run P w = .ok v w := by
  rcases hown.2 with ⟨rfl, rfl⟩ | ⟨g, cap, cur, rfl, _, _, hnc, _⟩
  · cases a <;> simp [Builtin.append_, run_underlying ht, sizeOf, typeInfo, hi, Builtin.lenOf, Builtin.firstCells, loadCells, loadCellsFrom]
  · cases a <;> simp [Builtin.append_, run_underlying ht, sizeOf, typeInfo, hi, Builtin.lenOf, Builtin.firstCells, hnc, storeCells, loadCells, loadCellsFrom]
theorem app_row {ops : Array Oper} {rest : List Oper} {o : Oper} {a : Act} {Q : Exit → Act → World → Prop} (w : World) (hgd : o.guard = none) (s x : Operand)
    (ho : o.op = .call { callee := .builtin .append, args := #[s, x], argTypes := #[36, 36] }) (base : Nat) (v : Value) (xs : List Int) (hs : a.eval s = v) (hown : Ow w base v xs)
    (u : Value) (ys : List Int) (hx : a.eval x = u) (hu : Ro w u ys) (hl : xs.length + ys.length ≤ 1000000000) (hbase : base ≤ w.heap.size)
    (h : ∀ v' w', Ow w' base v' (xs ++ ys) → w.grownBy w' v.ownBlock → (v'.ownBlock = v.ownBlock ∨ v'.ownBlock = some w.heap.size) → wpList Tryd.prog ops Q rest (a.put o.dst v') w') :
    wpList Tryd.prog ops Q (o :: rest) a w := by
  obtain ⟨i0, hi, hz0, hz1, hz2⟩ := info_parts info_int
  obtain ⟨ad, c, rfl, h1, h2, h3⟩ := hu
  by_cases hn : ys = []
  · subst hn
    refine wpList_plain hgd fun K hK => ?_
    have hrun := run_append_no (P := Tryd.prog) (w := w) base 36 o.type 3 i0 1 Tryd.underlying36 hi v xs.length _ hown ad c
    have hx' : a.eval x = .slice ad 0 c := hx
    unfold Oper.wp
    simp [execOp, ho, resolve, invoke, builtin, hs, hx', hrun, Result.andThen]
    exact hK _ _ (h v w (by simpa using hown) (World.grownBy.refl _ _) (.inl rfl))
  · obtain ⟨y, rfl, hy, hc⟩ := h3 hn
    refine wpList_append_lies w hgd s x 36 ho base 3 i0 (.int .i64 0) 1 8 Tryd.underlying36 hi hz0 hz1 hz2 rfl (by decide) v xs.length _ hs hown y ys.length c (ys.map (Value.int .i64)) hx (by simp) ?_ ?_ (List.length_pos_iff.2 hn) (by unfold maxLen; omega) (by omega) hbase _ rfl ?_
    · intro j u hj
      rw [List.getElem?_map] at hj
      cases hd : ys[j]? with
      | none => rw [hd] at hj; cases hj
      | some d => rw [hd] at hj; cases hj; exact hc j d hd
    · exact ints_oneCell _ _
    · intro g cap w' k1 k2 k3 _
      refine h _ w' ?_ k2 ?_
      · unfold Ow
        rw [List.length_append, List.map_append]
        exact k1
      · rcases k3 with k3 | k3
        · exact .inl k3.symm
        · exact .inr (by rw [k3]; rfl)
end Go.Proofs.YtbomnicnoanjlaaDoor

namespace Go.Proofs.YtbomnicnoanjlaaDoor
open Go.RowKit
set_option linter.unusedVariables false

theorem len_or (ks : List OrV) : (ks.flatMap OrV.cs).length = ks.length * 4 := by
  induction ks with
  | nil => rfl
  | cons x l ih => rw [List.flatMap_cons, List.length_append, ih, List.length_cons, Nat.succ_mul, Nat.add_comm]; rfl
theorem cell_or {w : World} {y : Addr} {ks : List OrV} (hc : ∀ (i : Nat) k, ks[i]? = some k → Orc w (y.add (i * 4)) k) (j : Nat) (u : Value) (hj : (ks.flatMap OrV.cs)[j]? = some u) : w.cell? (y.add j) = some u := by
  have hjl : j < ks.length * 4 := by rw [← len_or]; exact (List.getElem?_eq_some_iff.1 hj).1
  obtain ⟨i, r, hr, rfl⟩ : ∃ i r, r < 4 ∧ j = i * 4 + r := ⟨j / 4, j % 4, Nat.mod_lt _ (by decide), by omega⟩
  have hi : i < ks.length := by omega
  obtain ⟨k, hk⟩ : ∃ k, ks[i]? = some k := ⟨_, List.getElem?_eq_getElem hi⟩
  rw [flat_or ks i r k hk hr] at hj
  have h := hc i k hk
  rcases Nat.eq_zero_or_pos r with rfl | hr0
  · simp [OrV.cs] at hj
    subst hj
    exact h.c0
  · have ea : y.add (i * 4 + r) = ⟨(y.add (i * 4)).block, (y.add (i * 4)).off + r, none⟩ := by
      unfold Addr.add
      rw [if_neg (by omega)]
      split <;> simp <;> omega
    rw [ea]
    match r, hr, hr0, hj with
    | 1, _, _, hj => simp [OrV.cs] at hj; subst hj; exact h.c1
    | 2, _, _, hj => simp [OrV.cs] at hj; subst hj; exact h.c2
    | 3, _, _, hj => simp [OrV.cs] at hj; subst hj; exact h.c3

theorem app_ors {ops : Array Oper} {rest : List Oper} {o : Oper} {a : Act} {Q : Exit → Act → World → Prop} (w : World) (hgd : o.guard = none) (s x : Operand)
    (ho : o.op = .call { callee := .builtin .append, args := #[s, x], argTypes := #[23, 23] }) (base : Nat) (v : Value) (ks : List OrV) (hs : a.eval s = v) (hown : Oro w base v ks)
    (u : Value) (ys : List OrV) (hx : a.eval x = u) (hu : Orl w u ys) (hl : ks.length + ys.length ≤ 100000000) (hbase : base ≤ w.heap.size)
    (h : ∀ v' w', Oro w' base v' (ks ++ ys) → w.grownBy w' v.ownBlock → (v'.ownBlock = v.ownBlock ∨ v'.ownBlock = some w.heap.size) → wpList Tryd.prog ops Q rest (a.put o.dst v') w') :
    wpList Tryd.prog ops Q (o :: rest) a w := by
  obtain ⟨i0, hi, hz0, hz1, hz2⟩ := info_parts info_or
  obtain ⟨ad, c, rfl, h1, h2, h3⟩ := hu
  by_cases hn : ys = []
  · subst hn
    refine wpList_plain hgd fun K hK => ?_
    have hrun := run_append_no (P := Tryd.prog) (w := w) base 23 o.type 38 i0 4 Tryd.underlying23 hi v ks.length _ hown ad c
    have hx' : a.eval x = .slice ad 0 c := hx
    unfold Oper.wp
    simp [execOp, ho, resolve, invoke, builtin, hs, hx', hrun, Result.andThen]
    exact hK _ _ (h v w (by simpa using hown) (World.grownBy.refl _ _) (.inl rfl))
  · obtain ⟨y, rfl, hy, hc⟩ := h3 hn
    refine wpList_append_lies w hgd s x 23 ho base 38 i0 _ 4 32 Tryd.underlying23 hi hz0 hz1 hz2 rfl (by decide) v ks.length _ hs hown y ys.length c (ys.flatMap OrV.cs) hx (len_or ys) (cell_or hc) ?_ (List.length_pos_iff.2 hn) (by unfold maxLen; omega) (by omega) hbase _ rfl ?_
    · intro u hu
      obtain ⟨k, -, hk⟩ := List.mem_flatMap.1 hu
      simp [OrV.cs] at hk
      rcases hk with rfl | rfl | rfl | rfl <;> rfl
    · intro g cap w' k1 k2 k3 _
      refine h _ w' ?_ k2 ?_
      · unfold Oro
        rw [List.length_append, List.flatMap_append]
        exact k1
      · rcases k3 with k3 | k3
        · exact .inl k3.symm
        · exact .inr (by rw [k3]; rfl)
end Go.Proofs.YtbomnicnoanjlaaDoor

namespace Go.Proofs.YtbomnicnoanjlaaDoor
open Go.RowKit
set_option linter.unusedVariables false

/-- v is a list of lists of orders. -/
def Oll (w : World) (v : Value) (ls : List (List OrV)) : Prop := ∃ a c, v = .slice a ls.length c ∧ ls.length ≤ c ∧ c ≤ 9223372036854775807 ∧ (ls ≠ [] → ∃ x, a = some x ∧ x.block < w.heap.size ∧ ∀ (i : Nat) l, ls[i]? = some l → ∃ u, w.cell? (x.add i) = some u ∧ Orl w u l)
theorem Oll.below {w w' : World} {v : Value} {ls : List (List OrV)} (h : Oll w v ls) (hb : Below w.heap.size w w') : Oll w' v ls := by
  obtain ⟨a, c, h1, h2, h3, h4⟩ := h
  refine ⟨a, c, h1, h2, h3, fun hn => ?_⟩
  obtain ⟨x, e, hx, hy⟩ := h4 hn
  refine ⟨x, e, Nat.lt_of_lt_of_le hx hb.size, fun i l hl => ?_⟩
  obtain ⟨u, c1, c2⟩ := hy i l hl
  exact ⟨u, by rw [hb.cell (by rw [add_block]; exact hx)]; exact c1, c2.below hb⟩
end Go.Proofs.YtbomnicnoanjlaaDoor

namespace Go.Proofs.YtbomnicnoanjlaaDoor
open Go.RowKit Go.Proofs.YtbomnicnoanjlaaDoor.So
set_option linter.unusedVariables false

def MgI (ls : List (List OrV)) (w : World) (j v : Value) (W : World) : Prop := ∃ q : Nat, q ≤ ls.length ∧ j = .int .i64 (q : Nat) ∧ Oro W w.heap.size v (ls.take q).flatten ∧ (ls.take q).flatten.length ≤ 60 ∧ Below w.heap.size w W
theorem flat_take {ls : List (List OrV)} {q : Nat} {l : List OrV} (h : ls[q]? = some l) : (ls.take (q + 1)).flatten = (ls.take q).flatten ++ l := by
  rw [List.take_add_one, h]
  simp
theorem flat_le {ls : List (List OrV)} (q : Nat) : (ls.take q).flatten.length ≤ ls.flatten.length := by
  have h : ls.flatten = (ls.take q).flatten ++ (ls.drop q).flatten := by rw [← List.flatten_append, List.take_append_drop]
  rw [h, List.length_append]
  exact Nat.le_add_right _ _
set_option maxRecDepth 100000 in
set_option maxHeartbeats 8000000 in
theorem mergel_any (v : Value) (ls : List (List OrV)) (w : World) (h : Oll w v ls) (hl : ∀ l ∈ ls, l.length ≤ 1048576) :
    Calls Tryd.prog 27 #[v] w (LastTells ls.flatten w) := by
  have H : Hid (Oll w v ls) := h
  have HL : Hid (∀ l ∈ ls, l.length ≤ 1048576) := hl
  have FL : Hid (60 < ls.flatten.length → Od.faults ls.flatten = 4) := fun h => by unfold Od.faults; rw [if_pos h]
  obtain ⟨a, c, rfl, c1, c2, -⟩ := h
  clear hl
  go_enter Tryd.func27, Tryd.ntmps27
  go_wp2_with fail
  go_loopw [9, 4] (fun j v W => MgI ls w j v W) (fun j _ _ => ls.length - (intOf j).toNat)
  case atStart => exact ⟨0, Nat.zero_le _, rfl, Oro.nil _ _, by simp, Below.refl _ _⟩
  case round =>
    obtain ⟨q, hq, rfl, ho, h60, hb⟩ := hrel
    obtain ⟨A, hA⟩ : ∃ A, (ls.take q).flatten = A := ⟨_, rfl⟩
    rw [hA] at ho h60
    have HA : Hid ((ls.take q).flatten = A) := hA
    have O : Hid (Oro wr w.heap.size u4 A) := ho
    have B : Hid (Below w.heap.size w wr) := hb
    have S60 : Hid (A.length ≤ 60) := h60
    clear hA
    obtain ⟨a4, c4, rfl⟩ := ho.len
    clear ho hb h60
    by_cases hql : q = ls.length
    · subst hql
      go_wp2_with fail
      refine Calls.mono (last_any _ A wr O.out.l) ?_
      rintro e w3 ⟨u, r, rfl, hr, hu, hb⟩
      have EA : A = ls.flatten := by rw [← HA.out, List.take_length]
      rw [EA] at hr hu
      have FIN : Hid (Er r (Od.faults ls.flatten) ∧ ((Od.faults ls.flatten ≠ 0 ∧ u = .slice none 0 0) ∨ (Od.faults ls.flatten = 0 ∧ ∃ out, LastSays ls.flatten out ∧ Oro w3 w.heap.size u out)) ∧ Below w.heap.size w w3) := ⟨hr, by
        rcases hu with h | ⟨h, out, h1, h2⟩
        · exact .inl h
        · exact .inr ⟨h, out, h1, h2.mono B.out.size⟩, B.out.trans (hb.mono B.out.size)⟩
      clear hr hu hb EA
      go_wp2
      go_ret2
      exact ⟨_, _, rfl, FIN.out.1, FIN.out.2.1, FIN.out.2.2⟩
    · have hqk : q < ls.length := by omega
      have hqi : (q : Int) < (ls.length : Nat) := by omega
      obtain ⟨l, hk⟩ : ∃ l, ls[q]? = some l := ⟨_, List.getElem?_eq_getElem hqk⟩
      have K1 := H.out.below B.out
      obtain ⟨a', c', e, -, -, h3⟩ := K1
      injection e with e1 e2 e3
      subst e1 e3
      obtain ⟨x, rfl, hx1, hx⟩ := h3 (by rintro rfl; simp at hqk)
      obtain ⟨u, qc, hu⟩ := hx q l hk
      have U : Hid (Orl wr u l) := hu
      obtain ⟨au, cu, rfl, -⟩ := hu
      have NT : Hid ((ls.take (q + 1)).flatten = A ++ l) := by unfold Hid; rw [← HA.out]; exact flat_take hk
      have LB : Hid (l.length ≤ 1048576) := HL.out l (List.mem_of_getElem? hk)
      clear hx h3 e2 hk hx1
      obtain ⟨s, hs⟩ : ∃ s, A.length + l.length = s := ⟨_, rfl⟩
      have HS : Hid (A.length + l.length = s) := hs
      have si : ((A.length : Nat) : Int) + (l.length : Nat) = (s : Nat) := by omega
      have sw : IntKind.i64.wrap ((s : Nat) : Int) = (s : Nat) := by have := S60.out; have := LB.out; rw [IntKind.wrap_i64]; omega
      by_cases q2 : 60 < s
      · have q2i : (60 : Int) < (s : Nat) := by omega
        have E : Hid (Od.faults ls.flatten = 4) := FL.out (by have h1 := flat_le (ls := ls) (q + 1); rw [NT.out, List.length_append, HS.out] at h1; omega)
        go_wp2
        go_ret2
        exact ⟨_, _, rfl, by rw [E.out]; exact Er.no (by decide), .inl ⟨by rw [E.out]; decide, rfl⟩, B.out⟩
      · have q2i : ¬ (60 : Int) < (s : Nat) := by omega
        go_wp2_with (at_builtin; refine app_ors _ rfl _ _ rfl w.heap.size _ A rfl O.out _ l rfl U.out (by have := S60.out; have := LB.out; omega) B.out.size ?_)
        intro v5 w2 o2 g2 e2
        have B2 : Hid (Below w.heap.size w w2) := B.out.grown g2 B.out.size (fun k hk => (O.out.block k hk).1)
        have O2 : Hid (Oro w2 w.heap.size v5 (ls.take (q + 1)).flatten) := by unfold Hid; rw [NT.out]; exact o2
        have L2 : Hid ((ls.take (q + 1)).flatten.length ≤ 60) := by unfold Hid; rw [NT.out, List.length_append, HS.out]; omega
        clear o2 g2 e2 qc
        go_wp2
        go_round
        case rel => exact ⟨q + 1, by omega, by go_num, O2.out, L2.out, B2.out⟩
        case measure => simp [intOf]; omega
end Go.Proofs.YtbomnicnoanjlaaDoor

namespace Go.Proofs.YtbomnicnoanjlaaDoor
open Go.RowKit Go.Proofs.YtbomnicnoanjlaaDoor.So
set_option linter.unusedVariables false

/-- what was sent for the turn to be played, by the first players. -/
def LoV.lsN (L : LoV) (n : Nat) : List (List OrV) := (List.range n).map fun (p : Nat) => (L.sent L.now (p : Int)).getD []
theorem LoV.lsN_next (L : LoV) (n : Nat) : L.lsN (n + 1) = L.lsN n ++ [(L.sent L.now n).getD []] := by
  unfold LoV.lsN
  rw [List.range_succ, List.map_append]
  rfl
theorem LoV.lsN_len (L : LoV) (n : Nat) : (L.lsN n).length = n := by unfold LoV.lsN; simp
def LoV.ls (L : LoV) : List (List OrV) := L.lsN L.out.length
/-- values, list by list. -/
def Each (w : World) : List Value → List (List OrV) → Prop
  | [], [] => True
  | v :: vs, l :: ls => Orl w v l ∧ Each w vs ls
  | _, _ => False
theorem Each.len {w : World} : ∀ {vs : List Value} {ls : List (List OrV)}, Each w vs ls → vs.length = ls.length
  | [], [], _ => rfl
  | v :: vs, l :: ls, h => by simp [Each.len h.2]
theorem Each.below {w w' : World} (hb : Below w.heap.size w w') : ∀ {vs : List Value} {ls : List (List OrV)}, Each w vs ls → Each w' vs ls
  | [], [], _ => trivial
  | v :: vs, l :: ls, h => ⟨h.1.below hb, Each.below hb h.2⟩
theorem Each.snoc {w : World} {v : Value} {l : List OrV} (hv : Orl w v l) : ∀ {vs : List Value} {ls : List (List OrV)}, Each w vs ls → Each w (vs ++ [v]) (ls ++ [l])
  | [], [], _ => ⟨hv, trivial⟩
  | _ :: _, _ :: _, h => ⟨h.1, Each.snoc hv h.2⟩
theorem Each.at {w : World} : ∀ {vs : List Value} {ls : List (List OrV)} {i : Nat} {l : List OrV}, Each w vs ls → ls[i]? = some l → ∃ v, vs[i]? = some v ∧ Orl w v l
  | v :: vs, l' :: ls, 0, l, h, hl => by simp at hl; subst hl; exact ⟨v, rfl, h.1⟩
  | v :: vs, l' :: ls, i + 1, l, h, hl => by simpa using Each.at (i := i) h.2 (by simpa using hl)
  | [], [], i, l, _, hl => by simp at hl
theorem Lo.oll {w : World} {base : Nat} {v : Value} {vs : List Value} {ls : List (List OrV)} (h : Lo w base v vs) (e : Each w vs ls) : Oll w v ls := by
  obtain ⟨a, c, h1, h2, h3, h4⟩ := h.cells
  have hl := e.len
  refine ⟨a, c, by rw [h1, hl], by omega, h3, fun hn => ?_⟩
  obtain ⟨g, ha, hb, hg, hc⟩ := h4 (by rintro rfl; exact hn (List.length_eq_zero_iff.1 (by simpa using hl.symm)))
  refine ⟨_, ha, hg, fun i l hi => ?_⟩
  obtain ⟨u, hu, ho⟩ := e.at hi
  exact ⟨u, by rw [Addr.add_lit, Nat.zero_add]; exact hc i u hu, ho⟩
/-- what stands at a turn and a player. -/
theorem Lk.got {w : World} {z bo bm : Nat} {L : LoV} (h : Lk w z bo bm L) {W : World} (hW : W.heap[bm]? = w.heap[bm]?) {t p : Int} (ht : (Lit.int .i64 t).wf = true) (hp : (Lit.int .i64 p).wf = true) :
    ∃ a n c, (Instr.lookup 54 (.map (some bm)) (.agg #[.int .i64 t, .int .i64 p]) false).run Tryd.prog W = .ok (.slice a n c) W ∧ Orl w (.slice a n c) ((L.sent t p).getD []) := by
  obtain ⟨f, M, S⟩ := h.m
  have LK := (M.blk hW).look ht hp
  rcases S t p with ⟨a, b⟩ | ⟨v, l, a, b, o⟩
  · rw [a] at LK
    rw [b]
    exact ⟨none, 0, 0, LK, ⟨none, 0, rfl, Nat.le_refl _, by omega, fun h => absurd rfl h⟩⟩
  · rw [a] at LK
    rw [b]
    obtain ⟨x, c, rfl⟩ := o.len
    exact ⟨x, l.length, c, LK, o.l⟩
def LlI (z bo bm : Nat) (L : LoV) (w : World) (j v : Value) (W : World) : Prop := ∃ (q : Nat) (vs : List Value), q ≤ L.out.length ∧ j = .int .i64 (q : Nat) ∧ Lo W w.heap.size v vs ∧ Each w vs (L.lsN q) ∧ Below w.heap.size w W
set_option maxRecDepth 100000 in
set_option maxHeartbeats 8000000 in
theorem llists_any (z bo bm : Nat) (L : LoV) (w : World) (h : Lk w z bo bm L) (hl : L.out.length ≤ 4) (hn : (Lit.int .i64 L.now).wf = true) :
    Calls Tryd.prog 28 #[.pointer (some ⟨z, 0, none⟩)] w fun e w' => ∃ u, e = .returned u ∧ Oll w' u L.ls ∧ Below w.heap.size w w' := by
  have H : Hid (Lk w z bo bm L) := h
  have LZ : Hid (z < w.heap.size ∧ bo < w.heap.size) := ⟨h.lz, h.lb⟩
  obtain ⟨c0, c1, c2, c3⟩ := h.cells
  clear c0 c1 c3
  clear h
  go_enter Tryd.func28, Tryd.ntmps28
  go_wp2_with fail
  go_loopw [9, 2] (fun j v W => LlI z bo bm L w j v W) (fun j _ _ => L.out.length - (intOf j).toNat)
  case atStart => exact ⟨0, [], Nat.zero_le _, rfl, Lo.nil _ _, trivial, Below.refl _ _⟩
  case round =>
    clear c2
    obtain ⟨q, vs, hq, rfl, hg, he, hb⟩ := hrel
    have O : Hid (Lo wr w.heap.size u2 vs ∧ Each w vs (L.lsN q)) := ⟨hg, he⟩
    have B : Hid (Below w.heap.size w wr) := hb
    have H1 : Hid (Lk wr z bo bm L) := H.out.below hb
    clear hg hb he
    by_cases hql : q = L.out.length
    · subst hql
      go_wp2
      go_ret
      exact ⟨_, rfl, O.out.1.oll (O.out.2.below B.out), B.out⟩
    · have hqk : q < L.out.length := by omega
      have hqi : (q : Int) < (L.out.length : Nat) := by omega
      obtain ⟨c0, c1, c2, c3⟩ := H1.out.cells
      have WQ : Hid ((Lit.int .i64 ((q : Nat) : Int)).wf = true ∧ (Lit.int .i64 L.now).wf = true) := ⟨pmwf (by omega) (by omega), hn⟩
      have OD : Hid (Lo wr.drew w.heap.size u2 vs) := O.out.1.below (Below.refl _ _).drew
      have BD : Hid (Below w.heap.size w wr.drew) := B.out.drew
      obtain ⟨pa, pn, pc, LK, ho⟩ := H.out.got (BD.out.block bm H.out.lm) WQ.out.2 WQ.out.1
      have OL : Hid (Orl w (.slice pa pn pc) ((L.sent L.now q).getD [])) := ho
      have VL : Hid (vs.length ≤ 4) := by have h1 := O.out.2.len; rw [LoV.lsN_len] at h1; unfold Hid; omega
      clear c0 c2 ho
      have OA : Hid (Lo (wr.drew.alloc (Obj.cells #[.slice pa pn pc] 23)) w.heap.size u2 vs) := OD.out.alloc _
      have RC : Hid ((wr.drew.alloc (Obj.cells #[.slice pa pn pc] 23)).cell? ⟨wr.drew.heap.size, 0, none⟩ = some (.slice pa pn pc)) := by
        unfold Hid
        simp only [World.cell?, heap_alloc_new]
        rfl
      have BA : Hid (Below wr.drew.heap.size wr.drew (wr.drew.alloc (Obj.cells #[.slice pa pn pc] 23))) := (Below.refl _ _).alloc (Nat.le_refl _) _
      have BB : Hid (Below w.heap.size w (wr.drew.alloc (Obj.cells #[.slice pa pn pc] 23))) := BD.out.trans (BA.out.mono BD.out.size)
      have FIN : Hid (∀ g cap w5, Lo w5 w.heap.size (.slice (some ⟨g, 0, none⟩) (vs.length + 1) cap) (vs ++ [.slice pa pn pc]) → (wr.drew.alloc (Obj.cells #[.slice pa pn pc] 23)).grownBy w5 u2.ownBlock → LlI z bo bm L w (.int .i64 ((q : Int) + 1)) (.slice (some ⟨g, 0, none⟩) (vs.length + 1) cap) w5) := fun g cap w5 o5 g5 => by
        have B5 : Below w.heap.size w w5 := BB.out.grown g5 BB.out.size (fun k hk => (OD.out.block k hk).1)
        exact ⟨q + 1, vs ++ [.slice pa pn pc], by omega, by go_num, o5, by rw [LoV.lsN_next]; exact O.out.2.snoc OL.out, B5⟩
      go_upto_region 4 with fail
      go_region_law (refine step_ll _ rfl (.tmp 12) (.tmp 24) rfl w.heap.size _ vs (by simp [Act.eval]) OA.out ⟨wr.drew.heap.size, 0, none⟩ pa pn pc (by simp [Act.eval]) RC.out (by have := VL.out; omega) BB.out.size ?_; intro g cap w5 o5 g5 a5 l5)
      all_goals
        have R5 := FIN.out g cap w5 o5 g5
        clear o5 g5 a5 l5
        go_wp2
        go_round
        case rel => exact R5
        case measure => simp [intOf]; omega
/-- who has sent for a turn has not any more. -/
def LoV.gone (L : LoV) (t : Int) (n : Nat) : LoV := { L with sent := fun t' p' => if t' = t ∧ 0 ≤ p' ∧ p' < (n : Int) then none else L.sent t' p' }
theorem LoV.gone_zero (L : LoV) (t : Int) : L.gone t 0 = L := by
  unfold LoV.gone
  have : (fun t' p' => if t' = t ∧ 0 ≤ p' ∧ p' < ((0 : Nat) : Int) then none else L.sent t' p') = L.sent := by
    funext t' p'
    rw [if_neg (by omega)]
  rw [this]
/-- the turn is taken. -/
def LoV.took (L : LoV) : LoV := { L.gone L.now L.out.length with now := L.now + 1 }
theorem Lk.goes {w w' : World} {z bo bm : Nat} {L : LoV} {t : Int} {q : Nat} (h : Lk w z bo bm (L.gone t q)) {f : Int → Int → Option Value} (hf : Pm w bm L.many f) (hs : ∀ t' p, (f t' p = none ∧ (L.gone t q).sent t' p = none) ∨ ∃ v l, f t' p = some v ∧ (L.gone t q).sent t' p = some l ∧ Oro w 0 v l) (hm : Pm w' bm L.many (pmSet f t q none)) (g : w.grownBy w' (some bm)) : Lk w' z bo bm (L.gone t (q + 1)) ∧ Lf z bo bm w w' := by
  have G : Lf z bo bm w w' := Lf.gb g (fun k hk => by injection hk with hk; exact .inr (.inr hk.symm))
  refine ⟨⟨(g.block z h.lz (fun e => by injection e with e; exact h.zm e)).trans h.x, ?_, _, hm, fun t' p => ?_⟩, G⟩
  · have := h.b
    unfold Bb at *
    exact (g.block bo h.lb (fun e => by injection e with e; exact h.bm e)).trans this
  · unfold pmSet
    have e1 : (L.gone t (q + 1)).sent t' p = if t' = t ∧ p = (q : Nat) then none else (L.gone t q).sent t' p := by
      unfold LoV.gone
      simp only
      by_cases c1 : t' = t ∧ p = (q : Nat)
      · rw [if_pos (by obtain ⟨a, b⟩ := c1; exact ⟨a, by omega, by omega⟩), if_pos c1]
      · rw [if_neg c1]
        by_cases c2 : t' = t ∧ 0 ≤ p ∧ p < (q : Int)
        · rw [if_pos c2, if_pos (by obtain ⟨a, b⟩ := c2; exact ⟨a, by omega, by omega⟩)]
        · rw [if_neg c2, if_neg (by intro c3; obtain ⟨a, b, c⟩ := c3; by_cases e : p = (q : Nat); exact c1 ⟨a, e⟩; exact c2 ⟨a, b, by omega⟩)]
    rw [e1]
    by_cases c : t' = t ∧ p = (q : Nat)
    · rw [if_pos c, if_pos c]
      exact .inl ⟨rfl, rfl⟩
    · rw [if_neg c, if_neg c]
      rcases hs t' p with h1 | ⟨v, l, a1, a2, a3⟩
      · exact .inl h1
      · exact .inr ⟨v, l, a1, a2, h.oro G a3⟩
theorem Lk.nows {w : World} {z bo bm : Nat} {L : LoV} (h : Lk w z bo bm L) (n : Int) : Lk (w.setCell ⟨z, 1, none⟩ (.int .i64 n)) z bo bm { L with now := n } ∧ Lf z bo bm w (w.setCell ⟨z, 1, none⟩ (.int .i64 n)) ∧ w.frozen? ⟨z, 1, none⟩ = false := by
  have KK : Kp z w (w.setCell ⟨z, 1, none⟩ (.int .i64 n)) := Kp.set w 1 _
  have G : Lf z bo bm w (w.setCell ⟨z, 1, none⟩ (.int .i64 n)) := Lf.kp KK (.inl rfl)
  have hx := h.x
  obtain ⟨f, M, S⟩ := h.m
  refine ⟨⟨?_, ?_, f, M.blk (KK.block bm h.lm (fun e => h.zm e.symm)), fun t p => ?_⟩, G, ?_⟩
  · rw [heap_setCell_same w z 1 _ _ _ hx]
    rfl
  · have := h.b
    unfold Bb at *
    exact (KK.block bo h.lb (fun e => h.zb e.symm)).trans this
  · rcases S t p with h1 | ⟨v, l, a1, a2, a3⟩
    · exact .inl h1
    · exact .inr ⟨v, l, a1, a2, h.oro G a3⟩
  · simp [World.frozen?, hx]
/-- what Take says. -/
def TakeSays (z bo bm : Nat) (L : LoV) (w : World) (e : Ending) (w' : World) : Prop := ∃ n u r, e = .returned (.tuple #[.int .i64 n, u, r]) ∧ Lf z bo bm w w' ∧
  ((L.waits ≠ [] ∧ n = 0 ∧ u = .slice none 0 0 ∧ Er r 7 ∧ Lk w' z bo bm L) ∨
   (L.waits = [] ∧ Od.faults L.ls.flatten ≠ 0 ∧ n = 0 ∧ u = .slice none 0 0 ∧ Er r (Od.faults L.ls.flatten) ∧ Lk w' z bo bm L) ∨
   (L.waits = [] ∧ Od.faults L.ls.flatten = 0 ∧ n = L.now ∧ r = .nilIface ∧ (∃ out, LastSays L.ls.flatten out ∧ Oro w' w.heap.size u out) ∧ Lk w' z bo bm L.took))
def LtI (z bo bm : Nat) (L : LoV) (out : List OrV) (u : Value) (base : Nat) (w : World) (j : Value) (W : World) : Prop := ∃ q : Nat, q ≤ L.out.length ∧ j = .int .i64 (q : Nat) ∧ Lk W z bo bm (L.gone L.now q) ∧ Oro W base u out ∧ Lf z bo bm w W
set_option maxRecDepth 100000 in
set_option maxHeartbeats 8000000 in
theorem ltake_any (z bo bm : Nat) (L : LoV) (w : World) (h : Lk w z bo bm L) (hl : L.out.length ≤ 4) (hn : 0 ≤ L.now ∧ L.now ≤ 1000000) (hs : ∀ t p l, L.sent t p = some l → l.length ≤ 60) :
    Calls Tryd.prog 10 #[.pointer (some ⟨z, 0, none⟩)] w (TakeSays z bo bm L w) := by
  have H : Hid (Lk w z bo bm L) := h
  have WN : Hid ((Lit.int .i64 L.now).wf = true) := pmwf (by omega) (by omega)
  have HS : Hid (∀ l ∈ L.ls, l.length ≤ 1048576) := fun l hl => by
    unfold LoV.ls LoV.lsN at hl
    obtain ⟨p, -, rfl⟩ := List.mem_map.1 hl
    cases e : L.sent L.now p with
    | none => simp
    | some l => have := hs _ _ _ e; simp; omega
  clear h hs
  go_enter Tryd.func10, Tryd.ntmps10
  go_wp2_with fail
  refine Calls.mono (lready_any z bo bm L w H.out hl WN.out) ?_
  rintro e w1 ⟨rfl, b1⟩
  have B1 : Hid (Below w.heap.size w w1) := b1
  have H1 : Hid (Lk w1 z bo bm L) := H.out.below b1
  clear b1
  by_cases he : L.waits = []
  case neg =>
    have E : decide (L.waits = []) = false := decide_eq_false he
    have HE : Hid (L.waits ≠ []) := he
    rw [E]
    clear E he
    go_wp2
    go_ret3
    exact ⟨_, _, _, rfl, Lf.of B1.out, .inl ⟨HE.out, rfl, rfl, Er.no (by decide), H1.out⟩⟩
  have E : decide (L.waits = []) = true := decide_eq_true he
  have HE : Hid (L.waits = []) := he
  rw [E]
  clear E he
  go_wp2_with fail
  refine Calls.mono (llists_any z bo bm L w1 H1.out hl WN.out) ?_
  rintro e w2 ⟨u2, rfl, ho, b2⟩
  have B2 : Hid (Below w.heap.size w w2) := B1.out.trans (b2.mono B1.out.size)
  have H2 : Hid (Lk w2 z bo bm L) := H1.out.below b2
  have OO : Hid (Oll w2 u2 L.ls) := ho
  obtain ⟨a2, c2, rfl, -⟩ := ho
  clear b2
  go_wp2_with fail
  refine Calls.mono (mergel_any _ L.ls w2 OO.out HS.out) ?_
  rintro e w3 ⟨u3, r3, rfl, hr, hu, b3⟩
  obtain ⟨F, hF⟩ : ∃ F, Od.faults L.ls.flatten = F := ⟨_, rfl⟩
  have HF : Hid (Od.faults L.ls.flatten = F) := hF
  rw [hF] at hr hu
  clear hF
  have B3 : Hid (Below w.heap.size w w3) := B2.out.trans (b3.mono B2.out.size)
  have H3 : Hid (Lk w3 z bo bm L) := H2.out.below b3
  rcases hr with ⟨rfl, rfl⟩ | ⟨hf, rfl⟩
  case inr =>
    have FF : Hid (F ≠ 0) := hf
    clear hf hu b3
    go_wp2
    go_ret3
    exact ⟨_, _, _, rfl, Lf.of B3.out, .inr (.inl ⟨HE.out, by rw [HF.out]; exact FF.out, rfl, rfl, by rw [HF.out]; exact Er.no FF.out, H3.out⟩)⟩
  obtain ⟨out, hls, hoo⟩ : ∃ out, LastSays L.ls.flatten out ∧ Oro w3 w2.heap.size u3 out := by
    rcases hu with ⟨h, -⟩ | ⟨-, h⟩
    · exact absurd rfl h
    · exact h
  have LS : Hid (LastSays L.ls.flatten out) := hls
  have O3 : Hid (Oro w3 w.heap.size u3 out) := hoo.mono B2.out.size
  clear hu hls hoo b3
  obtain ⟨c0, c1, c2, c3⟩ := H3.out.cells
  go_wp2_with fail
  go_loopw [28] (fun j W => LtI z bo bm L out u3 w.heap.size w3 j W) (fun j _ => L.out.length - (intOf j).toNat)
  case atStart => exact ⟨0, Nat.zero_le _, rfl, by rw [LoV.gone_zero]; exact H3.out, O3.out, Lf.of (Below.refl _ _)⟩
  case round =>
    clear c0 c1 c2 c3
    obtain ⟨q, hq, rfl, hk, ho, hf⟩ := hrel
    have K : Hid (Lk wr z bo bm (L.gone L.now q)) := hk
    have O : Hid (Oro wr w.heap.size u3 out) := ho
    have G : Hid (Lf z bo bm w3 wr) := hf
    clear hk ho hf
    by_cases hql : q = L.out.length
    · subst hql
      obtain ⟨c0, d1, c2, c3⟩ := K.out.cells
      have c1 : wr.cell? ⟨z, 1, none⟩ = some (.int .i64 L.now) := d1
      have NW : IntKind.i64.wrap (L.now + 1) = L.now + 1 := by rw [IntKind.wrap_i64]; omega
      obtain ⟨k1, k2, k3⟩ := K.out.nows (L.now + 1)
      have K1 : Hid (Lk (wr.setCell ⟨z, 1, none⟩ (.int .i64 (L.now + 1))) z bo bm L.took ∧ Lf z bo bm wr (wr.setCell ⟨z, 1, none⟩ (.int .i64 (L.now + 1)))) := ⟨k1, k2⟩
      have O1 : Hid (Oro (wr.setCell ⟨z, 1, none⟩ (.int .i64 (L.now + 1))) w.heap.size u3 out) := O.out.kept (row := some z) ⟨k2.os, k2.tape, k2.output, k2.size, fun k hk hn => (Kp.set (z := z) wr 1 (.int .i64 (L.now + 1))).block k hk (fun e => hn (by rw [e]))⟩ (.inr (fun e => by have h1 := (O.out.block z e).1; have h2 := H.out.lz; omega))
      clear k1 k2 c0 c2 c3 d1
      go_wp2
      go_ret3
      exact ⟨_, _, _, rfl, ((Lf.of B3.out).trans G.out).trans K1.out.2, .inr (.inr ⟨HE.out, HF.out, rfl, rfl, ⟨out, LS.out, O1.out⟩, K1.out.1⟩)⟩
    · have hqk : q < L.out.length := by omega
      have hqi : (q : Int) < (L.out.length : Nat) := by omega
      obtain ⟨c0, c1, c2, c3⟩ := K.out.cells
      have WQ : Hid ((Lit.int .i64 ((q : Nat) : Int)).wf = true) := pmwf (by omega) (by omega)
      obtain ⟨f, M, S⟩ := K.out.m
      have MM : Hid (Pm wr bm L.many f ∧ ∀ t' p, (f t' p = none ∧ (L.gone L.now q).sent t' p = none) ∨ ∃ v l, f t' p = some v ∧ (L.gone L.now q).sent t' p = some l ∧ Oro wr 0 v l) := ⟨M, S⟩
      clear M S c0 c1 c2
      go_wp2_with (at_delete; refine del_pm _ rfl _ _ rfl bm L.many f MM.out.1 L.now (q : Nat) WN.out WQ.out rfl rfl ?_)
      intro w5 m5 g5
      have K5 := K.out.goes MM.out.1 MM.out.2 m5 g5
      have O5 : Hid (Oro w5 w.heap.size u3 out) := O.out.kept g5 (.inr (fun e => by have h1 := (O.out.block bm e).1; have h2 := H.out.lm; omega))
      have R5 : Hid (Lk w5 z bo bm (L.gone L.now (q + 1)) ∧ Lf z bo bm w3 w5) := ⟨K5.1, G.out.trans K5.2⟩
      clear m5 g5 K5
      go_wp2
      go_round
      case rel => exact ⟨q + 1, by omega, by go_num, R5.out.1, O5.out, R5.out.2⟩
      case measure => simp [intOf]; omega
end Go.Proofs.YtbomnicnoanjlaaDoor

namespace Go.Proofs.YtbomnicnoanjlaaDoor
open Go.RowKit
set_option linter.unusedVariables false

/-- r is where the first is; -1: there is none. -/
def FstO (p : OrV → Bool) (ks : List OrV) (r : Int) : Prop := (r = -1 ∧ ks.any p = false) ∨ ∃ (k : Nat) (x : OrV), r = k ∧ ks[k]? = some x ∧ p x = true ∧ (ks.take k).any p = false
theorem anyo_next {p : OrV → Bool} {ks : List OrV} {k : Nat} {x : OrV} (h : ks[k]? = some x) : (ks.take (k + 1)).any p = ((ks.take k).any p || p x) := by
  obtain ⟨hi, e⟩ := List.getElem?_eq_some_iff.1 h
  rw [List.take_succ_eq_append_getElem hi, List.any_append, e]
  simp
theorem FstO.has {p : OrV → Bool} {xs : List OrV} {r : Int} (h : FstO p xs r) : decide (0 ≤ r) = xs.any p := by
  rcases h with ⟨rfl, h⟩ | ⟨k, x, rfl, h1, h2, _⟩
  · rw [h]; decide
  · rw [decide_eq_true (by omega)]
    exact (List.any_eq_true.2 ⟨x, List.mem_of_getElem? h1, h2⟩).symm

set_option maxHeartbeats 2000000 in
theorem idxo_any (K : Nat) (eK : ∀ args w, (callFunc K args).run Tryd.prog w = .ok (.enter K args) w) (u : Value) (cs : Array Value) (ks : List OrV) (p : OrV → Bool) (w : World) (hu : Orl w u ks)
    (hp : ∀ W, Below w.heap.size w W → ∀ k ∈ ks, Calls Tryd.prog K (#[k.val] ++ cs) W fun e w' => e = .returned (.bool (p k)) ∧ Below W.heap.size W w') :
    Calls Tryd.prog 32 #[u, .func (Fn.func K) #[] cs] w fun e w' => ∃ r : Int, e = .returned (.int .i64 r) ∧ FstO p ks r ∧ Below w.heap.size w w' := by
  obtain ⟨a, c, rfl, c1, c2, ca⟩ := hu
  have Ca : Hid (ks ≠ [] → ∃ x, a = some x ∧ x.block < w.heap.size ∧ ∀ (i : Nat) k, ks[i]? = some k → Orc w (x.add (i * 4)) k) := ca
  have Hp : Hid (∀ W, Below w.heap.size w W → ∀ k ∈ ks, Calls Tryd.prog K (#[k.val] ++ cs) W fun e w' => e = .returned (.bool (p k)) ∧ Below W.heap.size W w') := hp
  clear ca hp
  go_enter Tryd.func32, Tryd.ntmps32
  go_wp2
  go_loopw [8] (fun i W' => ∃ k : Nat, k ≤ ks.length ∧ i = .int .i64 (k : Nat) ∧ (ks.take k).any p = false ∧ Below w.heap.size w W') (fun i _ => ks.length - (intOf i).toNat)
  case atStart => exact ⟨0, Nat.zero_le _, rfl, by simp, Below.refl _ _⟩
  case round =>
    obtain ⟨k, hk, rfl, ht, hb⟩ := hrel
    have Ht : Hid ((ks.take k).any p = false) := ht
    have B : Hid (Below w.heap.size w wr) := hb
    clear ht hb
    by_cases h0 : k = ks.length
    · subst h0
      go_wp2
      go_ret
      refine ⟨_, rfl, .inl ⟨rfl, ?_⟩, B⟩
      have := Ht.out
      rw [List.take_of_length_le (Nat.le_refl _)] at this
      exact this
    · have hkx : k < ks.length := by omega
      obtain ⟨x, rfl, hx1, hx⟩ := Ca.out (by intro h; rw [h] at hkx; simp at hkx)
      obtain ⟨y, hy⟩ : ∃ y, ks[k]? = some y := ⟨_, List.getElem?_eq_getElem hkx⟩
      have Yc := (hx k y hy).below B.out (by rw [add_block]; exact hx1)
      obtain ⟨q0, q1, q2, q3⟩ := Yc
      have hc := Hp.out wr B.out y (List.mem_of_getElem? hy)
      have Hs : Hid _ := anyo_next (p := p) hy
      have Hm : Hid (ks[k]? = some y) := hy
      clear hx hx1 hy
      cases hy : p y with
      | true =>
        rw [hy] at hc
        have Hc : Hid (Calls Tryd.prog K (#[y.val] ++ cs) wr fun e w' => e = .returned (.bool true) ∧ Below wr.heap.size wr w') := hc
        have Hy : Hid (p y = true) := hy
        clear hc hy
        go_wp2_with fail
        refine Calls.mono Hc.out ?_
        rintro e w1 ⟨rfl, b1⟩
        have B1 : Hid (Below w.heap.size w w1) := B.out.trans (b1.mono B.out.size)
        clear b1
        go_wp2
        go_ret
        exact ⟨_, rfl, .inr ⟨k, y, rfl, Hm, Hy, Ht⟩, B1⟩
      | false =>
        rw [hy] at hc
        have Hc : Hid (Calls Tryd.prog K (#[y.val] ++ cs) wr fun e w' => e = .returned (.bool false) ∧ Below wr.heap.size wr w') := hc
        have Hy : Hid (p y = false) := hy
        clear hc hy
        go_wp2_with fail
        refine Calls.mono Hc.out ?_
        rintro e w1 ⟨rfl, b1⟩
        have B1 : Hid (Below w.heap.size w w1) := B.out.trans (b1.mono B.out.size)
        clear b1
        go_wp2
        go_round
        case rel => exact ⟨k + 1, by omega, by go_num, by have := Hs.out; rw [Ht.out, Hy.out] at this; exact this, B1⟩
        case measure => simp [intOf]; omega
set_option maxHeartbeats 4000000 in
theorem haso_any (K : Nat) (eK : ∀ args w, (callFunc K args).run Tryd.prog w = .ok (.enter K args) w) (u : Value) (cs : Array Value) (ks : List OrV) (p : OrV → Bool) (w : World) (hu : Orl w u ks)
    (hp : ∀ W, Below w.heap.size w W → ∀ k ∈ ks, Calls Tryd.prog K (#[k.val] ++ cs) W fun e w' => e = .returned (.bool (p k)) ∧ Below W.heap.size W w') :
    Calls Tryd.prog 20 #[u, .func (Fn.func K) #[] cs] w fun e w' => e = .returned (.bool (ks.any p)) ∧ Below w.heap.size w w' := by
  have H' : Hid (Calls Tryd.prog 32 #[u, .func (Fn.func K) #[] cs] w fun e w' => ∃ r : Int, e = .returned (.int .i64 r) ∧ FstO p ks r ∧ Below w.heap.size w w') := idxo_any K eK u cs ks p w hu hp
  clear hp
  go_enter Tryd.func20, Tryd.ntmps20
  go_wp2_with fail
  refine Calls.mono H'.out ?_
  rintro e w1 ⟨r, rfl, hr, q⟩
  have Hr : Hid (decide (0 ≤ r) = ks.any p) := hr.has
  have Q : Hid (Below w.heap.size w w1) := q
  clear hr q
  go_wp2
  go_ret
  exact ⟨by show Ending.returned (.bool (decide (0 ≤ r))) = _; rw [Hr.out], Q⟩
end Go.Proofs.YtbomnicnoanjlaaDoor

namespace Go.Proofs.YtbomnicnoanjlaaDoor
open Go Go.RowKit
set_option linter.unusedVariables false

section
variable {P : Program} {ops : Array Oper} {md : Region.Mode} {C : World → Prop} {Q : Exit → Act → World → Prop}

/-- the operation gives v in each of the worlds C, and turns nothing. -/
def YieldsS (P : Program) (ops : Array Oper) (C : World → Prop) (o : Oper) (v : Value) (a : Act) : Prop :=
  Region.wanted o (yielded ops a.tmps) = true ∧ ∀ W, C W → (execOp a.eval o).run P W = .ok (.value v) W
/-- the operation goes on, to a world of C. -/
def StepS (P : Program) (ops : Array Oper) (C : World → Prop) (o : Oper) (K : Act → World → Prop) (a : Act) (W : World) : Prop :=
  Region.wanted o (yielded ops a.tmps) = true ∧
   ((∃ v W', (execOp a.eval o).run P W = .ok (.value v) W' ∧ C W' ∧ K (a.put o.dst v) W') ∨ (∃ W', (execOp a.eval o).run P W = .ok .skip W' ∧ C W' ∧ K (a.put o.dst undef) W') ∨
    ∃ f args, (execOp a.eval o).run P W = .ok (.enter f args) W ∧ Calls P f args W (fun e w' => ∃ v, e = .returned v ∧ C w' ∧ K (a.put o.dst v) w'))
theorem StepS.mono {o : Oper} {K K' : Act → World → Prop} {a : Act} {W : World} (h : ∀ a W, C W → K a W → K' a W) (hh : StepS P ops C o K a W) : StepS P ops C o K' a W := by
  obtain ⟨h1, h2⟩ := hh
  refine ⟨h1, ?_⟩
  rcases h2 with ⟨v, W', e, hc, hk⟩ | ⟨W', e, hc, hk⟩ | ⟨f, args, e, hc⟩
  · exact .inl ⟨v, W', e, hc, h _ _ hc hk⟩
  · exact .inr (.inl ⟨W', e, hc, h _ _ hc hk⟩)
  · exact .inr (.inr ⟨f, args, e, hc.mono fun e w' ⟨v, he, hw, hk⟩ => ⟨v, he, hw, h _ _ hw hk⟩⟩)
theorem YieldsS.step {o : Oper} {v : Value} {K : Act → World → Prop} {a : Act} {W : World} (hy : YieldsS P ops C o v a) (hC : C W) (h : K (a.put o.dst v) W) : StepS P ops C o K a W :=
  ⟨hy.1, .inl ⟨v, W, hy.2 W hC, hC, h⟩⟩
theorem StepS.put {oi oj : Oper} {v : Value} (hap : oi.apart ops oj = true)
    (hsi : ∀ cs b, oi.op ≠ .select cs b) (hsj : ∀ cs b, oj.op ≠ .select cs b) {K : Act → World → Prop} {a : Act} {W : World}
    (hy : YieldsS P ops C oi v a) (h : StepS P ops C oj K (a.put oi.dst v) W) :
    StepS P ops C oj (fun a' w' => YieldsS P ops C oi v a' ∧ K (a'.put oi.dst v) w') a W := by
  obtain ⟨h1, h2, h3⟩ := Oper.apart_spec hap
  have keep : ∀ u, YieldsS P ops C oi v (a.put oj.dst u) := fun u => by
    unfold YieldsS at *
    rw [execOp_put oi hsi a oj.dst u h3, wanted_put oi a oj.dst u h3]
    exact hy
  unfold StepS at *
  rw [wanted_put oj a oi.dst v h1, execOp_put oj hsj a oi.dst v h1] at h
  obtain ⟨hw, h⟩ := h
  refine ⟨hw, ?_⟩
  rcases h with ⟨u, W', e, hc, hk⟩ | ⟨W', e, hc, hk⟩ | ⟨f, args, e, hc⟩
  · exact .inl ⟨u, W', e, hc, keep u, by rw [← Act.put_comm a v u h2]; exact hk⟩
  · exact .inr (.inl ⟨W', e, hc, keep _, by rw [← Act.put_comm a v _ h2]; exact hk⟩)
  · exact .inr (.inr ⟨f, args, e, hc.mono fun e w' ⟨u, he, hw, hk⟩ => ⟨u, he, hw, keep u, by rw [← Act.put_comm a v u h2]; exact hk⟩⟩)
def wpAnyS (P : Program) (md : Region.Mode) (ops : Array Oper) (C : World → Prop) (Q : Exit → Act → World → Prop) : Nat → Array Bool → Act → World → Prop
  | 0, listed, a, W => Region.ready md ops listed = [] ∧ Q .normal a W
  | f + 1, listed, a, W => Region.ready md ops listed ≠ [] ∧ ∀ i ∈ Region.ready md ops listed, ∃ o, ops[i]? = some o ∧ StepS P ops C o (wpAnyS P md ops C Q f (listed.setIfInBounds i true)) a W
theorem wpAny_of_S : ∀ (f : Nat) (listed : Array Bool) (a : Act) (W : World), wpAnyS P md ops C Q f listed a W → wpAny P md ops Q f listed a W
  | 0, listed, a, W, h => h
  | f + 1, listed, a, W, h => by
    refine ⟨fun h0 => absurd h0 h.1, fun i hi => ?_⟩
    obtain ⟨o, ho, hs⟩ := h.2 i hi
    unfold wpOp
    simp only [ho]
    obtain ⟨hw, hs⟩ := hs
    rw [if_pos hw]
    refine .inl ?_
    unfold Oper.wp
    rcases hs with ⟨v, W', e, -, hk⟩ | ⟨W', e, -, hk⟩ | ⟨g, args, e, hc⟩
    · rw [e]; exact wpAny_of_S f _ _ _ hk
    · rw [e]; exact wpAny_of_S f _ _ _ hk
    · rw [e]
      exact hc.mono fun e w' ⟨v, he, _, hk⟩ => by subst he; exact wpAny_of_S f _ _ _ hk
theorem wpAnyS_first {i : Nat} {oi : Oper} {v : Value} (hi : ops[i]? = some oi) (hsel : ∀ (j : Nat) (o : Oper) cs b, ops[j]? = some o → o.op ≠ .select cs b) :
    ∀ (f : Nat) (listed : Array Bool) (a : Act) (W : World),
      (∀ j oj, ops[j]? = some oj → j ≠ i → listed.getD j true = false → (∀ e ∈ oj.after, Region.binds md e = true → e.on ≠ i) → oi.apart ops oj = true) →
      i ∈ Region.ready md ops listed → YieldsS P ops C oi v a → C W →
      wpAnyS P md ops C Q f (listed.setIfInBounds i true) (a.put oi.dst v) W → wpAnyS P md ops C Q (f + 1) listed a W := by
  intro f
  induction f with
  | zero =>
    intro listed a W _ hr hy hC H
    refine ⟨fun h => (by rw [h] at hr; cases hr), fun j hj => ?_⟩
    by_cases hji : j = i
    · subst hji; exact ⟨oi, hi, hy.step hC H⟩
    · have := ready_mono hj hji
      rw [H.1] at this
      cases this
  | succ f ih =>
    intro listed a W hfree hr hy hC H
    refine ⟨fun h => (by rw [h] at hr; cases hr), fun j hj => ?_⟩
    by_cases hji : j = i
    · subst hji; exact ⟨oi, hi, hy.step hC H⟩
    · obtain ⟨o', ho', h1⟩ := H.2 j (ready_mono hj hji)
      obtain ⟨hjun, oj, hoj, hall⟩ := mem_ready.1 hj
      obtain rfl : o' = oj := Option.some.inj (ho'.symm.trans hoj)
      have hnot : ∀ e ∈ o'.after, Region.binds md e = true → e.on ≠ i := fun e he hb heq => by
        have h1 := hall e he hb
        have h0 := (mem_ready.1 hr).1
        rw [heq, getD_both h0] at h1
        cases h1
      have h2 := StepS.put (hfree j o' hoj hji hjun hnot) (fun cs b => hsel i oi cs b hi) (fun cs b => hsel j o' cs b hoj) hy h1
      have hfree' : ∀ k ok, ops[k]? = some ok → k ≠ i → (listed.setIfInBounds j true).getD k true = false →
          (∀ e ∈ ok.after, Region.binds md e = true → e.on ≠ i) → oi.apart ops ok = true := fun k ok hk hki hun hno => by
        refine hfree k ok hk hki ?_ hno
        by_cases hjk : j = k
        · subst hjk; exact hjun
        · rw [getD_set_ne true hjk] at hun; exact hun
      refine ⟨o', hoj, h2.mono fun a' W' hC' h3 => ih (listed.setIfInBounds j true) a' W' hfree' (ready_mono hr (Ne.symm hji)) h3.1 hC' ?_⟩
      rw [Array.setIfInBounds_comm _ _ hji]
      exact h3.2
/-- an order of one's own: those marked true read, and may come at any time; of the others each is the only one that may come. -/
def wpSched (P : Program) (ops : Array Oper) (C : World → Prop) (Q : Exit → Act → World → Prop) : List (Bool × Nat) → Act → World → Prop
  | [], a, W => Q .normal a W
  | (true, i) :: r, a, W => ∃ o v, ops[i]? = some o ∧ YieldsS P ops C o v a ∧ wpSched P ops C Q r (a.put o.dst v) W
  | (false, i) :: r, a, W => ∃ o, ops[i]? = some o ∧ StepS P ops C o (wpSched P ops C Q r) a W
def schedB (md : Region.Mode) (ops : Array Oper) : List (Bool × Nat) → Array Bool → Bool
  | [], listed => (Region.ready md ops listed).isEmpty
  | (true, i) :: r, listed => (Region.ready md ops listed).contains i && (Region.free md ops listed i && schedB md ops r (listed.setIfInBounds i true))
  | (false, i) :: r, listed => decide (Region.ready md ops listed = [i]) && schedB md ops r (listed.setIfInBounds i true)
theorem wpAnyS_of_sched (hsel : Region.noSelect ops = true) : ∀ (s : List (Bool × Nat)) (listed : Array Bool) (a : Act) (W : World), schedB md ops s listed = true → C W → wpSched P ops C Q s a W → wpAnyS P md ops C Q s.length listed a W
  | [], listed, a, W, hB, hC, h => ⟨by simpa [schedB] using hB, h⟩
  | (true, i) :: r, listed, a, W, hB, hC, h => by
    simp only [schedB, Bool.and_eq_true] at hB
    obtain ⟨hr, hf, hB⟩ := hB
    obtain ⟨o, v, ho, hy, hk⟩ := h
    have hr' : i ∈ Region.ready md ops listed := by simpa using hr
    exact wpAnyS_first ho (Region.noSelect_spec hsel) r.length listed a W (Region.free_spec ho hf) hr' hy hC (wpAnyS_of_sched hsel r _ _ _ hB hC hk)
  | (false, i) :: r, listed, a, W, hB, hC, h => by
    simp only [schedB, Bool.and_eq_true, decide_eq_true_eq] at hB
    obtain ⟨hr, hB⟩ := hB
    obtain ⟨o, ho, hs⟩ := h
    refine ⟨fun h => (by rw [hr] at h; cases h), fun j hj => ?_⟩
    rw [hr] at hj
    obtain rfl : j = i := by simpa using hj
    exact ⟨o, ho, hs.mono fun a' W' hC' hk => wpAnyS_of_sched hsel r _ _ _ hB hC' hk⟩
theorem wp_region_sched {id : Nat} {a : Act} {w : World} (s : List (Bool × Nat)) (C : World → Prop) (hm : P.follows .mixedOrders = true) (hs : Region.noSelect ops = true) (hl : s.length = ops.size) (hB : schedB .any ops s (Array.replicate ops.size false) = true)
    (hC : C { w with drawn := w.drawn + 1 }) (h : wpSched P ops C Q s a { w with drawn := w.drawn + 1 }) : (Code.region id ops true).wp P Q a w := by
  refine wp_region_any hm ?_
  rw [← hl]
  exact wpAny_of_S _ _ _ _ (wpAnyS_of_sched hs s _ a _ (by rw [hl]; exact hB) hC h)
theorem sched_read {i : Nat} {r : List (Bool × Nat)} {o : Oper} {a : Act} {W : World} (ho : ops[i]? = some o) (v : Value) (hw : Region.wanted o (yielded ops a.tmps) = true) (hr : ∀ W, C W → (execOp a.eval o).run P W = .ok (.value v) W) (h : wpSched P ops C Q r (a.put o.dst v) W) : wpSched P ops C Q ((true, i) :: r) a W :=
  ⟨o, v, ho, ⟨hw, hr⟩, h⟩
theorem sched_call {i : Nat} {r : List (Bool × Nat)} {o : Oper} {a : Act} {W : World} (ho : ops[i]? = some o) (f : FuncId) (args : Array Value) (hw : Region.wanted o (yielded ops a.tmps) = true) (hr : (execOp a.eval o).run P W = .ok (.enter f args) W)
    (hc : Calls P f args W (fun e w' => ∃ v, e = .returned v ∧ C w' ∧ wpSched P ops C Q r (a.put o.dst v) w')) : wpSched P ops C Q ((false, i) :: r) a W :=
  ⟨o, ho, hw, .inr (.inr ⟨f, args, hr, hc⟩)⟩
theorem sched_value {i : Nat} {r : List (Bool × Nat)} {o : Oper} {a : Act} {W : World} (ho : ops[i]? = some o) (v : Value) (W' : World) (hw : Region.wanted o (yielded ops a.tmps) = true) (hr : (execOp a.eval o).run P W = .ok (.value v) W') (hC : C W') (h : wpSched P ops C Q r (a.put o.dst v) W') : wpSched P ops C Q ((false, i) :: r) a W :=
  ⟨o, ho, hw, .inl ⟨v, W', hr, hC, h⟩⟩
theorem sched_skip {i : Nat} {r : List (Bool × Nat)} {o : Oper} {a : Act} {W : World} (ho : ops[i]? = some o) (W' : World) (hw : Region.wanted o (yielded ops a.tmps) = true) (hr : (execOp a.eval o).run P W = .ok .skip W') (hC : C W') (h : wpSched P ops C Q r (a.put o.dst undef) W') : wpSched P ops C Q ((false, i) :: r) a W :=
  ⟨o, ho, hw, .inr (.inl ⟨W', hr, hC, h⟩)⟩
end
end Go.Proofs.YtbomnicnoanjlaaDoor

namespace Go.Proofs.YtbomnicnoanjlaaDoor
open Go Go.RowKit
set_option linter.unusedVariables false

section
variable {P : Program} {ops : Array Oper} {md : Region.Mode} {C : World → Prop} {Q : Exit → Act → World → Prop} {L : Array Bool → Act → World → Prop}

def wpAnyT (P : Program) (md : Region.Mode) (ops : Array Oper) (C : World → Prop) (L : Array Bool → Act → World → Prop) : Nat → Array Bool → Act → World → Prop
  | 0, listed, a, W => L listed a W
  | f + 1, listed, a, W => Region.ready md ops listed ≠ [] ∧ ∀ i ∈ Region.ready md ops listed, ∃ o, ops[i]? = some o ∧ StepS P ops C o (wpAnyT P md ops C L f (listed.setIfInBounds i true)) a W
theorem wpAny_of_T {g : Nat} (hL : ∀ listed a W, L listed a W → wpAny P md ops Q g listed a W) : ∀ (f : Nat) (listed : Array Bool) (a : Act) (W : World), wpAnyT P md ops C L f listed a W → wpAny P md ops Q (f + g) listed a W
  | 0, listed, a, W, h => by rw [Nat.zero_add]; exact hL _ _ _ h
  | f + 1, listed, a, W, h => by
    rw [show f + 1 + g = (f + g) + 1 by omega]
    refine ⟨fun h0 => absurd h0 h.1, fun i hi => ?_⟩
    obtain ⟨o, ho, hs⟩ := h.2 i hi
    unfold wpOp
    simp only [ho]
    obtain ⟨hw, hs⟩ := hs
    rw [if_pos hw]
    refine .inl ?_
    unfold Oper.wp
    rcases hs with ⟨v, W', e, -, hk⟩ | ⟨W', e, -, hk⟩ | ⟨k, args, e, hc⟩
    · rw [e]; exact wpAny_of_T hL f _ _ _ hk
    · rw [e]; exact wpAny_of_T hL f _ _ _ hk
    · rw [e]
      exact hc.mono fun e w' ⟨v, he, _, hk⟩ => by subst he; exact wpAny_of_T hL f _ _ _ hk
theorem unset_of {l H : Array Bool} {i : Nat} (h0 : l.getD i true = false) (e : l.setIfInBounds i true = H) : l = H.setIfInBounds i false := by
  subst e
  apply Array.ext_getElem?
  intro k
  by_cases hk : i = k
  · subst hk
    rcases Nat.lt_or_ge i l.size with hl | hl
    · simp [Array.getD, hl] at h0
      simp [hl, h0]
    · simp [Array.getD, Nat.not_lt.2 hl] at h0
  · simp [hk]
/-- what is listed has all that it waits for. -/
def Clos (md : Region.Mode) (ops : Array Oper) (listed : Array Bool) : Prop := ∀ (j : Nat) (oj : Oper), ops[j]? = some oj → listed.getD j false = true → ∀ e ∈ oj.after, Region.binds md e = true → listed.getD e.on false = true
theorem Clos.set {i : Nat} {listed : Array Bool} (inv : Clos md ops listed) (hi : i ∈ Region.ready md ops listed) : Clos md ops (listed.setIfInBounds i true) := by
  obtain ⟨_, oi, hoi, hall⟩ := mem_ready.1 hi
  intro j oj hj hl e he hb
  by_cases hij : i = j
  · subst hij
    have : oj = oi := Option.some.inj (hj.symm.trans hoi)
    subst this
    exact getD_set_true (hall e he hb)
  · rw [getD_set_ne false hij] at hl
    exact getD_set_true (inv j oj hj hl e he hb)
/-- one that is listed waits for i. -/
def waits (md : Region.Mode) (ops : Array Oper) (H0 : Array Bool) (i : Nat) : Bool := (List.range ops.size).any fun j => H0.getD j false && (decide (j ≠ i) && match ops[j]? with | some o => o.after.any fun e => Region.binds md e && decide (e.on = i) | none => false)
theorem waits_spec {H0 : Array Bool} {i : Nat} (h : waits md ops H0 i = true) : ∃ j o, ops[j]? = some o ∧ j ≠ i ∧ H0.getD j false = true ∧ ∃ e ∈ o.after, Region.binds md e = true ∧ e.on = i := by
  unfold waits at h
  obtain ⟨j, -, hj⟩ := List.any_eq_true.1 h
  simp only [Bool.and_eq_true, decide_eq_true_eq] at hj
  obtain ⟨h1, h2, h3⟩ := hj
  cases ho : ops[j]? with
  | none => rw [ho] at h3; cases h3
  | some o =>
    rw [ho] at h3
    obtain ⟨k, hk, he⟩ := Array.any_eq_true.1 h3
    simp only [Bool.and_eq_true, decide_eq_true_eq] at he
    exact ⟨j, o, ho, h2, h1, o.after[k], Array.getElem_mem hk, he.1, he.2⟩
theorem wpAnyT_first {i : Nat} {oi : Oper} {v : Value} {H0 : Array Bool} (hi : ops[i]? = some oi) (hsel : ∀ (j : Nat) (o : Oper) cs b, ops[j]? = some o → o.op ≠ .select cs b)
    (hH : waits md ops H0 i = true ∨ Region.ready md ops (H0.setIfInBounds i false) = [i]) (hLH : ∀ listed a W, L listed a W → listed = H0) :
    ∀ (f : Nat) (listed : Array Bool) (a : Act) (W : World), Clos md ops listed →
      (∀ j oj, ops[j]? = some oj → j ≠ i → listed.getD j true = false → (∀ e ∈ oj.after, Region.binds md e = true → e.on ≠ i) → oi.apart ops oj = true) →
      i ∈ Region.ready md ops listed → YieldsS P ops C oi v a → C W →
      wpAnyT P md ops C L f (listed.setIfInBounds i true) (a.put oi.dst v) W → wpAnyT P md ops C L (f + 1) listed a W := by
  intro f
  induction f with
  | zero =>
    intro listed a W inv _ hr hy hC H
    refine ⟨fun h => (by rw [h] at hr; cases hr), fun j hj => ?_⟩
    by_cases hji : j = i
    · subst hji; exact ⟨oi, hi, hy.step hC H⟩
    · rcases hH with hH | hH
      · obtain ⟨k, ok, hk, hki, hkl, e, he, hb, heq⟩ := waits_spec hH
        rw [← hLH _ _ _ H, getD_set_ne false (Ne.symm hki)] at hkl
        have h1 := inv k ok hk hkl e he hb
        rw [heq, getD_both (mem_ready.1 hr).1] at h1
        cases h1
      · have e := unset_of (mem_ready.1 hr).1 (hLH _ _ _ H)
        rw [e, hH] at hj
        exact absurd (by simpa using hj) hji
  | succ f ih =>
    intro listed a W inv hfree hr hy hC H
    refine ⟨fun h => (by rw [h] at hr; cases hr), fun j hj => ?_⟩
    by_cases hji : j = i
    · subst hji; exact ⟨oi, hi, hy.step hC H⟩
    · obtain ⟨o', ho', h1⟩ := H.2 j (ready_mono hj hji)
      obtain ⟨hjun, oj, hoj, hall⟩ := mem_ready.1 hj
      obtain rfl : o' = oj := Option.some.inj (ho'.symm.trans hoj)
      have hnot : ∀ e ∈ o'.after, Region.binds md e = true → e.on ≠ i := fun e he hb heq => by
        have h1 := hall e he hb
        have h0 := (mem_ready.1 hr).1
        rw [heq, getD_both h0] at h1
        cases h1
      have h2 := StepS.put (hfree j o' hoj hji hjun hnot) (fun cs b => hsel i oi cs b hi) (fun cs b => hsel j o' cs b hoj) hy h1
      have hfree' : ∀ k ok, ops[k]? = some ok → k ≠ i → (listed.setIfInBounds j true).getD k true = false →
          (∀ e ∈ ok.after, Region.binds md e = true → e.on ≠ i) → oi.apart ops ok = true := fun k ok hk hki hun hno => by
        refine hfree k ok hk hki ?_ hno
        by_cases hjk : j = k
        · subst hjk; exact hjun
        · rw [getD_set_ne true hjk] at hun; exact hun
      refine ⟨o', hoj, h2.mono fun a' W' hC' h3 => ih (listed.setIfInBounds j true) a' W' (inv.set hj) hfree' (ready_mono hr (Ne.symm hji)) h3.1 hC' ?_⟩
      rw [Array.setIfInBounds_comm _ _ hji]
      exact h3.2
/-- the head, in an order of one's own; K behind it. -/
def wpHeadT (P : Program) (ops : Array Oper) (C : World → Prop) (K : Act → World → Prop) : List (Bool × Nat) → Act → World → Prop
  | [], a, W => K a W
  | (true, i) :: r, a, W => ∃ o v, ops[i]? = some o ∧ YieldsS P ops C o v a ∧ wpHeadT P ops C K r (a.put o.dst v) W
  | (false, i) :: r, a, W => ∃ o, ops[i]? = some o ∧ StepS P ops C o (wpHeadT P ops C K r) a W
def headB (md : Region.Mode) (ops : Array Oper) (H0 : Array Bool) : List (Bool × Nat) → Array Bool → Bool
  | [], listed => decide (listed = H0)
  | (true, i) :: r, listed => (Region.ready md ops listed).contains i && (Region.free md ops listed i && ((waits md ops H0 i || decide (Region.ready md ops (H0.setIfInBounds i false) = [i])) && headB md ops H0 r (listed.setIfInBounds i true)))
  | (false, i) :: r, listed => decide (Region.ready md ops listed = [i]) && headB md ops H0 r (listed.setIfInBounds i true)
theorem wpAnyT_of_head {K : Act → World → Prop} {H0 : Array Bool} (hsel : Region.noSelect ops = true) : ∀ (s : List (Bool × Nat)) (listed : Array Bool) (a : Act) (W : World), Clos md ops listed → headB md ops H0 s listed = true → C W → wpHeadT P ops C K s a W → wpAnyT P md ops C (fun l a W => l = H0 ∧ K a W) s.length listed a W
  | [], listed, a, W, inv, hB, hC, h => ⟨of_decide_eq_true hB, h⟩
  | (true, i) :: r, listed, a, W, inv, hB, hC, h => by
    simp only [headB, Bool.and_eq_true, Bool.or_eq_true, decide_eq_true_eq] at hB
    obtain ⟨hr, hf, hH, hB⟩ := hB
    obtain ⟨o, v, ho, hy, hk⟩ := h
    have hr' : i ∈ Region.ready md ops listed := by simpa using hr
    exact wpAnyT_first ho (Region.noSelect_spec hsel) hH (fun _ _ _ h => h.1) r.length listed a W inv (Region.free_spec ho hf) hr' hy hC (wpAnyT_of_head hsel r _ _ _ (inv.set hr') hB hC hk)
  | (false, i) :: r, listed, a, W, inv, hB, hC, h => by
    simp only [headB, Bool.and_eq_true, decide_eq_true_eq] at hB
    obtain ⟨hr, hB⟩ := hB
    obtain ⟨o, ho, hs⟩ := h
    refine ⟨fun h => (by rw [hr] at h; cases h), fun j hj => ?_⟩
    have hr' : i ∈ Region.ready md ops listed := by rw [hr]; simp
    rw [hr] at hj
    obtain rfl : j = i := by simpa using hj
    exact ⟨o, ho, hs.mono fun a' W' hC' hk => wpAnyT_of_head hsel r _ _ _ (inv.set hr') hB hC' hk⟩
def listedBy (n : Nat) (s : List (Bool × Nat)) : Array Bool := s.foldl (fun l p => l.setIfInBounds p.2 true) (Array.replicate n false)
/-- the region: its head s, in the worlds C; its tail t. -/
theorem wp_region_two {id : Nat} {a : Act} {w : World} (s t : List (Bool × Nat)) (C : World → Prop) (hm : P.follows .mixedOrders = true) (hs : Region.noSelect ops = true) (hl : s.length + t.length = ops.size) (hB : headB .any ops (listedBy ops.size s) s (Array.replicate ops.size false) = true)
    (hT : schedB .any ops t (listedBy ops.size s) = true)
    (hC : C { w with drawn := w.drawn + 1 }) (h : wpHeadT P ops C (wpSched P ops (fun _ => True) Q t) s a { w with drawn := w.drawn + 1 }) : (Code.region id ops true).wp P Q a w := by
  refine wp_region_any hm ?_
  rw [← hl]
  refine wpAny_of_T (g := t.length) (fun listed a W hh => ?_) _ _ _ _ (wpAnyT_of_head (H0 := listedBy ops.size s) hs s _ a _ (fun j oj _ hj => by rw [getD_replicate_false] at hj; cases hj) (by rw [hl]; exact hB) hC h)
  obtain ⟨rfl, hk⟩ := hh
  exact wpAny_of_S _ _ _ _ (wpAnyS_of_sched hs t _ a W hT trivial hk)
theorem headT_read {K : Act → World → Prop} {i : Nat} {r : List (Bool × Nat)} {o : Oper} {a : Act} {W : World} (ho : ops[i]? = some o) (v : Value) (hw : Region.wanted o (yielded ops a.tmps) = true) (hr : ∀ W, C W → (execOp a.eval o).run P W = .ok (.value v) W) (h : wpHeadT P ops C K r (a.put o.dst v) W) : wpHeadT P ops C K ((true, i) :: r) a W :=
  ⟨o, v, ho, ⟨hw, hr⟩, h⟩
theorem headT_call {K : Act → World → Prop} {i : Nat} {r : List (Bool × Nat)} {o : Oper} {a : Act} {W : World} (ho : ops[i]? = some o) (f : FuncId) (args : Array Value) (hw : Region.wanted o (yielded ops a.tmps) = true) (hr : (execOp a.eval o).run P W = .ok (.enter f args) W)
    (hc : Calls P f args W (fun e w' => ∃ v, e = .returned v ∧ C w' ∧ wpHeadT P ops C K r (a.put o.dst v) w')) : wpHeadT P ops C K ((false, i) :: r) a W :=
  ⟨o, ho, hw, .inr (.inr ⟨f, args, hr, hc⟩)⟩
theorem exec_append {o : Oper} {a : Act} {w w' : World} {v' : Value} (s x : Operand) (t tx : TypeId) (ho : o.op = .call { callee := .builtin .append, args := #[s, x], argTypes := #[t, tx] }) (v xv : Value) (hs : a.eval s = v) (hx : a.eval x = xv)
    (hr : (Builtin.append_ #[t, tx] o.type #[v, xv]).run P w = .ok v' w') : (execOp a.eval o).run P w = .ok (.value v') w' := by
  unfold execOp
  simp only [ho, resolve, invoke, builtin, Sem.run_bind, Sem.run_pure, Result.andThen_ok, List.map_toArray, List.map_cons, List.map_nil, hs, hx, hr]
theorem headT_value {K : Act → World → Prop} {i : Nat} {r : List (Bool × Nat)} {o : Oper} {a : Act} {W : World} (ho : ops[i]? = some o) (v : Value) (W' : World) (hw : Region.wanted o (yielded ops a.tmps) = true) (hr : (execOp a.eval o).run P W = .ok (.value v) W') (hC : C W') (h : wpHeadT P ops C K r (a.put o.dst v) W') : wpHeadT P ops C K ((false, i) :: r) a W :=
  ⟨o, ho, hw, .inl ⟨v, W', hr, hC, h⟩⟩
end
end Go.Proofs.YtbomnicnoanjlaaDoor

namespace Go.Proofs.YtbomnicnoanjlaaDoor
open Go Go.RowKit
set_option linter.unusedVariables false

section
variable {P : Program} {ops : Array Oper} {md : Region.Mode} {C : World → Prop} {Q : Exit → Act → World → Prop}

/-- the head, A being still to come: ahead of each call it may come; s2 waits for it. -/
def wpHeadA (P : Program) (ops : Array Oper) (C : World → Prop) (K : Act → World → Prop) (A : Nat) (s2 : List (Bool × Nat)) : List (Bool × Nat) → Act → World → Prop
  | [], a, W => ∃ o, ops[A]? = some o ∧ StepS P ops C o (wpHeadT P ops C K s2) a W
  | (true, i) :: r, a, W => ∃ o v, ops[i]? = some o ∧ YieldsS P ops C o v a ∧ wpHeadA P ops C K A s2 r (a.put o.dst v) W
  | (false, i) :: r, a, W => (∃ o, ops[i]? = some o ∧ StepS P ops C o (wpHeadA P ops C K A s2 r) a W) ∧ (∃ o, ops[A]? = some o ∧ StepS P ops C o (wpHeadT P ops C K ((false, i) :: r ++ s2)) a W)
def headAB (md : Region.Mode) (ops : Array Oper) (H0 : Array Bool) (A : Nat) (s2 : List (Bool × Nat)) : List (Bool × Nat) → Array Bool → Bool
  | [], listed => decide (Region.ready md ops listed = [A]) && headB md ops H0 s2 (listed.setIfInBounds A true)
  | (true, i) :: r, listed => (Region.ready md ops listed).contains i && (Region.free md ops listed i && ((waits md ops H0 i || decide (Region.ready md ops (H0.setIfInBounds i false) = [i])) && headAB md ops H0 A s2 r (listed.setIfInBounds i true)))
  | (false, i) :: r, listed => (Region.ready md ops listed).contains i && ((Region.ready md ops listed).all (fun j => decide (j = i) || decide (j = A)) && (headAB md ops H0 A s2 r (listed.setIfInBounds i true) && ((Region.ready md ops listed).contains A && headB md ops H0 ((false, i) :: r ++ s2) (listed.setIfInBounds A true))))
theorem wpAnyT_of_headA {K : Act → World → Prop} {H0 : Array Bool} {A : Nat} {s2 : List (Bool × Nat)} (hsel : Region.noSelect ops = true) : ∀ (s : List (Bool × Nat)) (listed : Array Bool) (a : Act) (W : World), Clos md ops listed → headAB md ops H0 A s2 s listed = true → C W → wpHeadA P ops C K A s2 s a W → wpAnyT P md ops C (fun l a W => l = H0 ∧ K a W) (s.length + s2.length + 1) listed a W
  | [], listed, a, W, inv, hB, hC, h => by
    simp only [headAB, Bool.and_eq_true, decide_eq_true_eq] at hB
    obtain ⟨hr, hH⟩ := hB
    have hr' : A ∈ Region.ready md ops listed := by rw [hr]; simp
    obtain ⟨o, ho, hs⟩ := h
    rw [List.length_nil, Nat.zero_add]
    refine ⟨fun h => (by rw [hr] at h; cases h), fun j hj => ?_⟩
    rw [hr] at hj
    obtain rfl : j = A := by simpa using hj
    exact ⟨o, ho, hs.mono fun a' W' hC' hk => wpAnyT_of_head hsel s2 _ _ _ (inv.set hr') hH hC' hk⟩
  | (true, i) :: r, listed, a, W, inv, hB, hC, h => by
    simp only [headAB, Bool.and_eq_true, Bool.or_eq_true, decide_eq_true_eq] at hB
    obtain ⟨hr, hf, hH, hB⟩ := hB
    obtain ⟨o, v, ho, hy, hk⟩ := h
    have hr' : i ∈ Region.ready md ops listed := by simpa using hr
    rw [show ((true, i) :: r).length + s2.length + 1 = (r.length + s2.length + 1) + 1 by rw [List.length_cons]; omega]
    exact wpAnyT_first ho (Region.noSelect_spec hsel) hH (fun _ _ _ h => h.1) (r.length + s2.length + 1) listed a W inv (Region.free_spec ho hf) hr' hy hC (wpAnyT_of_headA hsel r _ _ _ (inv.set hr') hB hC hk)
  | (false, i) :: r, listed, a, W, inv, hB, hC, h => by
    simp only [headAB, Bool.and_eq_true] at hB
    obtain ⟨hr, hall, hB1, hA, hB2⟩ := hB
    have hr' : i ∈ Region.ready md ops listed := by simpa using hr
    have hA' : A ∈ Region.ready md ops listed := by simpa using hA
    obtain ⟨⟨o, ho, hs⟩, ⟨oA, hoA, hsA⟩⟩ := h
    rw [show ((false, i) :: r).length + s2.length + 1 = (r.length + s2.length + 1) + 1 by rw [List.length_cons]; omega]
    refine ⟨fun h => (by rw [h] at hr'; cases hr'), fun j hj => ?_⟩
    have hj' := List.all_eq_true.1 hall j hj
    simp only [Bool.or_eq_true, decide_eq_true_eq] at hj'
    rcases hj' with rfl | rfl
    · exact ⟨o, ho, hs.mono fun a' W' hC' hk => wpAnyT_of_headA hsel r _ _ _ (inv.set hr') hB1 hC' hk⟩
    · refine ⟨oA, hoA, hsA.mono fun a' W' hC' hk => ?_⟩
      have := wpAnyT_of_head hsel ((false, i) :: r ++ s2) _ _ _ (inv.set hA') hB2 hC' hk
      rw [show ((false, i) :: r ++ s2).length = r.length + s2.length + 1 by simp] at this
      exact this
/-- the region: its head s in the worlds C, A coming at any time; then s2, in the worlds C; its tail t. -/
theorem wp_region_float {id : Nat} {a : Act} {w : World} (A : Nat) (s s2 t : List (Bool × Nat)) (C : World → Prop) (hm : P.follows .mixedOrders = true) (hs : Region.noSelect ops = true) (hl : s.length + s2.length + 1 + t.length = ops.size)
    (hB : headAB .any ops (listedBy ops.size (s ++ [(false, A)] ++ s2)) A s2 s (Array.replicate ops.size false) = true)
    (hT : schedB .any ops t (listedBy ops.size (s ++ [(false, A)] ++ s2)) = true)
    (hC : C { w with drawn := w.drawn + 1 }) (h : wpHeadA P ops C (wpSched P ops (fun _ => True) Q t) A s2 s a { w with drawn := w.drawn + 1 }) : (Code.region id ops true).wp P Q a w := by
  refine wp_region_any hm ?_
  rw [← hl]
  refine wpAny_of_T (g := t.length) (fun listed a W hh => ?_) _ _ _ _ (wpAnyT_of_headA (H0 := listedBy ops.size (s ++ [(false, A)] ++ s2)) hs s _ a _ (fun j oj _ hj => by rw [getD_replicate_false] at hj; cases hj) (by rw [hl]; exact hB) hC h)
  obtain ⟨rfl, hk⟩ := hh
  exact wpAny_of_S _ _ _ _ (wpAnyS_of_sched hs t _ a W hT trivial hk)
theorem headA_read {K : Act → World → Prop} {A i : Nat} {s2 r : List (Bool × Nat)} {o : Oper} {a : Act} {W : World} (ho : ops[i]? = some o) (v : Value) (hw : Region.wanted o (yielded ops a.tmps) = true) (hr : ∀ W, C W → (execOp a.eval o).run P W = .ok (.value v) W) (h : wpHeadA P ops C K A s2 r (a.put o.dst v) W) : wpHeadA P ops C K A s2 ((true, i) :: r) a W :=
  ⟨o, v, ho, ⟨hw, hr⟩, h⟩
theorem headA_call {K : Act → World → Prop} {A i : Nat} {s2 r : List (Bool × Nat)} {o oA : Oper} {a : Act} {W : World} (ho : ops[i]? = some o) (f : FuncId) (args : Array Value) (hw : Region.wanted o (yielded ops a.tmps) = true) (hr : (execOp a.eval o).run P W = .ok (.enter f args) W)
    (hc : Calls P f args W (fun e w' => ∃ v, e = .returned v ∧ C w' ∧ wpHeadA P ops C K A s2 r (a.put o.dst v) w'))
    (hoA : ops[A]? = some oA) (vA : Value) (WA : World) (hwA : Region.wanted oA (yielded ops a.tmps) = true) (hrA : (execOp a.eval oA).run P W = .ok (.value vA) WA) (hCA : C WA) (hA : wpHeadT P ops C K ((false, i) :: r ++ s2) (a.put oA.dst vA) WA) : wpHeadA P ops C K A s2 ((false, i) :: r) a W :=
  ⟨⟨o, ho, hw, .inr (.inr ⟨f, args, hr, hc⟩)⟩, ⟨oA, hoA, hwA, .inl ⟨vA, WA, hrA, hCA, hA⟩⟩⟩
theorem headT_skip {K : Act → World → Prop} {i : Nat} {r : List (Bool × Nat)} {o : Oper} {a : Act} {W : World} (ho : ops[i]? = some o) (W' : World) (hw : Region.wanted o (yielded ops a.tmps) = true) (hr : (execOp a.eval o).run P W = .ok .skip W') (hC : C W') (h : wpHeadT P ops C K r (a.put o.dst undef) W') : wpHeadT P ops C K ((false, i) :: r) a W :=
  ⟨o, ho, hw, .inr (.inl ⟨W', hr, hC, h⟩)⟩
theorem headA_last {K : Act → World → Prop} {A : Nat} {s2 : List (Bool × Nat)} {oA : Oper} {a : Act} {W : World} (hoA : ops[A]? = some oA) (vA : Value) (WA : World) (hwA : Region.wanted oA (yielded ops a.tmps) = true) (hrA : (execOp a.eval oA).run P W = .ok (.value vA) WA) (hCA : C WA) (hA : wpHeadT P ops C K s2 (a.put oA.dst vA) WA) : wpHeadA P ops C K A s2 [] a W :=
  ⟨oA, hoA, hwA, .inl ⟨vA, WA, hrA, hCA, hA⟩⟩
end
end Go.Proofs.YtbomnicnoanjlaaDoor

