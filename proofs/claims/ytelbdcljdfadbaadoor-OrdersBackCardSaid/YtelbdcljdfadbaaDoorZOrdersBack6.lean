/- slices.stableCmpFunc of at most 60 orders: stab_b1. · slices.stableCmpFunc of at most 60 orders: stab_c0. · slices.stableCmpFunc of at most 60 orders: stab_c1. · slices.stableCmpFunc of at most 60 orders: stab_d. · slices.SortStableFunc of at most 60 orders by compare. · orders.Last. · What orders.Last tells of the orders: those to train are all there, each unit's last word is, and no unit has two. · Orders that count, asked once more, are those that count; so are some of them. · Are two lists of orders the same? · What a walk is told of records api.Order that came in. · orders.names, as it is laid. · OrdersBack: the walk. -/
import Derived.Test.YtelbdcljdfadbaaDoorZOrdersBack5
import Derived.Deep.DeepCutAuto
import Derived.Test.YtelbdcljdfadbaaDoorZOrdersBack4
import Derived.Test.YtelbdcljdfadbaaDoorZOrdersBack1
import Derived.Laws.Closers25
import Derived.IntWalk
import Derived.BigRegion
import Derived.Deep.SlicePairs
import Derived.ChangeArms
import Derived.ProofKit
import Derived.OpenShut
import Derived.LaidLaws
import Derived.LaidHandle
import Derived.ChangeMaps5
namespace Go.Proofs.YtelbdcljdfadbaaDoor
open Go.RowKit Go.Proofs.YtelbdcljdfadbaaDoor.So
set_option linter.unusedVariables false
set_option linter.unusedSimpArgs false


set_option maxRecDepth 100000 in
set_option maxHeartbeats 16000000 in
theorem stab_b1 (U1 U2 : List T) (g cap n : Nat) (rest : List Value) (w : World) (h1 : U1.length = 20) (h2 : U2.length = n - 20) (hU : (U1 ++ U2).Pairwise (fun x y => x.2 < y.2)) (hr : Rb w g (fs (U1 ++ U2)) rest) (hn : 20 < n ∧ n < 40) :
    Calls Tryd.prog 83 #[.slice (some ⟨g, 0, none⟩) n cap, .int .i64 (n : Nat), .func (.func 54) #[] #[]] w (StabSays (U1 ++ U2) g rest w) := by
  have R0 : Hid (Rb w g (fs (U1 ++ U2)) rest) := hr
  have HU : Hid ((U1 ++ U2).Pairwise (fun x y => x.2 < y.2)) := hU
  have HL : Hid (U1.length = 20 ∧ U2.length = n - 20 ∧ n ≤ 60) := ⟨h1, h2, by omega⟩
  have le20 : (20 : Int) ≤ (n : Nat) := by omega
  have le40 : ¬ (40 : Int) ≤ (n : Nat) := by omega
  have lt20 : (20 : Int) < (n : Nat) := by omega
  have lt40 : ¬ (40 : Int) < (n : Nat) := by omega
  have le80 : ¬ (80 : Int) ≤ (n : Nat) := by omega
  have HN : Hid (20 < n ∧ n < 40) := hn
  clear hn
  clear hr hU h1 h2
  go_enter Tryd.func83, Tryd.ntmps83
  go_wp2_with fail
  refine wp_loop_rounds 2 ?_
  rw [rounds_succ]
  go_wp2_with fail
  have C : Calls _ _ _ _ _ := isort_i ([]) U1 (U2) g cap n 0 20 rest w ((List.pairwise_append.1 HU.out).1) (by have := R0.out; simpa [fs] using this) (by have q1 := HL.out; have q2 := HN.out;  (try simp only [List.length_append, List.length_nil]); omega) (by have := HL.out; omega) (by have q1 := HL.out; have q2 := HN.out;  (try simp only [List.length_append, List.length_nil]); omega) (by have q1 := HL.out; have q2 := HN.out;  (try simp only [List.length_append, List.length_nil]); omega)
  refine Calls.mono C ?_
  clear C
  rintro er v1 ⟨rfl, S1, hp, hs, hr, hk⟩
  have R1 : Hid (Rb v1 g (fs (S1 ++ U2)) rest) := by unfold Hid; simpa [fs] using hr
  have P1 : Hid (S1.Perm U1 ∧ S1.Pairwise lt) := ⟨hp, hs⟩
  have K1 : Hid (Kp g w v1) := hk
  clear hp hs hr hk
  go_wp2_with fail
  rw [rounds_succ]
  go_wp2_with fail
  have C : Calls _ _ _ _ _ := isort_i (S1) U2 ([]) g cap n 20 (n : Nat) rest v1 ((List.pairwise_append.1 HU.out).2.1) (by have := R1.out; simpa [fs] using this) (by have q1 := HL.out; have q2 := HN.out; have z1 := P1.out.1.length_eq; (try simp only [List.length_append, List.length_nil]); omega) (by have := HL.out; omega) (by have q1 := HL.out; have q2 := HN.out; have z1 := P1.out.1.length_eq; (try simp only [List.length_append, List.length_nil]); omega) (by have q1 := HL.out; have q2 := HN.out; have z1 := P1.out.1.length_eq; (try simp only [List.length_append, List.length_nil]); omega)
  refine Calls.mono C ?_
  clear C
  rintro er v2 ⟨rfl, S2, hp, hs, hr, hk⟩
  have R2 : Hid (Rb v2 g (fs (S1 ++ S2)) rest) := by unfold Hid; simpa [fs] using hr
  have P2 : Hid (S2.Perm U2 ∧ S2.Pairwise lt) := ⟨hp, hs⟩
  have K2 : Hid (Kp g w v2) := K1.out.trans hk
  clear hp hs hr hk
  go_wp2_with fail
  refine wp_loop_rounds 2 ?_
  rw [rounds_succ]
  go_wp2_with fail
  refine wp_loop_rounds 1 ?_
  rw [rounds_succ]
  go_wp2_with fail
  have TG : Hid (∀ x ∈ S1, ∀ y ∈ S2, x.2 < y.2) := fun x hx y hy => by have h1 := P1.out.1.mem_iff.1 hx; have h2 := P2.out.1.mem_iff.1 hy; have h3 := HU.out; have e : (U1) ++ (U2) ++ ([]) = U1 ++ U2 := (by simp); rw [← e, List.pairwise_append] at h3; exact (List.pairwise_append.1 h3.1).2.2 x h1 y h2
  have C : Calls _ _ _ _ _ := sym_i ([]) S1 S2 ([]) g cap n 0 20 (n : Nat) rest v2 (ne_of_pos (by have q1 := HL.out; have q2 := HN.out; have z0 := P1.out.1.length_eq; have z1 := P2.out.1.length_eq; (try simp only [List.length_append] at z0 z1); (try simp only [List.length_append, List.length_nil]); omega)) (ne_of_pos (by have q1 := HL.out; have q2 := HN.out; have z0 := P1.out.1.length_eq; have z1 := P2.out.1.length_eq; (try simp only [List.length_append] at z0 z1); (try simp only [List.length_append, List.length_nil]); omega)) P1.out.2 P2.out.2 TG.out (by have := R2.out; simpa [fs] using this) (by have q1 := HL.out; have q2 := HN.out; have z0 := P1.out.1.length_eq; have z1 := P2.out.1.length_eq; (try simp only [List.length_append] at z0 z1); (try simp only [List.length_append, List.length_nil]); omega) (by have := HL.out; omega) (by have q1 := HL.out; have q2 := HN.out; have z0 := P1.out.1.length_eq; have z1 := P2.out.1.length_eq; (try simp only [List.length_append] at z0 z1); (try simp only [List.length_append, List.length_nil]); omega) (by have q1 := HL.out; have q2 := HN.out; have z0 := P1.out.1.length_eq; have z1 := P2.out.1.length_eq; (try simp only [List.length_append] at z0 z1); (try simp only [List.length_append, List.length_nil]); omega) (by have q1 := HL.out; have q2 := HN.out; have z0 := P1.out.1.length_eq; have z1 := P2.out.1.length_eq; (try simp only [List.length_append] at z0 z1); (try simp only [List.length_append, List.length_nil]); omega)
  refine Calls.mono C ?_
  clear C
  rintro er v3 ⟨rfl, S3, hp, hs, hr, hk⟩
  have R3 : Hid (Rb v3 g (fs (S3)) rest) := by unfold Hid; simpa [fs] using hr
  have P3 : Hid (S3.Perm (U1 ++ U2) ∧ S3.Pairwise lt) := ⟨hp.trans (P1.out.1.append P2.out.1), hs⟩
  have K3 : Hid (Kp g w v3) := K2.out.trans hk
  clear hp hs hr hk TG
  go_wp2_with fail
  rw [rounds_succ]
  go_wp2_with fail
  go_wp2
  go_end0
  exact ⟨rfl, S3, P3.out.1, P3.out.2, R3.out, K3.out⟩
end Go.Proofs.YtelbdcljdfadbaaDoor

namespace Go.Proofs.YtelbdcljdfadbaaDoor
open Go.RowKit Go.Proofs.YtelbdcljdfadbaaDoor.So
set_option linter.unusedVariables false
set_option linter.unusedSimpArgs false


set_option maxRecDepth 100000 in
set_option maxHeartbeats 16000000 in
theorem stab_c0 (U1 U2 U3 : List T) (g cap n : Nat) (rest : List Value) (w : World) (h1 : U1.length = 20) (h2 : U2.length = 20) (h3 : U3.length = 0) (hU : (U1 ++ U2 ++ U3).Pairwise (fun x y => x.2 < y.2)) (hr : Rb w g (fs (U1 ++ U2 ++ U3)) rest) (hn : n = 40) :
    Calls Tryd.prog 83 #[.slice (some ⟨g, 0, none⟩) n cap, .int .i64 (n : Nat), .func (.func 54) #[] #[]] w (StabSays (U1 ++ U2 ++ U3) g rest w) := by
  have R0 : Hid (Rb w g (fs (U1 ++ U2 ++ U3)) rest) := hr
  have HU : Hid ((U1 ++ U2 ++ U3).Pairwise (fun x y => x.2 < y.2)) := hU
  have HL : Hid (U1.length = 20 ∧ U2.length = 20 ∧ U3.length = 0 ∧ n ≤ 60) := ⟨h1, h2, h3, by omega⟩
  have le20 : (20 : Int) ≤ (n : Nat) := by omega
  have le40 : (40 : Int) ≤ (n : Nat) := by omega
  have le60 : ¬ (60 : Int) ≤ (n : Nat) := by omega
  have lt20 : (20 : Int) < (n : Nat) := by omega
  have lt40 : ¬ (40 : Int) < (n : Nat) := by omega
  have le80 : ¬ (80 : Int) ≤ (n : Nat) := by omega
  have HN : Hid (n = 40) := hn
  clear hn
  clear hr hU h1 h2 h3
  go_enter Tryd.func83, Tryd.ntmps83
  go_wp2_with fail
  refine wp_loop_rounds 3 ?_
  rw [rounds_succ]
  go_wp2_with fail
  have C : Calls _ _ _ _ _ := isort_i ([]) U1 (U2 ++ U3) g cap n 0 20 rest w ((List.pairwise_append.1 (List.pairwise_append.1 HU.out).1).1) (by have := R0.out; simpa [fs] using this) (by have q1 := HL.out; have q2 := HN.out;  (try simp only [List.length_append, List.length_nil]); omega) (by have := HL.out; omega) (by have q1 := HL.out; have q2 := HN.out;  (try simp only [List.length_append, List.length_nil]); omega) (by have q1 := HL.out; have q2 := HN.out;  (try simp only [List.length_append, List.length_nil]); omega)
  refine Calls.mono C ?_
  clear C
  rintro er v1 ⟨rfl, S1, hp, hs, hr, hk⟩
  have R1 : Hid (Rb v1 g (fs (S1 ++ U2 ++ U3)) rest) := by unfold Hid; simpa [fs] using hr
  have P1 : Hid (S1.Perm U1 ∧ S1.Pairwise lt) := ⟨hp, hs⟩
  have K1 : Hid (Kp g w v1) := hk
  clear hp hs hr hk
  go_wp2_with fail
  rw [rounds_succ]
  go_wp2_with fail
  have C : Calls _ _ _ _ _ := isort_i (S1) U2 (U3) g cap n 20 40 rest v1 ((List.pairwise_append.1 (List.pairwise_append.1 HU.out).1).2.1) (by have := R1.out; simpa [fs] using this) (by have q1 := HL.out; have q2 := HN.out; have z1 := P1.out.1.length_eq; (try simp only [List.length_append, List.length_nil]); omega) (by have := HL.out; omega) (by have q1 := HL.out; have q2 := HN.out; have z1 := P1.out.1.length_eq; (try simp only [List.length_append, List.length_nil]); omega) (by have q1 := HL.out; have q2 := HN.out; have z1 := P1.out.1.length_eq; (try simp only [List.length_append, List.length_nil]); omega)
  refine Calls.mono C ?_
  clear C
  rintro er v2 ⟨rfl, S2, hp, hs, hr, hk⟩
  have R2 : Hid (Rb v2 g (fs (S1 ++ S2 ++ U3)) rest) := by unfold Hid; simpa [fs] using hr
  have P2 : Hid (S2.Perm U2 ∧ S2.Pairwise lt) := ⟨hp, hs⟩
  have K2 : Hid (Kp g w v2) := K1.out.trans hk
  clear hp hs hr hk
  go_wp2_with fail
  rw [rounds_succ]
  go_wp2_with fail
  have C : Calls _ _ _ _ _ := isort_i (S1 ++ S2) U3 ([]) g cap n 40 (n : Nat) rest v2 ((List.pairwise_append.1 HU.out).2.1) (by have := R2.out; simpa [fs] using this) (by have q1 := HL.out; have q2 := HN.out; have z1 := P1.out.1.length_eq; have z2 := P2.out.1.length_eq; (try simp only [List.length_append, List.length_nil]); omega) (by have := HL.out; omega) (by have q1 := HL.out; have q2 := HN.out; have z1 := P1.out.1.length_eq; have z2 := P2.out.1.length_eq; (try simp only [List.length_append, List.length_nil]); omega) (by have q1 := HL.out; have q2 := HN.out; have z1 := P1.out.1.length_eq; have z2 := P2.out.1.length_eq; (try simp only [List.length_append, List.length_nil]); omega)
  refine Calls.mono C ?_
  clear C
  rintro er v3 ⟨rfl, S3, hp, hs, hr, hk⟩
  have R3 : Hid (Rb v3 g (fs (S1 ++ S2 ++ S3)) rest) := by unfold Hid; simpa [fs] using hr
  have P3 : Hid (S3.Perm U3 ∧ S3.Pairwise lt) := ⟨hp, hs⟩
  have K3 : Hid (Kp g w v3) := K2.out.trans hk
  clear hp hs hr hk
  go_wp2_with fail
  refine wp_loop_rounds 2 ?_
  rw [rounds_succ]
  go_wp2_with fail
  refine wp_loop_rounds 2 ?_
  rw [rounds_succ]
  go_wp2_with fail
  have TG : Hid (∀ x ∈ S1, ∀ y ∈ S2, x.2 < y.2) := fun x hx y hy => by have h1 := P1.out.1.mem_iff.1 hx; have h2 := P2.out.1.mem_iff.1 hy; have h3 := HU.out; have e : (U1) ++ (U2) ++ (U3) = U1 ++ U2 ++ U3 := (by simp); rw [← e, List.pairwise_append] at h3; exact (List.pairwise_append.1 h3.1).2.2 x h1 y h2
  have C : Calls _ _ _ _ _ := sym_i ([]) S1 S2 (S3) g cap n 0 20 40 rest v3 (ne_of_pos (by have q1 := HL.out; have q2 := HN.out; have z0 := P1.out.1.length_eq; have z1 := P2.out.1.length_eq; have z2 := P3.out.1.length_eq; (try simp only [List.length_append] at z0 z1 z2); (try simp only [List.length_append, List.length_nil]); omega)) (ne_of_pos (by have q1 := HL.out; have q2 := HN.out; have z0 := P1.out.1.length_eq; have z1 := P2.out.1.length_eq; have z2 := P3.out.1.length_eq; (try simp only [List.length_append] at z0 z1 z2); (try simp only [List.length_append, List.length_nil]); omega)) P1.out.2 P2.out.2 TG.out (by have := R3.out; simpa [fs] using this) (by have q1 := HL.out; have q2 := HN.out; have z0 := P1.out.1.length_eq; have z1 := P2.out.1.length_eq; have z2 := P3.out.1.length_eq; (try simp only [List.length_append] at z0 z1 z2); (try simp only [List.length_append, List.length_nil]); omega) (by have := HL.out; omega) (by have q1 := HL.out; have q2 := HN.out; have z0 := P1.out.1.length_eq; have z1 := P2.out.1.length_eq; have z2 := P3.out.1.length_eq; (try simp only [List.length_append] at z0 z1 z2); (try simp only [List.length_append, List.length_nil]); omega) (by have q1 := HL.out; have q2 := HN.out; have z0 := P1.out.1.length_eq; have z1 := P2.out.1.length_eq; have z2 := P3.out.1.length_eq; (try simp only [List.length_append] at z0 z1 z2); (try simp only [List.length_append, List.length_nil]); omega) (by have q1 := HL.out; have q2 := HN.out; have z0 := P1.out.1.length_eq; have z1 := P2.out.1.length_eq; have z2 := P3.out.1.length_eq; (try simp only [List.length_append] at z0 z1 z2); (try simp only [List.length_append, List.length_nil]); omega)
  refine Calls.mono C ?_
  clear C
  rintro er v4 ⟨rfl, S4, hp, hs, hr, hk⟩
  have R4 : Hid (Rb v4 g (fs (S4 ++ S3)) rest) := by unfold Hid; simpa [fs] using hr
  have P4 : Hid (S4.Perm (U1 ++ U2) ∧ S4.Pairwise lt) := ⟨hp.trans (P1.out.1.append P2.out.1), hs⟩
  have K4 : Hid (Kp g w v4) := K3.out.trans hk
  clear hp hs hr hk TG
  go_wp2_with fail
  rw [rounds_succ]
  go_wp2_with fail
  rw [rounds_succ]
  go_wp2_with fail
  go_wp2
  go_end0
  have eS3 : S3 = [] := List.length_eq_zero_iff.1 (by have q1 := HL.out; have q2 := HN.out; have z := P3.out.1.length_eq; omega)
  have eU3 : U3 = [] := List.length_eq_zero_iff.1 (by have q1 := HL.out; have q2 := HN.out; omega)
  refine ⟨rfl, S4, ?_, P4.out.2, ?_, K4.out⟩
  · have h := P4.out.1
    simpa [eU3] using h
  · have h := R4.out
    rw [eS3] at h
    simpa using h
end Go.Proofs.YtelbdcljdfadbaaDoor

namespace Go.Proofs.YtelbdcljdfadbaaDoor
open Go.RowKit Go.Proofs.YtelbdcljdfadbaaDoor.So
set_option linter.unusedVariables false
set_option linter.unusedSimpArgs false


set_option maxRecDepth 100000 in
set_option maxHeartbeats 16000000 in
theorem stab_c1 (U1 U2 U3 : List T) (g cap n : Nat) (rest : List Value) (w : World) (h1 : U1.length = 20) (h2 : U2.length = 20) (h3 : U3.length = n - 40) (hU : (U1 ++ U2 ++ U3).Pairwise (fun x y => x.2 < y.2)) (hr : Rb w g (fs (U1 ++ U2 ++ U3)) rest) (hn : 40 < n ∧ n < 60) :
    Calls Tryd.prog 83 #[.slice (some ⟨g, 0, none⟩) n cap, .int .i64 (n : Nat), .func (.func 54) #[] #[]] w (StabSays (U1 ++ U2 ++ U3) g rest w) := by
  have R0 : Hid (Rb w g (fs (U1 ++ U2 ++ U3)) rest) := hr
  have HU : Hid ((U1 ++ U2 ++ U3).Pairwise (fun x y => x.2 < y.2)) := hU
  have HL : Hid (U1.length = 20 ∧ U2.length = 20 ∧ U3.length = n - 40 ∧ n ≤ 60) := ⟨h1, h2, h3, by omega⟩
  have le20 : (20 : Int) ≤ (n : Nat) := by omega
  have le40 : (40 : Int) ≤ (n : Nat) := by omega
  have le60 : ¬ (60 : Int) ≤ (n : Nat) := by omega
  have lt20 : (20 : Int) < (n : Nat) := by omega
  have lt40 : (40 : Int) < (n : Nat) := by omega
  have lt80 : ¬ (80 : Int) < (n : Nat) := by omega
  have le80 : ¬ (80 : Int) ≤ (n : Nat) := by omega
  have HN : Hid (40 < n ∧ n < 60) := hn
  clear hn
  clear hr hU h1 h2 h3
  go_enter Tryd.func83, Tryd.ntmps83
  go_wp2_with fail
  refine wp_loop_rounds 3 ?_
  rw [rounds_succ]
  go_wp2_with fail
  have C : Calls _ _ _ _ _ := isort_i ([]) U1 (U2 ++ U3) g cap n 0 20 rest w ((List.pairwise_append.1 (List.pairwise_append.1 HU.out).1).1) (by have := R0.out; simpa [fs] using this) (by have q1 := HL.out; have q2 := HN.out;  (try simp only [List.length_append, List.length_nil]); omega) (by have := HL.out; omega) (by have q1 := HL.out; have q2 := HN.out;  (try simp only [List.length_append, List.length_nil]); omega) (by have q1 := HL.out; have q2 := HN.out;  (try simp only [List.length_append, List.length_nil]); omega)
  refine Calls.mono C ?_
  clear C
  rintro er v1 ⟨rfl, S1, hp, hs, hr, hk⟩
  have R1 : Hid (Rb v1 g (fs (S1 ++ U2 ++ U3)) rest) := by unfold Hid; simpa [fs] using hr
  have P1 : Hid (S1.Perm U1 ∧ S1.Pairwise lt) := ⟨hp, hs⟩
  have K1 : Hid (Kp g w v1) := hk
  clear hp hs hr hk
  go_wp2_with fail
  rw [rounds_succ]
  go_wp2_with fail
  have C : Calls _ _ _ _ _ := isort_i (S1) U2 (U3) g cap n 20 40 rest v1 ((List.pairwise_append.1 (List.pairwise_append.1 HU.out).1).2.1) (by have := R1.out; simpa [fs] using this) (by have q1 := HL.out; have q2 := HN.out; have z1 := P1.out.1.length_eq; (try simp only [List.length_append, List.length_nil]); omega) (by have := HL.out; omega) (by have q1 := HL.out; have q2 := HN.out; have z1 := P1.out.1.length_eq; (try simp only [List.length_append, List.length_nil]); omega) (by have q1 := HL.out; have q2 := HN.out; have z1 := P1.out.1.length_eq; (try simp only [List.length_append, List.length_nil]); omega)
  refine Calls.mono C ?_
  clear C
  rintro er v2 ⟨rfl, S2, hp, hs, hr, hk⟩
  have R2 : Hid (Rb v2 g (fs (S1 ++ S2 ++ U3)) rest) := by unfold Hid; simpa [fs] using hr
  have P2 : Hid (S2.Perm U2 ∧ S2.Pairwise lt) := ⟨hp, hs⟩
  have K2 : Hid (Kp g w v2) := K1.out.trans hk
  clear hp hs hr hk
  go_wp2_with fail
  rw [rounds_succ]
  go_wp2_with fail
  have C : Calls _ _ _ _ _ := isort_i (S1 ++ S2) U3 ([]) g cap n 40 (n : Nat) rest v2 ((List.pairwise_append.1 HU.out).2.1) (by have := R2.out; simpa [fs] using this) (by have q1 := HL.out; have q2 := HN.out; have z1 := P1.out.1.length_eq; have z2 := P2.out.1.length_eq; (try simp only [List.length_append, List.length_nil]); omega) (by have := HL.out; omega) (by have q1 := HL.out; have q2 := HN.out; have z1 := P1.out.1.length_eq; have z2 := P2.out.1.length_eq; (try simp only [List.length_append, List.length_nil]); omega) (by have q1 := HL.out; have q2 := HN.out; have z1 := P1.out.1.length_eq; have z2 := P2.out.1.length_eq; (try simp only [List.length_append, List.length_nil]); omega)
  refine Calls.mono C ?_
  clear C
  rintro er v3 ⟨rfl, S3, hp, hs, hr, hk⟩
  have R3 : Hid (Rb v3 g (fs (S1 ++ S2 ++ S3)) rest) := by unfold Hid; simpa [fs] using hr
  have P3 : Hid (S3.Perm U3 ∧ S3.Pairwise lt) := ⟨hp, hs⟩
  have K3 : Hid (Kp g w v3) := K2.out.trans hk
  clear hp hs hr hk
  go_wp2_with fail
  refine wp_loop_rounds 3 ?_
  rw [rounds_succ]
  go_wp2_with fail
  refine wp_loop_rounds 2 ?_
  rw [rounds_succ]
  go_wp2_with fail
  have TG : Hid (∀ x ∈ S1, ∀ y ∈ S2, x.2 < y.2) := fun x hx y hy => by have h1 := P1.out.1.mem_iff.1 hx; have h2 := P2.out.1.mem_iff.1 hy; have h3 := HU.out; have e : (U1) ++ (U2) ++ (U3) = U1 ++ U2 ++ U3 := (by simp); rw [← e, List.pairwise_append] at h3; exact (List.pairwise_append.1 h3.1).2.2 x h1 y h2
  have C : Calls _ _ _ _ _ := sym_i ([]) S1 S2 (S3) g cap n 0 20 40 rest v3 (ne_of_pos (by have q1 := HL.out; have q2 := HN.out; have z0 := P1.out.1.length_eq; have z1 := P2.out.1.length_eq; have z2 := P3.out.1.length_eq; (try simp only [List.length_append] at z0 z1 z2); (try simp only [List.length_append, List.length_nil]); omega)) (ne_of_pos (by have q1 := HL.out; have q2 := HN.out; have z0 := P1.out.1.length_eq; have z1 := P2.out.1.length_eq; have z2 := P3.out.1.length_eq; (try simp only [List.length_append] at z0 z1 z2); (try simp only [List.length_append, List.length_nil]); omega)) P1.out.2 P2.out.2 TG.out (by have := R3.out; simpa [fs] using this) (by have q1 := HL.out; have q2 := HN.out; have z0 := P1.out.1.length_eq; have z1 := P2.out.1.length_eq; have z2 := P3.out.1.length_eq; (try simp only [List.length_append] at z0 z1 z2); (try simp only [List.length_append, List.length_nil]); omega) (by have := HL.out; omega) (by have q1 := HL.out; have q2 := HN.out; have z0 := P1.out.1.length_eq; have z1 := P2.out.1.length_eq; have z2 := P3.out.1.length_eq; (try simp only [List.length_append] at z0 z1 z2); (try simp only [List.length_append, List.length_nil]); omega) (by have q1 := HL.out; have q2 := HN.out; have z0 := P1.out.1.length_eq; have z1 := P2.out.1.length_eq; have z2 := P3.out.1.length_eq; (try simp only [List.length_append] at z0 z1 z2); (try simp only [List.length_append, List.length_nil]); omega) (by have q1 := HL.out; have q2 := HN.out; have z0 := P1.out.1.length_eq; have z1 := P2.out.1.length_eq; have z2 := P3.out.1.length_eq; (try simp only [List.length_append] at z0 z1 z2); (try simp only [List.length_append, List.length_nil]); omega)
  refine Calls.mono C ?_
  clear C
  rintro er v4 ⟨rfl, S4, hp, hs, hr, hk⟩
  have R4 : Hid (Rb v4 g (fs (S4 ++ S3)) rest) := by unfold Hid; simpa [fs] using hr
  have P4 : Hid (S4.Perm (U1 ++ U2) ∧ S4.Pairwise lt) := ⟨hp.trans (P1.out.1.append P2.out.1), hs⟩
  have K4 : Hid (Kp g w v4) := K3.out.trans hk
  clear hp hs hr hk TG
  go_wp2_with fail
  rw [rounds_succ]
  go_wp2_with fail
  rw [rounds_succ]
  go_wp2_with fail
  refine wp_loop_rounds 1 ?_
  rw [rounds_succ]
  go_wp2_with fail
  have TG : Hid (∀ x ∈ S4, ∀ y ∈ S3, x.2 < y.2) := fun x hx y hy => by have h1 := P4.out.1.mem_iff.1 hx; have h2 := P3.out.1.mem_iff.1 hy; have h3 := HU.out; have e : (U1 ++ U2) ++ (U3) ++ ([]) = U1 ++ U2 ++ U3 := (by simp); rw [← e, List.pairwise_append] at h3; exact (List.pairwise_append.1 h3.1).2.2 x h1 y h2
  have C : Calls _ _ _ _ _ := sym_i ([]) S4 S3 ([]) g cap n 0 40 (n : Nat) rest v4 (ne_of_pos (by have q1 := HL.out; have q2 := HN.out; have z0 := P4.out.1.length_eq; have z1 := P3.out.1.length_eq; (try simp only [List.length_append] at z0 z1); (try simp only [List.length_append, List.length_nil]); omega)) (ne_of_pos (by have q1 := HL.out; have q2 := HN.out; have z0 := P4.out.1.length_eq; have z1 := P3.out.1.length_eq; (try simp only [List.length_append] at z0 z1); (try simp only [List.length_append, List.length_nil]); omega)) P4.out.2 P3.out.2 TG.out (by have := R4.out; simpa [fs] using this) (by have q1 := HL.out; have q2 := HN.out; have z0 := P4.out.1.length_eq; have z1 := P3.out.1.length_eq; (try simp only [List.length_append] at z0 z1); (try simp only [List.length_append, List.length_nil]); omega) (by have := HL.out; omega) (by have q1 := HL.out; have q2 := HN.out; have z0 := P4.out.1.length_eq; have z1 := P3.out.1.length_eq; (try simp only [List.length_append] at z0 z1); (try simp only [List.length_append, List.length_nil]); omega) (by have q1 := HL.out; have q2 := HN.out; have z0 := P4.out.1.length_eq; have z1 := P3.out.1.length_eq; (try simp only [List.length_append] at z0 z1); (try simp only [List.length_append, List.length_nil]); omega) (by have q1 := HL.out; have q2 := HN.out; have z0 := P4.out.1.length_eq; have z1 := P3.out.1.length_eq; (try simp only [List.length_append] at z0 z1); (try simp only [List.length_append, List.length_nil]); omega)
  refine Calls.mono C ?_
  clear C
  rintro er v5 ⟨rfl, S5, hp, hs, hr, hk⟩
  have R5 : Hid (Rb v5 g (fs (S5)) rest) := by unfold Hid; simpa [fs] using hr
  have P5 : Hid (S5.Perm ((U1 ++ U2) ++ U3) ∧ S5.Pairwise lt) := ⟨hp.trans (P4.out.1.append P3.out.1), hs⟩
  have K5 : Hid (Kp g w v5) := K4.out.trans hk
  clear hp hs hr hk TG
  go_wp2_with fail
  rw [rounds_succ]
  go_wp2_with fail
  go_wp2
  go_end0
  exact ⟨rfl, S5, P5.out.1, P5.out.2, R5.out, K5.out⟩
end Go.Proofs.YtelbdcljdfadbaaDoor

namespace Go.Proofs.YtelbdcljdfadbaaDoor
open Go.RowKit Go.Proofs.YtelbdcljdfadbaaDoor.So
set_option linter.unusedVariables false
set_option linter.unusedSimpArgs false


set_option maxRecDepth 100000 in
set_option maxHeartbeats 16000000 in
theorem stab_d (U1 U2 U3 U4 : List T) (g cap n : Nat) (rest : List Value) (w : World) (h1 : U1.length = 20) (h2 : U2.length = 20) (h3 : U3.length = 20) (h4 : U4.length = 0) (hU : (U1 ++ U2 ++ U3 ++ U4).Pairwise (fun x y => x.2 < y.2)) (hr : Rb w g (fs (U1 ++ U2 ++ U3 ++ U4)) rest) (hn : n = 60) :
    Calls Tryd.prog 83 #[.slice (some ⟨g, 0, none⟩) n cap, .int .i64 (n : Nat), .func (.func 54) #[] #[]] w (StabSays (U1 ++ U2 ++ U3 ++ U4) g rest w) := by
  have R0 : Hid (Rb w g (fs (U1 ++ U2 ++ U3 ++ U4)) rest) := hr
  have HU : Hid ((U1 ++ U2 ++ U3 ++ U4).Pairwise (fun x y => x.2 < y.2)) := hU
  have HL : Hid (U1.length = 20 ∧ U2.length = 20 ∧ U3.length = 20 ∧ U4.length = 0 ∧ n ≤ 60) := ⟨h1, h2, h3, h4, by omega⟩
  have le20 : (20 : Int) ≤ (n : Nat) := by omega
  have le40 : (40 : Int) ≤ (n : Nat) := by omega
  have le60 : (60 : Int) ≤ (n : Nat) := by omega
  have le80 : ¬ (80 : Int) ≤ (n : Nat) := by omega
  have lt20 : (20 : Int) < (n : Nat) := by omega
  have lt40 : (40 : Int) < (n : Nat) := by omega
  have lt80 : ¬ (80 : Int) < (n : Nat) := by omega
  have lt60 : ¬ (60 : Int) < (n : Nat) := by omega
  have HN : Hid (n = 60) := hn
  clear hn
  clear hr hU h1 h2 h3 h4
  go_enter Tryd.func83, Tryd.ntmps83
  go_wp2_with fail
  refine wp_loop_rounds 4 ?_
  rw [rounds_succ]
  go_wp2_with fail
  have C : Calls _ _ _ _ _ := isort_i ([]) U1 (U2 ++ U3 ++ U4) g cap n 0 20 rest w ((List.pairwise_append.1 (List.pairwise_append.1 (List.pairwise_append.1 HU.out).1).1).1) (by have := R0.out; simpa [fs] using this) (by have q1 := HL.out; have q2 := HN.out;  (try simp only [List.length_append, List.length_nil]); omega) (by have := HL.out; omega) (by have q1 := HL.out; have q2 := HN.out;  (try simp only [List.length_append, List.length_nil]); omega) (by have q1 := HL.out; have q2 := HN.out;  (try simp only [List.length_append, List.length_nil]); omega)
  refine Calls.mono C ?_
  clear C
  rintro er v1 ⟨rfl, S1, hp, hs, hr, hk⟩
  have R1 : Hid (Rb v1 g (fs (S1 ++ U2 ++ U3 ++ U4)) rest) := by unfold Hid; simpa [fs] using hr
  have P1 : Hid (S1.Perm U1 ∧ S1.Pairwise lt) := ⟨hp, hs⟩
  have K1 : Hid (Kp g w v1) := hk
  clear hp hs hr hk
  go_wp2_with fail
  rw [rounds_succ]
  go_wp2_with fail
  have C : Calls _ _ _ _ _ := isort_i (S1) U2 (U3 ++ U4) g cap n 20 40 rest v1 ((List.pairwise_append.1 (List.pairwise_append.1 (List.pairwise_append.1 HU.out).1).1).2.1) (by have := R1.out; simpa [fs] using this) (by have q1 := HL.out; have q2 := HN.out; have z1 := P1.out.1.length_eq; (try simp only [List.length_append, List.length_nil]); omega) (by have := HL.out; omega) (by have q1 := HL.out; have q2 := HN.out; have z1 := P1.out.1.length_eq; (try simp only [List.length_append, List.length_nil]); omega) (by have q1 := HL.out; have q2 := HN.out; have z1 := P1.out.1.length_eq; (try simp only [List.length_append, List.length_nil]); omega)
  refine Calls.mono C ?_
  clear C
  rintro er v2 ⟨rfl, S2, hp, hs, hr, hk⟩
  have R2 : Hid (Rb v2 g (fs (S1 ++ S2 ++ U3 ++ U4)) rest) := by unfold Hid; simpa [fs] using hr
  have P2 : Hid (S2.Perm U2 ∧ S2.Pairwise lt) := ⟨hp, hs⟩
  have K2 : Hid (Kp g w v2) := K1.out.trans hk
  clear hp hs hr hk
  go_wp2_with fail
  rw [rounds_succ]
  go_wp2_with fail
  have C : Calls _ _ _ _ _ := isort_i (S1 ++ S2) U3 (U4) g cap n 40 60 rest v2 ((List.pairwise_append.1 (List.pairwise_append.1 HU.out).1).2.1) (by have := R2.out; simpa [fs] using this) (by have q1 := HL.out; have q2 := HN.out; have z1 := P1.out.1.length_eq; have z2 := P2.out.1.length_eq; (try simp only [List.length_append, List.length_nil]); omega) (by have := HL.out; omega) (by have q1 := HL.out; have q2 := HN.out; have z1 := P1.out.1.length_eq; have z2 := P2.out.1.length_eq; (try simp only [List.length_append, List.length_nil]); omega) (by have q1 := HL.out; have q2 := HN.out; have z1 := P1.out.1.length_eq; have z2 := P2.out.1.length_eq; (try simp only [List.length_append, List.length_nil]); omega)
  refine Calls.mono C ?_
  clear C
  rintro er v3 ⟨rfl, S3, hp, hs, hr, hk⟩
  have R3 : Hid (Rb v3 g (fs (S1 ++ S2 ++ S3 ++ U4)) rest) := by unfold Hid; simpa [fs] using hr
  have P3 : Hid (S3.Perm U3 ∧ S3.Pairwise lt) := ⟨hp, hs⟩
  have K3 : Hid (Kp g w v3) := K2.out.trans hk
  clear hp hs hr hk
  go_wp2_with fail
  rw [rounds_succ]
  go_wp2_with fail
  have C : Calls _ _ _ _ _ := isort_i (S1 ++ S2 ++ S3) U4 ([]) g cap n 60 (n : Nat) rest v3 ((List.pairwise_append.1 HU.out).2.1) (by have := R3.out; simpa [fs] using this) (by have q1 := HL.out; have q2 := HN.out; have z1 := P1.out.1.length_eq; have z2 := P2.out.1.length_eq; have z3 := P3.out.1.length_eq; (try simp only [List.length_append, List.length_nil]); omega) (by have := HL.out; omega) (by have q1 := HL.out; have q2 := HN.out; have z1 := P1.out.1.length_eq; have z2 := P2.out.1.length_eq; have z3 := P3.out.1.length_eq; (try simp only [List.length_append, List.length_nil]); omega) (by have q1 := HL.out; have q2 := HN.out; have z1 := P1.out.1.length_eq; have z2 := P2.out.1.length_eq; have z3 := P3.out.1.length_eq; (try simp only [List.length_append, List.length_nil]); omega)
  refine Calls.mono C ?_
  clear C
  rintro er v4 ⟨rfl, S4, hp, hs, hr, hk⟩
  have R4 : Hid (Rb v4 g (fs (S1 ++ S2 ++ S3 ++ S4)) rest) := by unfold Hid; simpa [fs] using hr
  have P4 : Hid (S4.Perm U4 ∧ S4.Pairwise lt) := ⟨hp, hs⟩
  have K4 : Hid (Kp g w v4) := K3.out.trans hk
  clear hp hs hr hk
  go_wp2_with fail
  refine wp_loop_rounds 3 ?_
  rw [rounds_succ]
  go_wp2_with fail
  refine wp_loop_rounds 2 ?_
  rw [rounds_succ]
  go_wp2_with fail
  have TG : Hid (∀ x ∈ S1, ∀ y ∈ S2, x.2 < y.2) := fun x hx y hy => by have h1 := P1.out.1.mem_iff.1 hx; have h2 := P2.out.1.mem_iff.1 hy; have h3 := HU.out; have e : (U1) ++ (U2) ++ (U3 ++ U4) = U1 ++ U2 ++ U3 ++ U4 := (by simp); rw [← e, List.pairwise_append] at h3; exact (List.pairwise_append.1 h3.1).2.2 x h1 y h2
  have C : Calls _ _ _ _ _ := sym_i ([]) S1 S2 (S3 ++ S4) g cap n 0 20 40 rest v4 (ne_of_pos (by have q1 := HL.out; have q2 := HN.out; have z0 := P1.out.1.length_eq; have z1 := P2.out.1.length_eq; have z2 := P3.out.1.length_eq; have z3 := P4.out.1.length_eq; (try simp only [List.length_append] at z0 z1 z2 z3); (try simp only [List.length_append, List.length_nil]); omega)) (ne_of_pos (by have q1 := HL.out; have q2 := HN.out; have z0 := P1.out.1.length_eq; have z1 := P2.out.1.length_eq; have z2 := P3.out.1.length_eq; have z3 := P4.out.1.length_eq; (try simp only [List.length_append] at z0 z1 z2 z3); (try simp only [List.length_append, List.length_nil]); omega)) P1.out.2 P2.out.2 TG.out (by have := R4.out; simpa [fs] using this) (by have q1 := HL.out; have q2 := HN.out; have z0 := P1.out.1.length_eq; have z1 := P2.out.1.length_eq; have z2 := P3.out.1.length_eq; have z3 := P4.out.1.length_eq; (try simp only [List.length_append] at z0 z1 z2 z3); (try simp only [List.length_append, List.length_nil]); omega) (by have := HL.out; omega) (by have q1 := HL.out; have q2 := HN.out; have z0 := P1.out.1.length_eq; have z1 := P2.out.1.length_eq; have z2 := P3.out.1.length_eq; have z3 := P4.out.1.length_eq; (try simp only [List.length_append] at z0 z1 z2 z3); (try simp only [List.length_append, List.length_nil]); omega) (by have q1 := HL.out; have q2 := HN.out; have z0 := P1.out.1.length_eq; have z1 := P2.out.1.length_eq; have z2 := P3.out.1.length_eq; have z3 := P4.out.1.length_eq; (try simp only [List.length_append] at z0 z1 z2 z3); (try simp only [List.length_append, List.length_nil]); omega) (by have q1 := HL.out; have q2 := HN.out; have z0 := P1.out.1.length_eq; have z1 := P2.out.1.length_eq; have z2 := P3.out.1.length_eq; have z3 := P4.out.1.length_eq; (try simp only [List.length_append] at z0 z1 z2 z3); (try simp only [List.length_append, List.length_nil]); omega)
  refine Calls.mono C ?_
  clear C
  rintro er v5 ⟨rfl, S5, hp, hs, hr, hk⟩
  have R5 : Hid (Rb v5 g (fs (S5 ++ S3 ++ S4)) rest) := by unfold Hid; simpa [fs] using hr
  have P5 : Hid (S5.Perm (U1 ++ U2) ∧ S5.Pairwise lt) := ⟨hp.trans (P1.out.1.append P2.out.1), hs⟩
  have K5 : Hid (Kp g w v5) := K4.out.trans hk
  clear hp hs hr hk TG
  go_wp2_with fail
  rw [rounds_succ]
  go_wp2_with fail
  rw [rounds_succ]
  go_wp2_with fail
  refine wp_loop_rounds 1 ?_
  rw [rounds_succ]
  go_wp2_with fail
  have TG : Hid (∀ x ∈ S5, ∀ y ∈ S3, x.2 < y.2) := fun x hx y hy => by have h1 := P5.out.1.mem_iff.1 hx; have h2 := P3.out.1.mem_iff.1 hy; have h3 := HU.out; have e : (U1 ++ U2) ++ (U3) ++ (U4) = U1 ++ U2 ++ U3 ++ U4 := (by simp); rw [← e, List.pairwise_append] at h3; exact (List.pairwise_append.1 h3.1).2.2 x h1 y h2
  have C : Calls _ _ _ _ _ := sym_i ([]) S5 S3 (S4) g cap n 0 40 (n : Nat) rest v5 (ne_of_pos (by have q1 := HL.out; have q2 := HN.out; have z0 := P5.out.1.length_eq; have z1 := P3.out.1.length_eq; have z2 := P4.out.1.length_eq; (try simp only [List.length_append] at z0 z1 z2); (try simp only [List.length_append, List.length_nil]); omega)) (ne_of_pos (by have q1 := HL.out; have q2 := HN.out; have z0 := P5.out.1.length_eq; have z1 := P3.out.1.length_eq; have z2 := P4.out.1.length_eq; (try simp only [List.length_append] at z0 z1 z2); (try simp only [List.length_append, List.length_nil]); omega)) P5.out.2 P3.out.2 TG.out (by have := R5.out; simpa [fs] using this) (by have q1 := HL.out; have q2 := HN.out; have z0 := P5.out.1.length_eq; have z1 := P3.out.1.length_eq; have z2 := P4.out.1.length_eq; (try simp only [List.length_append] at z0 z1 z2); (try simp only [List.length_append, List.length_nil]); omega) (by have := HL.out; omega) (by have q1 := HL.out; have q2 := HN.out; have z0 := P5.out.1.length_eq; have z1 := P3.out.1.length_eq; have z2 := P4.out.1.length_eq; (try simp only [List.length_append] at z0 z1 z2); (try simp only [List.length_append, List.length_nil]); omega) (by have q1 := HL.out; have q2 := HN.out; have z0 := P5.out.1.length_eq; have z1 := P3.out.1.length_eq; have z2 := P4.out.1.length_eq; (try simp only [List.length_append] at z0 z1 z2); (try simp only [List.length_append, List.length_nil]); omega) (by have q1 := HL.out; have q2 := HN.out; have z0 := P5.out.1.length_eq; have z1 := P3.out.1.length_eq; have z2 := P4.out.1.length_eq; (try simp only [List.length_append] at z0 z1 z2); (try simp only [List.length_append, List.length_nil]); omega)
  refine Calls.mono C ?_
  clear C
  rintro er v6 ⟨rfl, S6, hp, hs, hr, hk⟩
  have R6 : Hid (Rb v6 g (fs (S6 ++ S4)) rest) := by unfold Hid; simpa [fs] using hr
  have P6 : Hid (S6.Perm ((U1 ++ U2) ++ U3) ∧ S6.Pairwise lt) := ⟨hp.trans (P5.out.1.append P3.out.1), hs⟩
  have K6 : Hid (Kp g w v6) := K5.out.trans hk
  clear hp hs hr hk TG
  go_wp2_with fail
  rw [rounds_succ]
  go_wp2_with fail
  go_wp2
  go_end0
  have eS4 : S4 = [] := List.length_eq_zero_iff.1 (by have q1 := HL.out; have q2 := HN.out; have z := P4.out.1.length_eq; omega)
  have eU4 : U4 = [] := List.length_eq_zero_iff.1 (by have q1 := HL.out; have q2 := HN.out; omega)
  refine ⟨rfl, S6, ?_, P6.out.2, ?_, K6.out⟩
  · have h := P6.out.1
    simpa [eU4] using h
  · have h := R6.out
    rw [eS4] at h
    simpa using h
end Go.Proofs.YtelbdcljdfadbaaDoor

namespace Go.Proofs.YtelbdcljdfadbaaDoor
open Go.RowKit Go.Proofs.YtelbdcljdfadbaaDoor.So
set_option linter.unusedVariables false

theorem cut2 (U : List T) (i : Nat) (h : i ≤ U.length) : ∃ U1 U2, U = U1 ++ U2 ∧ U1.length = i ∧ U2.length = U.length - i := ⟨U.take i, U.drop i, (List.take_append_drop _ _).symm, by rw [List.length_take]; omega, by rw [List.length_drop]⟩
theorem stab_any (U : List T) (g cap n : Nat) (rest : List Value) (w : World) (hL : U.length = n) (hn : n ≤ 60) (hU : U.Pairwise (fun x y => x.2 < y.2)) (hr : Rb w g (fs U) rest) :
    Calls Tryd.prog 83 #[.slice (some ⟨g, 0, none⟩) n cap, .int .i64 (n : Nat), .func (.func 54) #[] #[]] w (StabSays U g rest w) := by
  by_cases h20 : n < 20
  · exact stab_a U g cap n rest w hL hU hr h20
  obtain ⟨U1, V1, rfl, l1, m1⟩ := cut2 U 20 (by omega)
  by_cases h21 : n = 20
  · exact stab_b0 U1 V1 g cap n rest w l1 (by omega) hU hr h21
  by_cases h40 : n < 40
  · exact stab_b1 U1 V1 g cap n rest w l1 (by omega) hU hr ⟨by omega, h40⟩
  obtain ⟨U2, V2, rfl, l2, m2⟩ := cut2 V1 20 (by omega)
  rw [← List.append_assoc] at hU hr ⊢
  by_cases h41 : n = 40
  · exact stab_c0 U1 U2 V2 g cap n rest w l1 l2 (by omega) hU hr h41
  by_cases h60 : n < 60
  · exact stab_c1 U1 U2 V2 g cap n rest w l1 l2 (by omega) hU hr ⟨by omega, h60⟩
  obtain ⟨U3, V3, rfl, l3, m3⟩ := cut2 V2 20 (by omega)
  rw [← List.append_assoc] at hU hr ⊢
  exact stab_d U1 U2 U3 V3 g cap n rest w l1 l2 l3 (by omega) hU hr (by omega)
set_option maxHeartbeats 4000000 in
theorem sortst_any (U : List T) (g cap n : Nat) (rest : List Value) (w : World) (hL : U.length = n) (hn : n ≤ 60) (hU : U.Pairwise (fun x y => x.2 < y.2)) (hr : Rb w g (fs U) rest) :
    Calls Tryd.prog 53 #[.slice (some ⟨g, 0, none⟩) n cap, .func (.func 54) #[] #[]] w (StabSays U g rest w) := by
  have C := stab_any U g cap n rest w hL hn hU hr
  clear hL hn hU hr
  go_enter Tryd.func53, Tryd.ntmps53
  go_wp2_with fail
  refine Calls.mono C ?_
  rintro e w1 ⟨rfl, h⟩
  have H : Hid (∃ S, S.Perm U ∧ S.Pairwise lt ∧ Rb w1 g (fs S) rest ∧ Kp g w w1) := h
  clear h C
  go_wp2
  go_end0
  exact ⟨rfl, H.out⟩
end Go.Proofs.YtelbdcljdfadbaaDoor

namespace Go.Proofs.YtelbdcljdfadbaaDoor
open Go.RowKit Go.Proofs.YtelbdcljdfadbaaDoor.So
set_option linter.unusedVariables false

theorem Oro.rb {w : World} {base : Nat} {v : Value} {ks : List OrV} (h : Oro w base v ks) : (v = .slice none 0 0 ∧ ks = []) ∨ ∃ g cap rest, v = .slice (some ⟨g, 0, none⟩) ks.length cap ∧ base ≤ g ∧ ks.length ≤ cap ∧ cap ≤ maxLen ∧ ks.length * 4 + rest.length = cap * 4 ∧ Rb w g ks rest := by
  rcases h.2 with ⟨h1, h2⟩ | ⟨g, cap, cur, h1, h2, h3, h4, h5, h6, h7⟩
  · exact .inl ⟨h1, List.length_eq_zero_iff.1 h2⟩
  · refine .inr ⟨g, cap, cur.toList.drop (ks.length * 4), h1, h2, h4, h5, ?_, ?_⟩
    · have e6 : cur.toList.length = cap * 4 := by simpa using h6
      rw [List.length_drop, e6]
      have : ks.length * 4 ≤ cap * 4 := Nat.mul_le_mul_right _ h4
      omega
    · unfold Rb
      rw [← h7, List.take_append_drop, Array.toArray_toList]
      exact h3
theorem Rb.oro {w : World} {base g cap : Nat} {ks : List OrV} {rest : List Value} (h : Rb w g ks rest) (hb : base ≤ g) (h1 : ks.length ≤ cap) (h2 : cap ≤ maxLen) (h3 : ks.length * 4 + rest.length = cap * 4) : Oro w base (.slice (some ⟨g, 0, none⟩) ks.length cap) ks := by
  refine ⟨flat_len ks, .inr ⟨g, cap, _, rfl, hb, h, h1, h2, ?_, ?_⟩⟩
  · simp only [List.size_toArray, List.length_append, flat_len]; omega
  · show (ks.flatMap OrV.cs ++ rest).take (ks.length * 4) = _
    rw [List.take_append_of_le_length (by rw [flat_len]; exact Nat.le_refl _), List.take_of_length_le (by rw [flat_len]; exact Nat.le_refl _)]
set_option maxHeartbeats 1000000 in
theorem isort_nil (fv : Value) (w : World) : Calls Tryd.prog 120 #[.slice none 0 0, .int .i64 0, .int .i64 0, fv] w fun e w' => e = .returned (.tuple #[]) ∧ w' = w := by
  go_enter Tryd.func120, Tryd.ntmps120
  go_wp2_with fail
  refine wp_loop_rounds 1 ?_
  rw [rounds_succ]
  go_wp2
  go_end0
  exact ⟨rfl, rfl⟩
set_option maxHeartbeats 1000000 in
theorem stab_nil (fv : Value) (w : World) : Calls Tryd.prog 83 #[.slice none 0 0, .int .i64 0, fv] w fun e w' => e = .returned (.tuple #[]) ∧ w' = w := by
  go_enter Tryd.func83, Tryd.ntmps83
  go_wp2_with fail
  refine wp_loop_rounds 1 ?_
  rw [rounds_succ]
  go_wp2_with fail
  refine Calls.mono (isort_nil fv w) ?_
  rintro e w' ⟨rfl, rfl⟩
  go_wp2_with fail
  refine wp_loop_rounds 1 ?_
  rw [rounds_succ]
  go_wp2
  go_end0
  exact ⟨rfl, rfl⟩
set_option maxHeartbeats 1000000 in
theorem sort_nil (fv : Value) (w : World) : Calls Tryd.prog 53 #[.slice none 0 0, fv] w fun e w' => e = .returned (.tuple #[]) ∧ w' = w := by
  go_enter Tryd.func53, Tryd.ntmps53
  go_wp2_with fail
  refine Calls.mono (stab_nil fv w) ?_
  rintro e w' ⟨rfl, rfl⟩
  go_wp2
  go_end0
  exact ⟨rfl, rfl⟩
/-- what comes of a sort of an owned list. -/
theorem sort_own (l : List OrV) (v : Value) (b1 : Nat) (w : World) (hl : l.length ≤ 60) (ho : Oro w b1 v (fs (kp l l.length))) :
    Calls Tryd.prog 53 #[v, .func (.func 54) #[] #[]] w fun e w' => e = .returned (.tuple #[]) ∧ ∃ out, LastSays l out ∧ Oro w' b1 v out ∧ w.grownBy w' v.ownBlock := by
  rcases ho.rb with ⟨rfl, hn⟩ | ⟨g, cap, rest, rfl, hb, h1, h2, h3, hr⟩
  · refine (sort_nil _ w).mono ?_
    rintro e w' ⟨rfl, rfl⟩
    have e0 : kp l l.length = [] := List.map_eq_nil_iff.1 hn
    refine ⟨rfl, [], ⟨[], by rw [e0], List.Pairwise.nil, rfl⟩, by rw [hn] at ho; exact ho, ?_⟩
    exact ⟨rfl, rfl, rfl, Nat.le_refl _, fun _ _ _ => rfl⟩
  · have hlen : (fs (kp l l.length)).length = (kp l l.length).length := by simp [fs]
    rw [hlen] at h1 h3 ⊢
    refine (sortst_any (kp l l.length) g cap _ rest w rfl (Nat.le_trans (kp_len _) hl) (kp_tags _) hr).mono ?_
    rintro e w' ⟨rfl, S, hp, hs, hr', hk⟩
    have el : (fs S).length = (kp l l.length).length := by simp [fs, hp.length_eq]
    refine ⟨rfl, fs S, ⟨S, hp, hs, rfl⟩, ?_, ⟨hk.os, hk.tape, hk.output, hk.size, fun k hk' hn => hk.block k hk' (fun e => hn (by rw [e]; rfl))⟩⟩
    have := hr'.oro (base := b1) (cap := cap) hb (by omega) h2 (by omega)
    rw [el] at this
    exact this
def LsI (ks : List OrV) (w1 : World) (mb n : Nat) (j kv : Value) (W : World) : Prop := ∃ q : Nat, q ≤ ks.length ∧ j = .int .i64 (q : Nat) ∧ Oro W w1.heap.size kv (fs (kp ks q)) ∧ Um W mb n (lf ks ks.length) ∧ Below w1.heap.size w1 W
def LastTells (ks : List OrV) (w : World) (e : Ending) (w' : World) : Prop := ∃ u r, e = .returned (.tuple #[u, r]) ∧ Er r (Od.faults ks) ∧ ((Od.faults ks ≠ 0 ∧ u = .slice none 0 0) ∨ (Od.faults ks = 0 ∧ ∃ out, LastSays ks out ∧ Oro w' w.heap.size u out)) ∧ Below w.heap.size w w'
set_option maxRecDepth 100000 in
set_option maxHeartbeats 8000000 in
theorem last_any (v : Value) (ks : List OrV) (w : World) (h : Orl w v ks) : Calls Tryd.prog 23 #[v] w (LastTells ks w) := by
  have K0 : Hid (Orl w v ks) := h
  obtain ⟨a, c, rfl, c1, c2, -⟩ := h
  go_enter Tryd.func23, Tryd.ntmps23
  go_wp2_with fail
  refine Calls.mono (ocheck_any _ ks w K0.out) ?_
  rintro e w0 ⟨u, rfl, hu, b0⟩
  obtain ⟨F, hF⟩ : ∃ F, Od.faults ks = F := ⟨_, rfl⟩
  have HF : Hid (Od.faults ks = F) := hF
  rw [hF] at hu
  have B0 : Hid (Below w.heap.size w w0) := b0
  clear hF b0
  rcases hu with ⟨hF, rfl⟩ | ⟨hF, rfl⟩
  case inr =>
    have E : Hid (F ≠ 0) := hF
    clear hF
    go_wp2
    go_ret2
    exact ⟨_, _, rfl, by rw [HF.out]; exact Er.no E.out, .inl ⟨by rw [HF.out]; exact E.out, rfl⟩, B0.out⟩
  subst hF
  have FO : Hid (ks.length ≤ 60 ∧ ∀ o ∈ ks, ¬ Od.bad o) := Od.faults_ok HF.out
  go_wp2_with fail
  refine Calls.mono (lastOnes_any _ ks w0 (K0.out.below B0.out) FO.out.1 FO.out.2) ?_
  rintro e w1 ⟨mb, n, rfl, hm, hmb, b1⟩
  have M1 : Hid (Um w1 mb n (lf ks ks.length)) := hm
  have B1 : Hid (Below w.heap.size w w1) := B0.out.trans (b1.mono B0.out.size)
  clear hm hmb b1
  go_wp2_with fail
  go_loopw [18, 6] (fun j kv W => LsI ks w1 mb n j kv W) (fun j _ _ => ks.length - (intOf j).toNat)
  case atStart => exact ⟨0, Nat.zero_le _, rfl, Oro.nil _ _, M1.out, Below.refl _ _⟩
  case round =>
    obtain ⟨q, hq, rfl, hko, hm, hb⟩ := hrel
    have OQ : Hid (Oro wr w1.heap.size u6 (fs (kp ks q))) := hko
    have MQ : Hid (Um wr mb n (lf ks ks.length)) := hm
    have BQ : Hid (Below w1.heap.size w1 wr) := hb
    clear hko hm hb
    by_cases hql : q = ks.length
    · subst hql
      go_wp2_with fail
      refine Calls.mono (sort_own ks u6 w1.heap.size wr FO.out.1 OQ.out) ?_
      rintro e w2 ⟨rfl, out, hls, ho, hg⟩
      have G2 : Hid (Below w.heap.size w w2) := (B1.out.trans (BQ.out.mono B1.out.size)).grown hg (by have := B1.out.size; have := BQ.out.size; omega) (fun k hk => by have := (OQ.out.block k hk).1; have := B1.out.size; omega)
      have FIN : Hid (∃ out, LastSays ks out ∧ Oro w2 w.heap.size u6 out) := ⟨out, hls, ho.mono B1.out.size⟩
      clear hls ho hg
      go_wp2
      go_ret2
      exact ⟨_, _, rfl, by rw [HF.out]; exact Er.nil, .inr ⟨HF.out, FIN.out⟩, G2.out⟩
    · have hqk : q < ks.length := by omega
      obtain ⟨k, hk⟩ : ∃ k, ks[q]? = some k := ⟨_, List.getElem?_eq_getElem hqk⟩
      have HK : Hid (ks[q]? = some k) := hk
      have OK := Od.ok_of (FO.out.2 k (List.mem_of_getElem? hk))
      have WF : Hid ((Lit.int .i64 k.player).wf = true ∧ (Lit.int .i64 k.unit).wf = true) := ⟨wf64 (by omega) (by omega), wf64 (by omega) (by omega)⟩
      have K1 := K0.out.below (B1.out.trans (BQ.out.mono B1.out.size))
      obtain ⟨a', c', e, -, -, h3⟩ := K1
      injection e with e1 e2 e3
      subst e1 e3
      obtain ⟨x, rfl, hx1, hx⟩ := h3 (by rintro rfl; simp at hqk)
      have Yc := hx q k hk
      clear hx h3 e2 hk OK
      obtain ⟨q0, q1, q2, q3⟩ := Yc
      go_upto_region 9 with fail
      have BA : Hid (Below wr.heap.size wr (wr.alloc (Obj.cells #[.int .i64 k.player, .int .i64 k.unit, .int .i64 k.what, .int .i64 k.arg] 63))) := (Below.refl _ _).alloc (Nat.le_refl _) _
      have XA : Hid (Orc (wr.alloc (Obj.cells #[.int .i64 k.player, .int .i64 k.unit, .int .i64 k.what, .int .i64 k.arg] 63)) ⟨wr.heap.size, 0, none⟩ k) := Orc.mk' (w := wr) k rfl
      clear q0 q1 q2 q3
      obtain ⟨z, hz⟩ : ∃ z, wr.heap.size = z := ⟨_, rfl⟩
      rw [hz] at XA ⊢
      have SZ : Hid (wr.heap.size = z) := hz
      clear hz
      generalize wr.alloc (Obj.cells #[.int .i64 k.player, .int .i64 k.unit, .int .i64 k.what, .int .i64 k.arg] 63) = w2 at *
      have B2 : Hid (Below w1.heap.size w1 w2) := BQ.out.trans (BA.out.mono BQ.out.size)
      have M2 : Hid (Um w2 mb n (lf ks ks.length)) := MQ.out.below BA.out
      have O2 : Hid (Oro w2 w1.heap.size u6 (fs (kp ks q))) := OQ.out.below BA.out
      clear MQ OQ BQ BA
      have KL : Hid ((fs (kp ks q)).length ≤ 60) := by have h1 := kp_len (l := ks) q; have h2 := FO.out.1; unfold Hid; simp [fs]; omega
      by_cases h3 : k.what = 3
      · obtain ⟨x0, x1, x2, x3⟩ := XA.out
        simp only [Nat.zero_add] at x1 x2 x3
        have OA : Hid (Oro (w2.alloc (Obj.cells #[.int .i64 k.player, .int .i64 k.unit, .int .i64 k.what, .int .i64 k.arg] 63)) w1.heap.size u6 (fs (kp ks q))) := O2.out.alloc _
        have RC : Hid (Orc (w2.alloc (Obj.cells #[.int .i64 k.player, .int .i64 k.unit, .int .i64 k.what, .int .i64 k.arg] 63)) ⟨w2.heap.size, 0, none⟩ k) := Orc.mk' (w := w2) k rfl
        have BB : Hid (Below w2.heap.size w2 (w2.alloc (Obj.cells #[.int .i64 k.player, .int .i64 k.unit, .int .i64 k.what, .int .i64 k.arg] 63))) := (Below.refl _ _).alloc (Nat.le_refl _) _
        have SB : Hid (w1.heap.size ≤ (w2.alloc (Obj.cells #[.int .i64 k.player, .int .i64 k.unit, .int .i64 k.what, .int .i64 k.arg] 63)).heap.size) := Nat.le_trans B2.out.size BB.out.size
        have h3c : k.what = 3 := h3
        have NK : Hid (kp ks (q + 1) = kp ks q ++ [(k, q)]) := kp_yes HK.out (.inl h3)
        rw [h3] at OA RC BB SB
        go_wp2_with (at_builtin; refine app_or _ rfl _ _ rfl w1.heap.size _ (fs (kp ks q)) rfl OA.out w2.heap.size k rfl RC.out (by have := KL.out; omega) SB.out ?_)
        intro g cap w5 o5 g5 a5 l5
        have B5 : Hid (Below w1.heap.size w1 w5) := (B2.out.trans (BB.out.mono B2.out.size)).grown g5 SB.out (fun k hk => (O2.out.block k hk).1)
        have M5 : Hid (Um w5 mb n (lf ks ks.length)) := (M2.out.below BB.out).gb g5 (fun e => by have := (O2.out.block mb e.symm).1; have := M1.out.lt; omega)
        have O5 : Hid (Oro w5 w1.heap.size (.slice (some ⟨g, 0, none⟩) ((kp ks q).length + 1) cap) (fs (kp ks (q + 1)))) := by unfold Hid; rw [NK.out]; simpa [fs] using o5
        clear o5 g5 a5 l5 x0 x1 x2 x3
        go_wp2
        go_round
        case rel => exact ⟨q + 1, by omega, by go_num, O5.out, M5.out, B5.out⟩
        case measure => simp [intOf]; omega
      · have h3b : (k.what == 3) = false := beq_eq_false_iff_ne.2 h3
        obtain ⟨x0, x1, x2, x3⟩ := XA.out
        simp only [Nat.zero_add] at x1 x2 x3
        go_wp2_with fail
        refine Calls.mono (unitOf_any k w2) ?_
        rintro e w3 ⟨rfl, b3⟩
        have B3 : Hid (Below w1.heap.size w1 w3) := B2.out.trans (b3.mono B2.out.size)
        have M3 : Hid (Um w3 mb n (lf ks ks.length)) := M2.out.below b3
        have O3 : Hid (Oro w3 w1.heap.size u6 (fs (kp ks q))) := O2.out.below b3
        have X3 : Hid (Orc w3 ⟨z, 0, none⟩ k) := XA.out.below b3 XA.out.lt
        have LK := M3.out.look WF.out.1 WF.out.2
        clear b3 x0 x1 x2 x3 B2 M2 O2 XA
        by_cases hi : lf ks ks.length k.player k.unit = (q : Nat)
        · obtain ⟨x0, x1, x2, x3⟩ := X3.out
          simp only [Nat.zero_add] at x1 x2 x3
          have OA : Hid (Oro (w3.alloc (Obj.cells #[.int .i64 k.player, .int .i64 k.unit, .int .i64 k.what, .int .i64 k.arg] 63)) w1.heap.size u6 (fs (kp ks q))) := O3.out.alloc _
          have RC : Hid (Orc (w3.alloc (Obj.cells #[.int .i64 k.player, .int .i64 k.unit, .int .i64 k.what, .int .i64 k.arg] 63)) ⟨w3.heap.size, 0, none⟩ k) := Orc.mk' (w := w3) k rfl
          have BB : Hid (Below w3.heap.size w3 (w3.alloc (Obj.cells #[.int .i64 k.player, .int .i64 k.unit, .int .i64 k.what, .int .i64 k.arg] 63))) := (Below.refl _ _).alloc (Nat.le_refl _) _
          have SB : Hid (w1.heap.size ≤ (w3.alloc (Obj.cells #[.int .i64 k.player, .int .i64 k.unit, .int .i64 k.what, .int .i64 k.arg] 63)).heap.size) := Nat.le_trans B3.out.size BB.out.size
          have NK : Hid (kp ks (q + 1) = kp ks q ++ [(k, q)]) := kp_yes HK.out (.inr hi)
          rw [hi] at LK
          clear hi
          go_wp2_with (at_builtin; refine app_or _ rfl _ _ rfl w1.heap.size _ (fs (kp ks q)) rfl OA.out w3.heap.size k rfl RC.out (by have := KL.out; omega) SB.out ?_)
          intro g cap w5 o5 g5 a5 l5
          have B5 : Hid (Below w1.heap.size w1 w5) := (B3.out.trans (BB.out.mono B3.out.size)).grown g5 SB.out (fun k hk => (O3.out.block k hk).1)
          have M5 : Hid (Um w5 mb n (lf ks ks.length)) := (M3.out.below BB.out).gb g5 (fun e => by have := (O3.out.block mb e.symm).1; have := M1.out.lt; omega)
          have O5 : Hid (Oro w5 w1.heap.size (.slice (some ⟨g, 0, none⟩) ((kp ks q).length + 1) cap) (fs (kp ks (q + 1)))) := by unfold Hid; rw [NK.out]; simpa [fs] using o5
          clear o5 g5 a5 l5 x0 x1 x2 x3
          go_wp2
          go_round
          case rel => exact ⟨q + 1, by omega, by go_num, O5.out, M5.out, B5.out⟩
          case measure => simp [intOf]; omega
        · have hib : (lf ks ks.length k.player k.unit == ((q : Nat) : Int)) = false := beq_eq_false_iff_ne.2 hi
          have NK : Hid (kp ks (q + 1) = kp ks q) := kp_no HK.out (by rintro (h | h); exact h3 h; exact hi h)
          generalize lf ks ks.length k.player k.unit = lfv at *
          go_wp2
          go_round
          case rel => exact ⟨q + 1, by omega, by go_num, by rw [NK.out]; exact O3.out, M3.out, B3.out⟩
          case measure => simp [intOf]; omega
end Go.Proofs.YtelbdcljdfadbaaDoor

namespace Go.Proofs.YtelbdcljdfadbaaDoor
namespace So
set_option linter.unusedVariables false
def isTr (o : OrV) : Bool := decide (o.what = 3)
theorem kp_trains {l : List OrV} : ∀ (q : Nat), q ≤ l.length → ((kp l q).map Prod.fst).countP isTr = (l.take q).countP isTr
  | 0, _ => by simp [kp]
  | q + 1, h => by
    have hq : q < l.length := by omega
    have ih := kp_trains (l := l) q (by omega)
    obtain ⟨o, ho⟩ : ∃ o, l[q]? = some o := ⟨_, List.getElem?_eq_getElem hq⟩
    rw [List.take_succ_eq_append_getElem hq, List.countP_append, ← ih]
    have e : l[q] = o := by have := List.getElem?_eq_getElem hq; rw [ho] at this; exact (Option.some.inj this).symm
    rw [e]
    by_cases hc : o.what = 3 ∨ lf l l.length o.player o.unit = (q : Nat)
    · rw [kp_yes ho hc, List.map_append, List.countP_append]
      rfl
    · rw [kp_no ho hc]
      have h3 : isTr o = false := by unfold isTr; exact decide_eq_false (fun h => hc (.inl h))
      simp [h3]
theorem LastSays.trains {l out : List OrV} (h : LastSays l out) : out.countP isTr = l.countP isTr := by
  obtain ⟨S, p, r, rfl⟩ := h
  have h1 := kp_trains (l := l) l.length (Nat.le_refl _)
  rw [List.take_length] at h1
  rw [← h1]
  exact (p.map Prod.fst).countP_eq isTr
theorem LastSays.has {l out : List OrV} (h : LastSays l out) {i : Nat} {o : OrV} (ho : l[i]? = some o) (h3 : ¬ o.what = 3) (hn : ∀ (k : Nat) x, i < k → k < l.length → l[k]? = some x → x.what = 3 ∨ x.player ≠ o.player ∨ x.unit ≠ o.unit) : o ∈ out := by
  obtain ⟨S, p, r, rfl⟩ := h
  have hi : i < l.length := (List.getElem?_eq_some_iff.1 ho).1
  exact List.mem_map.2 ⟨(o, i), p.mem_iff.2 (kp_in ho (.inr (lf_last ho h3 hi hn)) hi), rfl⟩
theorem LastSays.once {l out : List OrV} (h : LastSays l out) {i k : Nat} {x y : OrV} (hki : k < i) (hx : out[k]? = some x) (hy : out[i]? = some y) (h3 : ¬ x.what = 3) (h4 : ¬ y.what = 3) (hp : x.player = y.player) : ¬ x.unit = y.unit := by
  intro hu
  obtain ⟨S, p, r, rfl⟩ := h
  rw [List.getElem?_map] at hx hy
  obtain ⟨a, ha, rfl⟩ := Option.map_eq_some_iff.1 hx
  obtain ⟨b, hb, rfl⟩ := Option.map_eq_some_iff.1 hy
  obtain ⟨-, -, ka⟩ := kp_mem (p.mem_iff.1 (List.mem_of_getElem? ha))
  obtain ⟨-, -, kb⟩ := kp_mem (p.mem_iff.1 (List.mem_of_getElem? hb))
  have e1 := ka.resolve_left h3
  have e2 := kb.resolve_left h4
  rw [hp, hu, e2] at e1
  have tg : S.Pairwise (fun x y => x.2 ≠ y.2) := (p.symm.pairwise_iff (fun {a b} (h : a.2 ≠ b.2) => h.symm)).1 ((kp_tags (l := l) l.length).imp (fun h => by omega))
  obtain ⟨la, ea⟩ := List.getElem?_eq_some_iff.1 ha
  obtain ⟨lb, eb⟩ := List.getElem?_eq_some_iff.1 hb
  have := List.pairwise_iff_getElem.1 tg k i la lb hki
  rw [ea, eb] at this
  omega
theorem tr_next {l : List OrV} {q : Nat} {o : OrV} (h : l[q]? = some o) : (l.take (q + 1)).countP isTr = (l.take q).countP isTr + (if o.what = 3 then 1 else 0) := by
  have hq : q < l.length := (List.getElem?_eq_some_iff.1 h).1
  have e : l[q] = o := (List.getElem?_eq_some_iff.1 h).2
  rw [List.take_succ_eq_append_getElem hq, List.countP_append, e]
  by_cases h3 : o.what = 3 <;> simp [isTr, h3]
theorem tr_le (l : List OrV) (q : Nat) : (l.take q).countP isTr ≤ q := Nat.le_trans List.countP_le_length (by rw [List.length_take]; omega)
theorem tr_most (l : List OrV) (q : Nat) : (l.take q).countP isTr ≤ l.countP isTr := (List.take_sublist q l).countP_le
def l0 : List OrV := [⟨0, 2, 1, 5⟩, ⟨0, 1, 0, 0⟩, ⟨0, 2, 1, 6⟩]
theorem l0_last : LastSays l0 [⟨0, 1, 0, 0⟩, ⟨0, 2, 1, 6⟩] := by
  refine ⟨[(⟨0, 1, 0, 0⟩, 1), (⟨0, 2, 1, 6⟩, 2)], ?_, ?_, rfl⟩
  · have e : kp l0 l0.length = [(⟨0, 1, 0, 0⟩, 1), (⟨0, 2, 1, 6⟩, 2)] := by
      show kp l0 3 = _
      simp [kp, lf, updAt, l0]
    rw [e]
  · simp [lt, klt]
end So
end Go.Proofs.YtelbdcljdfadbaaDoor

namespace Go.Proofs.YtelbdcljdfadbaaDoor
namespace So
set_option linter.unusedVariables false
/-- x may stand ahead of y. -/
def Ro2 (x y : OrV) : Prop := ¬ klt y x ∧ (¬ x.what = 3 → ¬ y.what = 3 → x.player = y.player → ¬ x.unit = y.unit)
theorem LastSays.lo {l out : List OrV} (h : LastSays l out) : out.Pairwise Ro2 := by
  rw [List.pairwise_iff_getElem]
  intro k i hk hi hki
  refine ⟨?_, fun h3 h4 hp => h.once hki (List.getElem?_eq_getElem hk) (List.getElem?_eq_getElem hi) h3 h4 hp⟩
  obtain ⟨S, p, r, rfl⟩ := h
  simp only [List.length_map] at hk hi
  have := List.pairwise_iff_getElem.1 r k i hk hi hki
  simp only [List.getElem_map]
  rcases this with h | h
  · exact klt_asym h
  · exact h.1
theorem kp_all {out : List OrV} (h : out.Pairwise Ro2) : ∀ q, q ≤ out.length → (kp out q).map Prod.fst = out.take q
  | 0, _ => by simp [kp]
  | q + 1, hq => by
    have hl : q < out.length := by omega
    obtain ⟨o, ho⟩ : ∃ o, out[q]? = some o := ⟨_, List.getElem?_eq_getElem hl⟩
    have ih := kp_all h q (by omega)
    have hc : o.what = 3 ∨ lf out out.length o.player o.unit = (q : Nat) := by
      by_cases h3 : o.what = 3
      · exact .inl h3
      · refine .inr (lf_last ho h3 hl fun k x h1 h2 hx => ?_)
        by_cases hx3 : x.what = 3
        · exact .inl hx3
        · refine .inr ?_
          have := (List.pairwise_iff_getElem.1 h q k hl h2 h1).2
          have e1 : out[q] = o := by have := List.getElem?_eq_getElem hl; rw [ho] at this; exact (Option.some.inj this).symm
          have e2 : out[k] = x := by have := List.getElem?_eq_getElem h2; rw [hx] at this; exact (Option.some.inj this).symm
          rw [e1, e2] at this
          by_cases hp : x.player = o.player
          · exact .inr (fun hu => this h3 hx3 hp.symm hu.symm)
          · exact .inl hp
    have e1 : out[q] = o := by have := List.getElem?_eq_getElem hl; rw [ho] at this; exact (Option.some.inj this).symm
    rw [kp_yes ho hc, List.map_append, ih, List.take_succ_eq_append_getElem hl, e1]
    rfl
theorem lo_last {out : List OrV} (h : out.Pairwise Ro2) : LastSays out out := by
  have e := kp_all h out.length (Nat.le_refl _)
  rw [List.take_length] at e
  refine ⟨kp out out.length, List.Perm.refl _, ?_, e.symm⟩
  have h1 := kp_tags (l := out) out.length
  have h2 : ((kp out out.length).map Prod.fst).Pairwise Ro2 := by rw [e]; exact h
  rw [List.pairwise_map] at h2
  exact (h1.and h2).imp fun ⟨a, b⟩ => .inr ⟨b.1, a⟩
theorem LastSays.again {l out : List OrV} (h : LastSays l out) : LastSays out out := lo_last h.lo
theorem LastSays.fault {l out : List OrV} (h : LastSays l out) (hf : Od.faults l = 0) : Od.faults out = 0 := by
  obtain ⟨h1, h2⟩ := Od.faults_ok hf
  exact Od.faults_of (Nat.le_trans h.len h1) fun o ho => h2 o (h.mem ho)
def l1 : List OrV := [⟨1, 7, 1, 5⟩, ⟨1, 7, 0, 0⟩]
theorem l1_last : LastSays l1 [⟨1, 7, 0, 0⟩] := by
  refine ⟨[(⟨1, 7, 0, 0⟩, 1)], ?_, by simp, rfl⟩
  have e : kp l1 l1.length = [(⟨1, 7, 0, 0⟩, 1)] := by
    show kp l1 2 = _
    simp [kp, lf, updAt, l1]
  rw [e]
theorem l1_fault : Od.faults l1 = 0 := Od.faults_of (by decide) (by intro o ho; simp [l1] at ho; rcases ho with rfl | rfl <;> (unfold Od.bad; simp only; omega))
end So
end Go.Proofs.YtelbdcljdfadbaaDoor

namespace Go.Proofs.YtelbdcljdfadbaaDoor
open Go.RowKit
set_option linter.unusedVariables false

set_option maxRecDepth 100000 in
set_option maxHeartbeats 4000000 in
theorem orders_like (u v : Value) (ks : List OrV) (w : World) (hu : Orl w u ks) (hv : Orl w v ks) :
    Calls Tryd.prog 25 #[u, v] w fun e w' => e = .returned (.bool true) ∧ Below w.heap.size w w' := by
  obtain ⟨a, c, rfl, hc1, hc2, ha⟩ := hu
  obtain ⟨b, d, rfl, hd1, hd2, hb⟩ := hv
  have Ha : Hid (ks ≠ [] → ∃ x, a = some x ∧ x.block < w.heap.size ∧ ∀ (i : Nat) k, ks[i]? = some k → Orc w (x.add (i * 4)) k) := ha
  have Hb : Hid (ks ≠ [] → ∃ x, b = some x ∧ x.block < w.heap.size ∧ ∀ (i : Nat) k, ks[i]? = some k → Orc w (x.add (i * 4)) k) := hb
  clear ha hb
  go_enter Tryd.func25, Tryd.ntmps25
  go_wp2
  go_loopw [5] (fun i W' => ∃ k : Nat, k ≤ ks.length ∧ i = .int .i64 (k : Nat) ∧ ∃ n, W' = w.drewN n) (fun i _ => ks.length - (intOf i).toNat)
  case atStart => exact ⟨0, Nat.zero_le _, rfl, 0, rfl⟩
  case round =>
    obtain ⟨k, hk, rfl, n, rfl⟩ := hrel
    by_cases h0 : k = ks.length
    · subst h0
      have B : Hid (Below w.heap.size w (w.drewN n)) := ⟨rfl, rfl, rfl, Nat.le_refl _, fun _ _ => rfl⟩
      go_wp2
      go_ret
      exact ⟨rfl, B⟩
    · have hlt : k < ks.length := by omega
      have hlti : ((k : Nat) : Int) < (ks.length : Nat) := by omega
      obtain ⟨o, ho⟩ : ∃ o, ks[k]? = some o := ⟨_, List.getElem?_eq_getElem hlt⟩
      have hne : ks ≠ [] := by rintro rfl; simp at hlt
      obtain ⟨x, rfl, hx, hxc⟩ := Ha.out hne
      obtain ⟨y, rfl, hy, hyc⟩ := Hb.out hne
      have cx := hxc k o ho
      have cy := hyc k o ho
      obtain ⟨q0, q1, q2, q3⟩ := cx
      obtain ⟨r0, r1, r2, r3⟩ := cy
      clear hxc hyc hne ho
      go_wp2
      go_quiet (fail)
      go_wp2
      go_round
      case rel => exact ⟨k + 1, by omega, by go_num, n + nq, rfl⟩
      case measure => simp [intOf]; omega
end Go.Proofs.YtelbdcljdfadbaaDoor

namespace Go.Proofs.YtelbdcljdfadbaaDoor
open Go.ChangeShapes Go.WideShapes Go.ChangeAt Go.RowKit
set_option linter.unusedVariables false

theorem or_fields : ∃ f0 f1 f2 f3 : Field, Tryd.prog.underlying 63 = some (.struct #[f0, f1, f2, f3]) ∧
    f0.offset = 0 ∧ f0.type = 3 ∧ f1.offset = 1 ∧ f1.type = 3 ∧ f2.offset = 2 ∧ f2.type = 3 ∧ f3.offset = 3 ∧ f3.type = 3 := ⟨_, _, _, _, Tryd.underlying63, rfl, rfl, rfl, rfl, rfl, rfl, rfl, rfl⟩

set_option maxRecDepth 100000 in
theorem open_or {H : Type} {enc : TypeId × Value → H} {W : World} {base : Nat} {held : Bool} {fuel : Nat} {cs : List Value} {y : DataW H × List MemPlace} (h : DataW.trod enc Tryd.prog W base (fun _ => true) held fuel 63 cs = some y) :
    ∃ k : OrV, cs = [.int .i64 k.player, .int .i64 k.unit, .int .i64 k.what, .int .i64 k.arg] ∧ True := by
  obtain ⟨f0, f1, f2, f3, he, o0, t0, o1, t1, o2, t2, o3, t3⟩ := or_fields
  obtain ⟨xs, m, -, -, hlen, hxl, hf⟩ := DataW.trod_struct he h
  have csi : Tryd.prog.cellsOf 3 = 1 := by kernel_rfl
  have csk : Tryd.prog.cellsOf 63 = 4 := by kernel_rfl
  rw [csk] at hlen
  match cs, hlen with
  | [v0, v1, v2, v3], _ =>
    have hx : xs.length = 4 := hxl
    match xs, hx with
    | [x0, x1, x2, x3], _ =>
      have g0 := hf 0 f0 rfl
      rw [o0, t0, csi] at g0
      have g1 := hf 1 f1 rfl
      rw [o1, t1, csi] at g1
      have g2 := hf 2 f2 rfl
      rw [o2, t2, csi] at g2
      have g3 := hf 3 f3 rfl
      rw [o3, t3, csi] at g3
      obtain ⟨m0, e0, -, -⟩ := DataW.trod_int Tryd.underlying3 g0
      obtain ⟨m1, e1, -, -⟩ := DataW.trod_int Tryd.underlying3 g1
      obtain ⟨m2, e2, -, -⟩ := DataW.trod_int Tryd.underlying3 g2
      obtain ⟨m3, e3, -, -⟩ := DataW.trod_int Tryd.underlying3 g3
      simp at e0 e1 e2 e3
      subst e0 e1 e2 e3
      exact ⟨⟨m0, m1, m2, m3⟩, rfl, trivial⟩

theorem open_ors {H : Type} {enc : TypeId × Value → H} {W : World} {base : Nat} {held : Bool} {fuel : Nat} {v : Value} {y : DataW H × List MemPlace} (h : DataW.trod enc Tryd.prog W base (fun _ => true) held fuel 57 [v] = some y) :
    ∃ ks : List OrV, Orl W v ks ∧ ∀ k ∈ ks, True := by
  have csk : Tryd.prog.cellsOf 63 = 4 := by kernel_rfl
  rcases Go.Deep.open_slice Tryd.underlying57 h with ⟨hcs, -⟩ | ⟨a, len, cap, m, q, D, Pl, hcs, hb, hl, hm, hmm, -, hx⟩
  · simp at hcs
    subst hcs
    exact ⟨[], ⟨none, 0, rfl, Nat.le_refl _, by omega, fun h => absurd rfl h⟩, by simp⟩
  · simp at hcs
    subst hcs
    have hlm : len ≤ m := by rw [hmm]; simp; exact hl
    have each : ∀ i, i < len → ∃ k : OrV, Orc W (a.add (i * 4)) k ∧ (True) := by
      intro i hi
      obtain ⟨cs', h1, h2⟩ := hx i (by omega)
      obtain ⟨k, rfl, hk⟩ := open_or h2
      rw [csk] at h1
      obtain ⟨-, -, hcell⟩ := World.cells?_some h1
      refine ⟨k, ?_, hk⟩
      generalize a.add (i * 4) = y at *
      exact ⟨hcell 0 (by decide), hcell 1 (by decide), hcell 2 (by decide), hcell 3 (by decide)⟩
    have inh : Inhabited OrV := ⟨⟨0, 0, 0, 0⟩⟩
    obtain ⟨q, hq⟩ := Go.Deep.choose_lt each
    refine ⟨(List.range len).map q, ⟨some a, cap, by simp, by simpa using hl, by unfold maxLen at hm; omega, fun hn => ⟨a, rfl, ?_, fun i k hk => ?_⟩⟩, ?_⟩
    · have h0 : 0 < len := by
        rcases Nat.eq_zero_or_pos len with h | h
        · subst h; simp at hn
        · exact h
      have := (hq 0 h0).1.lt
      rwa [add_block] at this
    · have hi : i < len := by
        have := (List.getElem?_eq_some_iff.1 hk).1
        simpa using this
      rw [List.getElem?_map, List.getElem?_range hi] at hk
      injection hk with hk
      subst hk
      exact (hq i hi).1
    · intro k hk
      obtain ⟨i, hi, rfl⟩ := List.mem_map.1 hk
      exact (hq i (List.mem_range.1 hi)).2
set_option maxRecDepth 100000 in
theorem ors_in {H : Type} {enc : TypeId × Value → H} {W : World} {base b0 : Nat} {held : Bool} {v : Value} {d : DataW H} {p : List MemPlace} (hv : Value.okWide Tryd.prog W .any b0 57 v) (h : DataW.Trod enc Tryd.prog W base (fun _ => true) held 57 v d p) :
    ∃ ks : List OrV, Orl W v ks ∧ ∀ k ∈ ks, True := by
  obtain ⟨a, len, cap, rfl⟩ := okWide_slice Tryd.underlying57 hv
  obtain ⟨fuel, hf⟩ := h
  exact open_ors hf
end Go.Proofs.YtelbdcljdfadbaaDoor

namespace Go.Proofs.YtelbdcljdfadbaaDoor
open Go.ChangeShapes Go.WideShapes Go.ChangeAt Go.RowKit
set_option linter.unusedVariables false

theorem names_g : Tryd.prog.globalNamed "marchland/orders.names" = some 0 := by kernel_rfl
theorem names_t : (Tryd.prog.globals[0]?).map (·.type) = some 143 := by kernel_rfl
theorem str_cs : Tryd.prog.cellsOf 9 = 1 := by kernel_rfl
theorem l4 {α : Type} {l : List α} (h : l.length = 4) : ∃ a b c d, l = [a, b, c, d] := by
  match l, h with
  | [a, b, c, d], _ => exact ⟨a, b, c, d, rfl⟩
theorem text_cell {w : World} {fuel : Nat} {cs : List Value} {l : List UInt8} {y : DataW Unit × List MemPlace} (h : DataW.trod (fun _ => ()) Tryd.prog w 0 (fun _ => true) false fuel 9 cs = some y) (hy : y.1 = .lit (.string l)) : cs = [.string ⟨l.toArray⟩] := by
  obtain ⟨s, e0, f0, -⟩ := DataW.trod_string Tryd.underlying9 h
  rw [f0] at hy
  simp only [DataW.lit.injEq, Lit.string.injEq] at hy
  rw [e0]
  congr 2
  exact WideShapes.bytes_inj (by rw [hy])
set_option maxRecDepth 100000 in
theorem nm_of_laid {w : World} {r : List (String × DataW Unit)} (h : laidMet Tryd.prog (("marchland/orders.names", Rows.laid_marchland_orders_names) :: r) w) : Nm w := by
  obtain ⟨ps, ⟨g, t, cs, fuel, p, q, h1, h2, h3, h4, -, -⟩, -, -⟩ := h
  obtain rfl := Option.some.inj (names_g.symm.trans h1)
  obtain rfl := Option.some.inj (names_t.symm.trans h2)
  obtain ⟨xs, m, -, hx, hl, hn, hi⟩ := DataW.trod_array Tryd.underlying143 h4
  have hd : xs.map (·.1) = [.lit (.string [115, 116, 111, 112]), .lit (.string [109, 97, 114, 99, 104]), .lit (.string [103, 97, 116, 104, 101, 114]), .lit (.string [116, 114, 97, 105, 110])] := by
    have e : Rows.laid_marchland_orders_names = DataW.agg (xs.map (·.1)) := congrArg Prod.fst hx
    unfold Rows.laid_marchland_orders_names at e
    injection e with e
    exact e.symm
  obtain ⟨x0, x1, x2, x3, rfl⟩ := l4 hn
  simp only [List.map_cons, List.map_nil, List.cons.injEq, and_true] at hd
  obtain ⟨d0, d1, d2, d3⟩ := hd
  have i0 := text_cell (hi 0 (by decide)) d0
  have i1 := text_cell (hi 1 (by decide)) d1
  have i2 := text_cell (hi 2 (by decide)) d2
  have i3 := text_cell (hi 3 (by decide)) d3
  rw [str_cs] at i0 i1 i2 i3
  have ec : ∀ k : Nat, w.cell? ⟨0, k, none⟩ = cs.toList[k]? := fun k => by
    have e := World.var?_cell names_g h3 k
    rw [e, Array.getElem?_toList]
  have g0 : ∀ k v, (cs.toList.drop (k * 1)).take 1 = [v] → cs.toList[k]? = some v := by
    intro k v e
    have := congrArg (fun l => l[0]?) e
    simpa [List.getElem?_take, List.getElem?_drop] using this
  exact ⟨(ec 0).trans (g0 0 _ i0), (ec 1).trans (g0 1 _ i1), (ec 2).trans (g0 2 _ i2), (ec 3).trans (g0 3 _ i3)⟩
end Go.Proofs.YtelbdcljdfadbaaDoor

namespace Go.Proofs.YtelbdcljdfadbaaDoor.ordersBack
open Go.RowKit Go.Proofs.YtelbdcljdfadbaaDoor.So
set_option linter.unusedVariables false

theorem go_fault : ∀ (ls : List (List UInt8)) (acc : List OrV) {n : Nat} {f : Int}, Od.go acc ls = .inl (n, f) → f ≠ 0
  | [], acc, n, f, h => by simp [Od.go] at h
  | l :: r, acc, n, f, h => by
    unfold Od.go at h
    cases ho : Od.ofLine l with
    | none =>
      simp only [ho, Sum.inl.injEq, Prod.mk.injEq] at h
      omega
    | some o =>
      simp only [ho] at h
      split at h
      · simp only [Sum.inl.injEq, Prod.mk.injEq] at h
        omega
      · split at h
        · exact go_fault r _ h
        · rename_i hf
          simp only [Sum.inl.injEq, Prod.mk.injEq] at h
          rw [← h.2]
          exact hf
theorem par_zero {l : List UInt8} {n : Nat} {f : Int} (h : f = 0) : Od.parse l ≠ .inl (n, f) := fun e => go_fault _ _ e h
theorem par_ok {l : List UInt8} {ks : List OrV} {k : Int} (h : ParSays l ks k 0) : Od.parse l = .inr ks := by
  unfold ParSays at h
  cases e : Od.parse l with
  | inl x =>
    obtain ⟨n, f⟩ := x
    rw [e] at h
    obtain ⟨-, -, h3⟩ := h
    exact absurd e (par_zero h3.symm)
  | inr r =>
    rw [e] at h
    rw [h.1]
theorem fact_text : Od.prt l1 = [49, 32, 55, 32, 109, 97, 114, 99, 104, 32, 53, 10, 49, 32, 55, 32, 115, 116, 111, 112, 10] := by
  have d1 : Tx.dig 1 = [49] := Tx.dig_small (by decide)
  have d7 : Tx.dig 7 = [55] := Tx.dig_small (by decide)
  have d5 : Tx.dig 5 = [53] := Tx.dig_small (by decide)
  simp [Od.prt, l1, Od.oline, Od.words, Tx.join, Od.name, Od.nMarch, Od.nStop, d1, d7, d5]
set_option maxRecDepth 100000 in
set_option maxHeartbeats 8000000 in
theorem walk (v0 : Value) (ks0 : List OrV) (s1 : ByteArray) (w : World) (h0 : Orl w v0 ks0 ∧ ∀ k ∈ ks0, True) (hs1 : s1.size ≤ 140737488351232) (hp : Pw w) (hy : Sy w) (hn : Nm w) :
    Calls Tryd.prog 5 #[v0, .string s1] w fun e w' => e = .returned (.bool true) ∧ Below w.heap.size w w' := by
  have G0 : Hid (Nm w ∧ Pw w ∧ Sy w) := ⟨hn, hp, hy⟩
  have K0 : Hid (Orl w v0 ks0) := h0.1
  obtain ⟨pa, pc, rfl, c1, c2, -⟩ := h0.1
  clear hp hy hn h0
  go_enter Tryd.func5, Tryd.ntmps5
  go_wp2_with fail
  refine (oparse_any ⟨#[49, 32, 55, 32, 109, 97, 114, 99, 104, 32, 53, 10, 49, 32, 55, 32, 115, 116, 111, 112, 10]⟩ _ (by decide) G0.out.1 G0.out.2.1 G0.out.2.2).mono ?_
  rintro e w1 ⟨v1, k1, u1, f1, ks1, rfl, hl1, he1, hs1', b1⟩
  have B1 : Hid (Below w.heap.size w w1) := b1
  obtain ⟨rfl, rfl, rfl⟩ : ks1 = l1 ∧ k1 = 0 ∧ f1 = 0 := by
    have hpp := Od.parse_prt l1_fault
    rw [fact_text] at hpp
    have hx : Od.parse (tl ⟨#[49, 32, 55, 32, 109, 97, 114, 99, 104, 32, 53, 10, 49, 32, 55, 32, 115, 116, 111, 112, 10]⟩) = .inr l1 := hpp
    unfold ParSays at hs1'
    rw [hx] at hs1'
    exact hs1'
  obtain rfl : u1 = .nilIface := by
    rcases he1 with ⟨-, h⟩ | ⟨h, -⟩
    · exact h
    · exact absurd rfl h
  have L1 : Hid (Orl w1 v1 l1) := hl1
  obtain ⟨xa, xc, rfl, hx1, hx2, -⟩ := hl1
  clear he1 hs1' b1
  have el1 : l1.length = 2 := rfl
  rw [el1] at L1 hx1 ⊢
  clear el1
  go_wp2_with fail
  refine Calls.mono (last_any _ l1 w1 L1.out) ?_
  rintro e w2 ⟨u, r, rfl, hr, hu, hb⟩
  rw [l1_fault] at hr
  have B2 : Hid (Below w.heap.size w w2) := B1.out.trans (hb.mono B1.out.size)
  obtain rfl : r = .nilIface := by
    rcases hr with ⟨-, h⟩ | ⟨h, -⟩
    · exact h
    · exact absurd rfl h
  rcases hu with ⟨h, -⟩ | ⟨-, out0, hls, ho⟩
  · exact absurd l1_fault h
  obtain rfl := hls.one l1_last
  rcases ho.rb with ⟨-, h⟩ | ⟨g, cap, rest, rfl, -, hc1, -, -, hrb⟩
  · cases h
  have q2 : w2.cell? ⟨g, 2, none⟩ = some (.int .i64 0) := hrb.at_ (i := 0) rfl (j := 2) (by decide)
  clear hr hls ho hrb hb L1
  go_wp2_with fail
  clear q2 hc1
  refine (oprint_any _ ks0 _ (K0.out.below B2.out) (G0.out.1.below B2.out (Nat.le_refl _)) (G0.out.2.1.below B2.out)).mono ?_
  rintro e w3 ⟨s3, u3, rfl, b3, hu3, hp3⟩
  have B3 : Hid (Below w.heap.size w w3) := B2.out.trans (b3.mono B2.out.size)
  clear b3
  rcases hp3 with ⟨hx, -⟩ | ⟨hz, hs3⟩
  · rcases hu3 with ⟨h, -⟩ | ⟨h, rfl⟩
    · exact absurd h hx
    · clear hx h
      go_wp2_with fail
      refine (oparse_any s1 _ (by omega) (G0.out.1.below B3.out (Nat.le_refl _)) (G0.out.2.1.below B3.out) (G0.out.2.2.below B3.out)).mono ?_
      rintro e w8 ⟨v8, k8, u8, f8, ks8, rfl, hl8, he8, hs8, b8⟩
      have B8 : Hid (Below w.heap.size w w8) := B3.out.trans (b8.mono B3.out.size)
      clear b8
      rcases he8 with ⟨rfl, rfl⟩ | ⟨hf8, rfl⟩
      · have PP := par_ok hs8
        obtain ⟨t1, t2⟩ := Od.prt_parse PP
        have L8 : Hid (Orl w8 v8 ks8) := hl8
        have T1 : Hid (Od.prt ks8 = tl s1) := t1
        have T2 : Hid (Od.faults ks8 = 0) := t2
        clear hl8 hs8 PP t1 t2
        go_wp2_with fail
        refine (oprint_any v8 ks8 _ L8.out (G0.out.1.below B8.out (Nat.le_refl _)) (G0.out.2.1.below B8.out)).mono ?_
        rintro e w9 ⟨s9, u9, rfl, b9, hu9, hp9⟩
        have B9 : Hid (Below w.heap.size w w9) := B8.out.trans (b9.mono B8.out.size)
        rw [T2.out] at hu9 hp9
        clear b9
        rcases hp9 with ⟨hx, -⟩ | ⟨-, hs9⟩
        · exact absurd rfl hx
        · obtain rfl : u9 = .nilIface := by
            rcases hu9 with ⟨-, h⟩ | ⟨h, -⟩
            · exact h
            · exact absurd rfl h
          obtain rfl : s9 = s1 := by
            rw [hs9]
            exact WideShapes.bytes_inj (by rw [bytesOf_list]; exact T1.out)
          clear hs9 hu9
          go_wp2
          go_ret
          exact ⟨by simp, B9⟩
      · clear hl8 hs8 hf8
        go_wp2
        go_ret
        exact ⟨rfl, B8⟩
  · rw [hz] at hu3
    obtain rfl : u3 = .nilIface := by
      rcases hu3 with ⟨-, h⟩ | ⟨h, -⟩
      · exact h
      · exact absurd rfl h
    have HZ : Hid (Od.faults ks0 = 0) := hz
    have FO : Hid (ks0.length ≤ 60 ∧ ∀ o ∈ ks0, ¬ Od.bad o) := Od.faults_ok hz
    have LZ : s3.size ≤ 9223372036854775806 := by
      have h1 := oprt_len FO.out.2 ks0.length (Nat.le_refl _)
      rw [List.take_length] at h1
      have h2 := FO.out.1
      have h3 : s3.size = (Od.prt ks0).length := by rw [hs3]; rfl
      omega
    have HS : Hid (tl s3 = Od.prt ks0) := by unfold Hid; rw [hs3]; exact bytesOf_list _
    clear hz hs3 hu3
    go_wp2_with fail
    refine (oparse_any s3 _ LZ (G0.out.1.below B3.out (Nat.le_refl _)) (G0.out.2.1.below B3.out) (G0.out.2.2.below B3.out)).mono ?_
    rintro e w4 ⟨v4, k4, u4, f4, ks4, rfl, hl4, he4, hs4, b4⟩
    have B4 : Hid (Below w.heap.size w w4) := B3.out.trans (b4.mono B3.out.size)
    obtain ⟨rfl, rfl, rfl⟩ : ks4 = ks0 ∧ k4 = 0 ∧ f4 = 0 := by
      have hpp := Od.parse_prt HZ.out
      rw [← HS.out] at hpp
      unfold ParSays at hs4
      rw [hpp] at hs4
      exact hs4
    obtain rfl : u4 = .nilIface := by
      rcases he4 with ⟨-, h⟩ | ⟨h, -⟩
      · exact h
      · exact absurd rfl h
    have L4 : Hid (Orl w4 v4 ks4) := hl4
    clear hs4 b4 hl4 he4 LZ
    go_wp2_with fail
    refine (orders_like v4 _ ks4 _ L4.out (K0.out.below B4.out)).mono ?_
    rintro e w5 ⟨rfl, b5⟩
    have B5 : Hid (Below w.heap.size w w5) := B4.out.trans (b5.mono B4.out.size)
    clear b5
    go_wp2_with fail
    refine Calls.mono (last_any _ ks4 w5 (K0.out.below B5.out)) ?_
    rintro e w6 ⟨u6, r6, rfl, hr6, hu6, hb6⟩
    rw [HZ.out] at hr6 hu6
    have B6 : Hid (Below w.heap.size w w6) := B5.out.trans (hb6.mono B5.out.size)
    obtain rfl : r6 = .nilIface := by
      rcases hr6 with ⟨-, h⟩ | ⟨h, -⟩
      · exact h
      · exact absurd rfl h
    rcases hu6 with ⟨h, -⟩ | ⟨-, out, hls, ho⟩
    · exact absurd rfl h
    have LS : Hid (LastSays ks4 out) := hls
    have O6 : Hid (Orl w6 u6 out) := ho.l
    obtain ⟨pb, pd, rfl, d1, d2, -⟩ := ho.l
    have FZ : Hid (Od.faults out = 0) := hls.fault HZ.out
    have lel : ¬ ((ks4.length : Nat) : Int) < (out.length : Nat) := by have := hls.len; omega
    clear hls ho hr6 hb6
    go_wp2_with fail
    refine Calls.mono (last_any _ out w6 O6.out) ?_
    rintro e w7 ⟨u7, r7, rfl, hr7, hu7, hb7⟩
    rw [FZ.out] at hr7 hu7
    have B7 : Hid (Below w.heap.size w w7) := B6.out.trans (hb7.mono B6.out.size)
    have O7 : Hid (Orl w7 (.slice pb out.length pd) out) := O6.out.below hb7
    obtain rfl : r7 = .nilIface := by
      rcases hr7 with ⟨-, h⟩ | ⟨h, -⟩
      · exact h
      · exact absurd rfl h
    rcases hu7 with ⟨h, -⟩ | ⟨-, out7, hls7, ho7⟩
    · exact absurd rfl h
    obtain rfl := hls7.one LS.out.again
    have P7 : Hid (Orl w7 u7 out7) := ho7.l
    clear hls7 ho7 hr7 hb7
    go_wp2_with fail
    refine (orders_like _ u7 out7 _ O7.out P7.out).mono ?_
    rintro e wa ⟨rfl, ba⟩
    have BA : Hid (Below w.heap.size w wa) := B7.out.trans (ba.mono B7.out.size)
    clear ba
    go_wp2_with fail
    refine (oparse_any s1 _ (by omega) (G0.out.1.below BA.out (Nat.le_refl _)) (G0.out.2.1.below BA.out) (G0.out.2.2.below BA.out)).mono ?_
    rintro e w8 ⟨v8, k8, u8, f8, ks8, rfl, hl8, he8, hs8, b8⟩
    have B8 : Hid (Below w.heap.size w w8) := BA.out.trans (b8.mono BA.out.size)
    clear b8
    rcases he8 with ⟨rfl, rfl⟩ | ⟨hf8, rfl⟩
    · have PP := par_ok hs8
      obtain ⟨t1, t2⟩ := Od.prt_parse PP
      have L8 : Hid (Orl w8 v8 ks8) := hl8
      have T1 : Hid (Od.prt ks8 = tl s1) := t1
      have T2 : Hid (Od.faults ks8 = 0) := t2
      clear hl8 hs8 PP t1 t2
      go_wp2_with fail
      refine (oprint_any v8 ks8 _ L8.out (G0.out.1.below B8.out (Nat.le_refl _)) (G0.out.2.1.below B8.out)).mono ?_
      rintro e w9 ⟨s9, u9, rfl, b9, hu9, hp9⟩
      have B9 : Hid (Below w.heap.size w w9) := B8.out.trans (b9.mono B8.out.size)
      rw [T2.out] at hu9 hp9
      clear b9
      rcases hp9 with ⟨hx, -⟩ | ⟨-, hs9⟩
      · exact absurd rfl hx
      · obtain rfl : u9 = .nilIface := by
          rcases hu9 with ⟨-, h⟩ | ⟨h, -⟩
          · exact h
          · exact absurd rfl h
        obtain rfl : s9 = s1 := by
          rw [hs9]
          exact WideShapes.bytes_inj (by rw [bytesOf_list]; exact T1.out)
        clear hs9 hu9
        go_wp2
        go_ret
        exact ⟨by simp, B9⟩
    · clear hl8 hs8 hf8
      go_wp2
      go_ret
      exact ⟨rfl, B8⟩
end Go.Proofs.YtelbdcljdfadbaaDoor.ordersBack

