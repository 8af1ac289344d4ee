/- slices.stableCmpFunc of at most 60 orders: stab_a. · slices.stableCmpFunc of at most 60 orders: stab_b0. · slices.stableCmpFunc of at most 60 orders: stab_b1. · slices.stableCmpFunc of at most 60 orders: stab_c0. · slices.stableCmpFunc of at most 60 orders: stab_c1. · slices.stableCmpFunc of at most 60 orders: stab_d. · slices.SortStableFunc of at most 60 orders by compare. · orders.Last. -/
import Derived.Test.YteieikgkmfglaaaGreatDoorZTurnPlays28
import Derived.Test.YteieikgkmfglaaaGreatDoorZTurnPlays26
import Derived.Deep.DeepCutAuto
namespace Go.Proofs.YteieikgkmfglaaaGreatDoor
open Go.RowKit Go.Proofs.YteieikgkmfglaaaGreatDoor.So
set_option linter.unusedVariables false
set_option linter.unusedSimpArgs false


set_option maxRecDepth 100000 in
set_option maxHeartbeats 16000000 in
theorem stab_a (U1 : List T) (g cap n : Nat) (rest : List Value) (w : World) (h1 : U1.length = n) (hU : (U1).Pairwise (fun x y => x.2 < y.2)) (hr : Rb w g (fs (U1)) rest) (hn : n < 20) :
    Calls Tryz.prog 130 #[.slice (some ⟨g, 0, none⟩) n cap, .int .i64 (n : Nat), .func (.func 105) #[] #[]] w (StabSays (U1) g rest w) := by
  have R0 : Hid (Rb w g (fs (U1)) rest) := hr
  have HU : Hid ((U1).Pairwise (fun x y => x.2 < y.2)) := hU
  have HL : Hid (U1.length = n ∧ n ≤ 60) := ⟨h1, by omega⟩
  have le20 : ¬ (20 : Int) ≤ (n : Nat) := by omega
  have lt20 : ¬ (20 : Int) < (n : Nat) := by omega
  have le40 : ¬ (40 : Int) ≤ (n : Nat) := by omega
  have le80 : ¬ (80 : Int) ≤ (n : Nat) := by omega
  have HN : Hid (n < 20) := hn
  clear hn
  clear hr hU h1
  go_enter Tryz.func130, Tryz.ntmps130
  go_wp2_with fail
  refine wp_loop_rounds 1 ?_
  rw [rounds_succ]
  go_wp2_with fail
  have C : Calls _ _ _ _ _ := isort_i ([]) U1 ([]) g cap n 0 (n : Nat) rest w (HU.out) (by have := R0.out; simpa [fs] using this) (by have q1 := HL.out; have q2 := HN.out;  (try simp only [List.length_append, List.length_nil]); omega) (by have := HL.out; omega) (by have q1 := HL.out; have q2 := HN.out;  (try simp only [List.length_append, List.length_nil]); omega) (by have q1 := HL.out; have q2 := HN.out;  (try simp only [List.length_append, List.length_nil]); omega)
  refine Calls.mono C ?_
  clear C
  rintro er v1 ⟨rfl, S1, hp, hs, hr, hk⟩
  have R1 : Hid (Rb v1 g (fs (S1)) rest) := by unfold Hid; simpa [fs] using hr
  have P1 : Hid (S1.Perm U1 ∧ S1.Pairwise lt) := ⟨hp, hs⟩
  have K1 : Hid (Kp g w v1) := hk
  clear hp hs hr hk
  go_wp2_with fail
  refine wp_loop_rounds 1 ?_
  rw [rounds_succ]
  go_wp2_with fail
  go_wp2
  go_end0
  exact ⟨rfl, S1, P1.out.1, P1.out.2, R1.out, K1.out⟩
end Go.Proofs.YteieikgkmfglaaaGreatDoor

namespace Go.Proofs.YteieikgkmfglaaaGreatDoor
open Go.RowKit Go.Proofs.YteieikgkmfglaaaGreatDoor.So
set_option linter.unusedVariables false
set_option linter.unusedSimpArgs false


set_option maxRecDepth 100000 in
set_option maxHeartbeats 16000000 in
theorem stab_b0 (U1 U2 : List T) (g cap n : Nat) (rest : List Value) (w : World) (h1 : U1.length = 20) (h2 : U2.length = 0) (hU : (U1 ++ U2).Pairwise (fun x y => x.2 < y.2)) (hr : Rb w g (fs (U1 ++ U2)) rest) (hn : n = 20) :
    Calls Tryz.prog 130 #[.slice (some ⟨g, 0, none⟩) n cap, .int .i64 (n : Nat), .func (.func 105) #[] #[]] w (StabSays (U1 ++ U2) g rest w) := by
  have R0 : Hid (Rb w g (fs (U1 ++ U2)) rest) := hr
  have HU : Hid ((U1 ++ U2).Pairwise (fun x y => x.2 < y.2)) := hU
  have HL : Hid (U1.length = 20 ∧ U2.length = 0 ∧ n ≤ 60) := ⟨h1, h2, by omega⟩
  have le20 : (20 : Int) ≤ (n : Nat) := by omega
  have le40 : ¬ (40 : Int) ≤ (n : Nat) := by omega
  have lt20 : ¬ (20 : Int) < (n : Nat) := by omega
  have le80 : ¬ (80 : Int) ≤ (n : Nat) := by omega
  have HN : Hid (n = 20) := hn
  clear hn
  clear hr hU h1 h2
  go_enter Tryz.func130, Tryz.ntmps130
  go_wp2_with fail
  refine wp_loop_rounds 2 ?_
  rw [rounds_succ]
  go_wp2_with fail
  have C : Calls _ _ _ _ _ := isort_i ([]) U1 (U2) g cap n 0 20 rest w ((List.pairwise_append.1 HU.out).1) (by have := R0.out; simpa [fs] using this) (by have q1 := HL.out; have q2 := HN.out;  (try simp only [List.length_append, List.length_nil]); omega) (by have := HL.out; omega) (by have q1 := HL.out; have q2 := HN.out;  (try simp only [List.length_append, List.length_nil]); omega) (by have q1 := HL.out; have q2 := HN.out;  (try simp only [List.length_append, List.length_nil]); omega)
  refine Calls.mono C ?_
  clear C
  rintro er v1 ⟨rfl, S1, hp, hs, hr, hk⟩
  have R1 : Hid (Rb v1 g (fs (S1 ++ U2)) rest) := by unfold Hid; simpa [fs] using hr
  have P1 : Hid (S1.Perm U1 ∧ S1.Pairwise lt) := ⟨hp, hs⟩
  have K1 : Hid (Kp g w v1) := hk
  clear hp hs hr hk
  go_wp2_with fail
  rw [rounds_succ]
  go_wp2_with fail
  have C : Calls _ _ _ _ _ := isort_i (S1) U2 ([]) g cap n 20 (n : Nat) rest v1 ((List.pairwise_append.1 HU.out).2.1) (by have := R1.out; simpa [fs] using this) (by have q1 := HL.out; have q2 := HN.out; have z1 := P1.out.1.length_eq; (try simp only [List.length_append, List.length_nil]); omega) (by have := HL.out; omega) (by have q1 := HL.out; have q2 := HN.out; have z1 := P1.out.1.length_eq; (try simp only [List.length_append, List.length_nil]); omega) (by have q1 := HL.out; have q2 := HN.out; have z1 := P1.out.1.length_eq; (try simp only [List.length_append, List.length_nil]); omega)
  refine Calls.mono C ?_
  clear C
  rintro er v2 ⟨rfl, S2, hp, hs, hr, hk⟩
  have R2 : Hid (Rb v2 g (fs (S1 ++ S2)) rest) := by unfold Hid; simpa [fs] using hr
  have P2 : Hid (S2.Perm U2 ∧ S2.Pairwise lt) := ⟨hp, hs⟩
  have K2 : Hid (Kp g w v2) := K1.out.trans hk
  clear hp hs hr hk
  go_wp2_with fail
  refine wp_loop_rounds 1 ?_
  rw [rounds_succ]
  go_wp2_with fail
  go_wp2
  go_end0
  have eS2 : S2 = [] := List.length_eq_zero_iff.1 (by have q1 := HL.out; have q2 := HN.out; have z := P2.out.1.length_eq; omega)
  have eU2 : U2 = [] := List.length_eq_zero_iff.1 (by have q1 := HL.out; have q2 := HN.out; omega)
  refine ⟨rfl, S1, ?_, P1.out.2, ?_, K2.out⟩
  · have h := P1.out.1
    simpa [eU2] using h
  · have h := R2.out
    rw [eS2] at h
    simpa using h
end Go.Proofs.YteieikgkmfglaaaGreatDoor

namespace Go.Proofs.YteieikgkmfglaaaGreatDoor
open Go.RowKit Go.Proofs.YteieikgkmfglaaaGreatDoor.So
set_option linter.unusedVariables false
set_option linter.unusedSimpArgs false


set_option maxRecDepth 100000 in
set_option maxHeartbeats 16000000 in
theorem stab_b1 (U1 U2 : List T) (g cap n : Nat) (rest : List Value) (w : World) (h1 : U1.length = 20) (h2 : U2.length = n - 20) (hU : (U1 ++ U2).Pairwise (fun x y => x.2 < y.2)) (hr : Rb w g (fs (U1 ++ U2)) rest) (hn : 20 < n ∧ n < 40) :
    Calls Tryz.prog 130 #[.slice (some ⟨g, 0, none⟩) n cap, .int .i64 (n : Nat), .func (.func 105) #[] #[]] w (StabSays (U1 ++ U2) g rest w) := by
  have R0 : Hid (Rb w g (fs (U1 ++ U2)) rest) := hr
  have HU : Hid ((U1 ++ U2).Pairwise (fun x y => x.2 < y.2)) := hU
  have HL : Hid (U1.length = 20 ∧ U2.length = n - 20 ∧ n ≤ 60) := ⟨h1, h2, by omega⟩
  have le20 : (20 : Int) ≤ (n : Nat) := by omega
  have le40 : ¬ (40 : Int) ≤ (n : Nat) := by omega
  have lt20 : (20 : Int) < (n : Nat) := by omega
  have lt40 : ¬ (40 : Int) < (n : Nat) := by omega
  have le80 : ¬ (80 : Int) ≤ (n : Nat) := by omega
  have HN : Hid (20 < n ∧ n < 40) := hn
  clear hn
  clear hr hU h1 h2
  go_enter Tryz.func130, Tryz.ntmps130
  go_wp2_with fail
  refine wp_loop_rounds 2 ?_
  rw [rounds_succ]
  go_wp2_with fail
  have C : Calls _ _ _ _ _ := isort_i ([]) U1 (U2) g cap n 0 20 rest w ((List.pairwise_append.1 HU.out).1) (by have := R0.out; simpa [fs] using this) (by have q1 := HL.out; have q2 := HN.out;  (try simp only [List.length_append, List.length_nil]); omega) (by have := HL.out; omega) (by have q1 := HL.out; have q2 := HN.out;  (try simp only [List.length_append, List.length_nil]); omega) (by have q1 := HL.out; have q2 := HN.out;  (try simp only [List.length_append, List.length_nil]); omega)
  refine Calls.mono C ?_
  clear C
  rintro er v1 ⟨rfl, S1, hp, hs, hr, hk⟩
  have R1 : Hid (Rb v1 g (fs (S1 ++ U2)) rest) := by unfold Hid; simpa [fs] using hr
  have P1 : Hid (S1.Perm U1 ∧ S1.Pairwise lt) := ⟨hp, hs⟩
  have K1 : Hid (Kp g w v1) := hk
  clear hp hs hr hk
  go_wp2_with fail
  rw [rounds_succ]
  go_wp2_with fail
  have C : Calls _ _ _ _ _ := isort_i (S1) U2 ([]) g cap n 20 (n : Nat) rest v1 ((List.pairwise_append.1 HU.out).2.1) (by have := R1.out; simpa [fs] using this) (by have q1 := HL.out; have q2 := HN.out; have z1 := P1.out.1.length_eq; (try simp only [List.length_append, List.length_nil]); omega) (by have := HL.out; omega) (by have q1 := HL.out; have q2 := HN.out; have z1 := P1.out.1.length_eq; (try simp only [List.length_append, List.length_nil]); omega) (by have q1 := HL.out; have q2 := HN.out; have z1 := P1.out.1.length_eq; (try simp only [List.length_append, List.length_nil]); omega)
  refine Calls.mono C ?_
  clear C
  rintro er v2 ⟨rfl, S2, hp, hs, hr, hk⟩
  have R2 : Hid (Rb v2 g (fs (S1 ++ S2)) rest) := by unfold Hid; simpa [fs] using hr
  have P2 : Hid (S2.Perm U2 ∧ S2.Pairwise lt) := ⟨hp, hs⟩
  have K2 : Hid (Kp g w v2) := K1.out.trans hk
  clear hp hs hr hk
  go_wp2_with fail
  refine wp_loop_rounds 2 ?_
  rw [rounds_succ]
  go_wp2_with fail
  refine wp_loop_rounds 1 ?_
  rw [rounds_succ]
  go_wp2_with fail
  have TG : Hid (∀ x ∈ S1, ∀ y ∈ S2, x.2 < y.2) := fun x hx y hy => by have h1 := P1.out.1.mem_iff.1 hx; have h2 := P2.out.1.mem_iff.1 hy; have h3 := HU.out; have e : (U1) ++ (U2) ++ ([]) = U1 ++ U2 := (by simp); rw [← e, List.pairwise_append] at h3; exact (List.pairwise_append.1 h3.1).2.2 x h1 y h2
  have C : Calls _ _ _ _ _ := sym_i ([]) S1 S2 ([]) g cap n 0 20 (n : Nat) rest v2 (ne_of_pos (by have q1 := HL.out; have q2 := HN.out; have z0 := P1.out.1.length_eq; have z1 := P2.out.1.length_eq; (try simp only [List.length_append] at z0 z1); (try simp only [List.length_append, List.length_nil]); omega)) (ne_of_pos (by have q1 := HL.out; have q2 := HN.out; have z0 := P1.out.1.length_eq; have z1 := P2.out.1.length_eq; (try simp only [List.length_append] at z0 z1); (try simp only [List.length_append, List.length_nil]); omega)) P1.out.2 P2.out.2 TG.out (by have := R2.out; simpa [fs] using this) (by have q1 := HL.out; have q2 := HN.out; have z0 := P1.out.1.length_eq; have z1 := P2.out.1.length_eq; (try simp only [List.length_append] at z0 z1); (try simp only [List.length_append, List.length_nil]); omega) (by have := HL.out; omega) (by have q1 := HL.out; have q2 := HN.out; have z0 := P1.out.1.length_eq; have z1 := P2.out.1.length_eq; (try simp only [List.length_append] at z0 z1); (try simp only [List.length_append, List.length_nil]); omega) (by have q1 := HL.out; have q2 := HN.out; have z0 := P1.out.1.length_eq; have z1 := P2.out.1.length_eq; (try simp only [List.length_append] at z0 z1); (try simp only [List.length_append, List.length_nil]); omega) (by have q1 := HL.out; have q2 := HN.out; have z0 := P1.out.1.length_eq; have z1 := P2.out.1.length_eq; (try simp only [List.length_append] at z0 z1); (try simp only [List.length_append, List.length_nil]); omega)
  refine Calls.mono C ?_
  clear C
  rintro er v3 ⟨rfl, S3, hp, hs, hr, hk⟩
  have R3 : Hid (Rb v3 g (fs (S3)) rest) := by unfold Hid; simpa [fs] using hr
  have P3 : Hid (S3.Perm (U1 ++ U2) ∧ S3.Pairwise lt) := ⟨hp.trans (P1.out.1.append P2.out.1), hs⟩
  have K3 : Hid (Kp g w v3) := K2.out.trans hk
  clear hp hs hr hk TG
  go_wp2_with fail
  rw [rounds_succ]
  go_wp2_with fail
  go_wp2
  go_end0
  exact ⟨rfl, S3, P3.out.1, P3.out.2, R3.out, K3.out⟩
end Go.Proofs.YteieikgkmfglaaaGreatDoor

namespace Go.Proofs.YteieikgkmfglaaaGreatDoor
open Go.RowKit Go.Proofs.YteieikgkmfglaaaGreatDoor.So
set_option linter.unusedVariables false
set_option linter.unusedSimpArgs false


set_option maxRecDepth 100000 in
set_option maxHeartbeats 16000000 in
theorem stab_c0 (U1 U2 U3 : List T) (g cap n : Nat) (rest : List Value) (w : World) (h1 : U1.length = 20) (h2 : U2.length = 20) (h3 : U3.length = 0) (hU : (U1 ++ U2 ++ U3).Pairwise (fun x y => x.2 < y.2)) (hr : Rb w g (fs (U1 ++ U2 ++ U3)) rest) (hn : n = 40) :
    Calls Tryz.prog 130 #[.slice (some ⟨g, 0, none⟩) n cap, .int .i64 (n : Nat), .func (.func 105) #[] #[]] w (StabSays (U1 ++ U2 ++ U3) g rest w) := by
  have R0 : Hid (Rb w g (fs (U1 ++ U2 ++ U3)) rest) := hr
  have HU : Hid ((U1 ++ U2 ++ U3).Pairwise (fun x y => x.2 < y.2)) := hU
  have HL : Hid (U1.length = 20 ∧ U2.length = 20 ∧ U3.length = 0 ∧ n ≤ 60) := ⟨h1, h2, h3, by omega⟩
  have le20 : (20 : Int) ≤ (n : Nat) := by omega
  have le40 : (40 : Int) ≤ (n : Nat) := by omega
  have le60 : ¬ (60 : Int) ≤ (n : Nat) := by omega
  have lt20 : (20 : Int) < (n : Nat) := by omega
  have lt40 : ¬ (40 : Int) < (n : Nat) := by omega
  have le80 : ¬ (80 : Int) ≤ (n : Nat) := by omega
  have HN : Hid (n = 40) := hn
  clear hn
  clear hr hU h1 h2 h3
  go_enter Tryz.func130, Tryz.ntmps130
  go_wp2_with fail
  refine wp_loop_rounds 3 ?_
  rw [rounds_succ]
  go_wp2_with fail
  have C : Calls _ _ _ _ _ := isort_i ([]) U1 (U2 ++ U3) g cap n 0 20 rest w ((List.pairwise_append.1 (List.pairwise_append.1 HU.out).1).1) (by have := R0.out; simpa [fs] using this) (by have q1 := HL.out; have q2 := HN.out;  (try simp only [List.length_append, List.length_nil]); omega) (by have := HL.out; omega) (by have q1 := HL.out; have q2 := HN.out;  (try simp only [List.length_append, List.length_nil]); omega) (by have q1 := HL.out; have q2 := HN.out;  (try simp only [List.length_append, List.length_nil]); omega)
  refine Calls.mono C ?_
  clear C
  rintro er v1 ⟨rfl, S1, hp, hs, hr, hk⟩
  have R1 : Hid (Rb v1 g (fs (S1 ++ U2 ++ U3)) rest) := by unfold Hid; simpa [fs] using hr
  have P1 : Hid (S1.Perm U1 ∧ S1.Pairwise lt) := ⟨hp, hs⟩
  have K1 : Hid (Kp g w v1) := hk
  clear hp hs hr hk
  go_wp2_with fail
  rw [rounds_succ]
  go_wp2_with fail
  have C : Calls _ _ _ _ _ := isort_i (S1) U2 (U3) g cap n 20 40 rest v1 ((List.pairwise_append.1 (List.pairwise_append.1 HU.out).1).2.1) (by have := R1.out; simpa [fs] using this) (by have q1 := HL.out; have q2 := HN.out; have z1 := P1.out.1.length_eq; (try simp only [List.length_append, List.length_nil]); omega) (by have := HL.out; omega) (by have q1 := HL.out; have q2 := HN.out; have z1 := P1.out.1.length_eq; (try simp only [List.length_append, List.length_nil]); omega) (by have q1 := HL.out; have q2 := HN.out; have z1 := P1.out.1.length_eq; (try simp only [List.length_append, List.length_nil]); omega)
  refine Calls.mono C ?_
  clear C
  rintro er v2 ⟨rfl, S2, hp, hs, hr, hk⟩
  have R2 : Hid (Rb v2 g (fs (S1 ++ S2 ++ U3)) rest) := by unfold Hid; simpa [fs] using hr
  have P2 : Hid (S2.Perm U2 ∧ S2.Pairwise lt) := ⟨hp, hs⟩
  have K2 : Hid (Kp g w v2) := K1.out.trans hk
  clear hp hs hr hk
  go_wp2_with fail
  rw [rounds_succ]
  go_wp2_with fail
  have C : Calls _ _ _ _ _ := isort_i (S1 ++ S2) U3 ([]) g cap n 40 (n : Nat) rest v2 ((List.pairwise_append.1 HU.out).2.1) (by have := R2.out; simpa [fs] using this) (by have q1 := HL.out; have q2 := HN.out; have z1 := P1.out.1.length_eq; have z2 := P2.out.1.length_eq; (try simp only [List.length_append, List.length_nil]); omega) (by have := HL.out; omega) (by have q1 := HL.out; have q2 := HN.out; have z1 := P1.out.1.length_eq; have z2 := P2.out.1.length_eq; (try simp only [List.length_append, List.length_nil]); omega) (by have q1 := HL.out; have q2 := HN.out; have z1 := P1.out.1.length_eq; have z2 := P2.out.1.length_eq; (try simp only [List.length_append, List.length_nil]); omega)
  refine Calls.mono C ?_
  clear C
  rintro er v3 ⟨rfl, S3, hp, hs, hr, hk⟩
  have R3 : Hid (Rb v3 g (fs (S1 ++ S2 ++ S3)) rest) := by unfold Hid; simpa [fs] using hr
  have P3 : Hid (S3.Perm U3 ∧ S3.Pairwise lt) := ⟨hp, hs⟩
  have K3 : Hid (Kp g w v3) := K2.out.trans hk
  clear hp hs hr hk
  go_wp2_with fail
  refine wp_loop_rounds 2 ?_
  rw [rounds_succ]
  go_wp2_with fail
  refine wp_loop_rounds 2 ?_
  rw [rounds_succ]
  go_wp2_with fail
  have TG : Hid (∀ x ∈ S1, ∀ y ∈ S2, x.2 < y.2) := fun x hx y hy => by have h1 := P1.out.1.mem_iff.1 hx; have h2 := P2.out.1.mem_iff.1 hy; have h3 := HU.out; have e : (U1) ++ (U2) ++ (U3) = U1 ++ U2 ++ U3 := (by simp); rw [← e, List.pairwise_append] at h3; exact (List.pairwise_append.1 h3.1).2.2 x h1 y h2
  have C : Calls _ _ _ _ _ := sym_i ([]) S1 S2 (S3) g cap n 0 20 40 rest v3 (ne_of_pos (by have q1 := HL.out; have q2 := HN.out; have z0 := P1.out.1.length_eq; have z1 := P2.out.1.length_eq; have z2 := P3.out.1.length_eq; (try simp only [List.length_append] at z0 z1 z2); (try simp only [List.length_append, List.length_nil]); omega)) (ne_of_pos (by have q1 := HL.out; have q2 := HN.out; have z0 := P1.out.1.length_eq; have z1 := P2.out.1.length_eq; have z2 := P3.out.1.length_eq; (try simp only [List.length_append] at z0 z1 z2); (try simp only [List.length_append, List.length_nil]); omega)) P1.out.2 P2.out.2 TG.out (by have := R3.out; simpa [fs] using this) (by have q1 := HL.out; have q2 := HN.out; have z0 := P1.out.1.length_eq; have z1 := P2.out.1.length_eq; have z2 := P3.out.1.length_eq; (try simp only [List.length_append] at z0 z1 z2); (try simp only [List.length_append, List.length_nil]); omega) (by have := HL.out; omega) (by have q1 := HL.out; have q2 := HN.out; have z0 := P1.out.1.length_eq; have z1 := P2.out.1.length_eq; have z2 := P3.out.1.length_eq; (try simp only [List.length_append] at z0 z1 z2); (try simp only [List.length_append, List.length_nil]); omega) (by have q1 := HL.out; have q2 := HN.out; have z0 := P1.out.1.length_eq; have z1 := P2.out.1.length_eq; have z2 := P3.out.1.length_eq; (try simp only [List.length_append] at z0 z1 z2); (try simp only [List.length_append, List.length_nil]); omega) (by have q1 := HL.out; have q2 := HN.out; have z0 := P1.out.1.length_eq; have z1 := P2.out.1.length_eq; have z2 := P3.out.1.length_eq; (try simp only [List.length_append] at z0 z1 z2); (try simp only [List.length_append, List.length_nil]); omega)
  refine Calls.mono C ?_
  clear C
  rintro er v4 ⟨rfl, S4, hp, hs, hr, hk⟩
  have R4 : Hid (Rb v4 g (fs (S4 ++ S3)) rest) := by unfold Hid; simpa [fs] using hr
  have P4 : Hid (S4.Perm (U1 ++ U2) ∧ S4.Pairwise lt) := ⟨hp.trans (P1.out.1.append P2.out.1), hs⟩
  have K4 : Hid (Kp g w v4) := K3.out.trans hk
  clear hp hs hr hk TG
  go_wp2_with fail
  rw [rounds_succ]
  go_wp2_with fail
  rw [rounds_succ]
  go_wp2_with fail
  go_wp2
  go_end0
  have eS3 : S3 = [] := List.length_eq_zero_iff.1 (by have q1 := HL.out; have q2 := HN.out; have z := P3.out.1.length_eq; omega)
  have eU3 : U3 = [] := List.length_eq_zero_iff.1 (by have q1 := HL.out; have q2 := HN.out; omega)
  refine ⟨rfl, S4, ?_, P4.out.2, ?_, K4.out⟩
  · have h := P4.out.1
    simpa [eU3] using h
  · have h := R4.out
    rw [eS3] at h
    simpa using h
end Go.Proofs.YteieikgkmfglaaaGreatDoor

namespace Go.Proofs.YteieikgkmfglaaaGreatDoor
open Go.RowKit Go.Proofs.YteieikgkmfglaaaGreatDoor.So
set_option linter.unusedVariables false
set_option linter.unusedSimpArgs false


set_option maxRecDepth 100000 in
set_option maxHeartbeats 16000000 in
theorem stab_c1 (U1 U2 U3 : List T) (g cap n : Nat) (rest : List Value) (w : World) (h1 : U1.length = 20) (h2 : U2.length = 20) (h3 : U3.length = n - 40) (hU : (U1 ++ U2 ++ U3).Pairwise (fun x y => x.2 < y.2)) (hr : Rb w g (fs (U1 ++ U2 ++ U3)) rest) (hn : 40 < n ∧ n < 60) :
    Calls Tryz.prog 130 #[.slice (some ⟨g, 0, none⟩) n cap, .int .i64 (n : Nat), .func (.func 105) #[] #[]] w (StabSays (U1 ++ U2 ++ U3) g rest w) := by
  have R0 : Hid (Rb w g (fs (U1 ++ U2 ++ U3)) rest) := hr
  have HU : Hid ((U1 ++ U2 ++ U3).Pairwise (fun x y => x.2 < y.2)) := hU
  have HL : Hid (U1.length = 20 ∧ U2.length = 20 ∧ U3.length = n - 40 ∧ n ≤ 60) := ⟨h1, h2, h3, by omega⟩
  have le20 : (20 : Int) ≤ (n : Nat) := by omega
  have le40 : (40 : Int) ≤ (n : Nat) := by omega
  have le60 : ¬ (60 : Int) ≤ (n : Nat) := by omega
  have lt20 : (20 : Int) < (n : Nat) := by omega
  have lt40 : (40 : Int) < (n : Nat) := by omega
  have lt80 : ¬ (80 : Int) < (n : Nat) := by omega
  have le80 : ¬ (80 : Int) ≤ (n : Nat) := by omega
  have HN : Hid (40 < n ∧ n < 60) := hn
  clear hn
  clear hr hU h1 h2 h3
  go_enter Tryz.func130, Tryz.ntmps130
  go_wp2_with fail
  refine wp_loop_rounds 3 ?_
  rw [rounds_succ]
  go_wp2_with fail
  have C : Calls _ _ _ _ _ := isort_i ([]) U1 (U2 ++ U3) g cap n 0 20 rest w ((List.pairwise_append.1 (List.pairwise_append.1 HU.out).1).1) (by have := R0.out; simpa [fs] using this) (by have q1 := HL.out; have q2 := HN.out;  (try simp only [List.length_append, List.length_nil]); omega) (by have := HL.out; omega) (by have q1 := HL.out; have q2 := HN.out;  (try simp only [List.length_append, List.length_nil]); omega) (by have q1 := HL.out; have q2 := HN.out;  (try simp only [List.length_append, List.length_nil]); omega)
  refine Calls.mono C ?_
  clear C
  rintro er v1 ⟨rfl, S1, hp, hs, hr, hk⟩
  have R1 : Hid (Rb v1 g (fs (S1 ++ U2 ++ U3)) rest) := by unfold Hid; simpa [fs] using hr
  have P1 : Hid (S1.Perm U1 ∧ S1.Pairwise lt) := ⟨hp, hs⟩
  have K1 : Hid (Kp g w v1) := hk
  clear hp hs hr hk
  go_wp2_with fail
  rw [rounds_succ]
  go_wp2_with fail
  have C : Calls _ _ _ _ _ := isort_i (S1) U2 (U3) g cap n 20 40 rest v1 ((List.pairwise_append.1 (List.pairwise_append.1 HU.out).1).2.1) (by have := R1.out; simpa [fs] using this) (by have q1 := HL.out; have q2 := HN.out; have z1 := P1.out.1.length_eq; (try simp only [List.length_append, List.length_nil]); omega) (by have := HL.out; omega) (by have q1 := HL.out; have q2 := HN.out; have z1 := P1.out.1.length_eq; (try simp only [List.length_append, List.length_nil]); omega) (by have q1 := HL.out; have q2 := HN.out; have z1 := P1.out.1.length_eq; (try simp only [List.length_append, List.length_nil]); omega)
  refine Calls.mono C ?_
  clear C
  rintro er v2 ⟨rfl, S2, hp, hs, hr, hk⟩
  have R2 : Hid (Rb v2 g (fs (S1 ++ S2 ++ U3)) rest) := by unfold Hid; simpa [fs] using hr
  have P2 : Hid (S2.Perm U2 ∧ S2.Pairwise lt) := ⟨hp, hs⟩
  have K2 : Hid (Kp g w v2) := K1.out.trans hk
  clear hp hs hr hk
  go_wp2_with fail
  rw [rounds_succ]
  go_wp2_with fail
  have C : Calls _ _ _ _ _ := isort_i (S1 ++ S2) U3 ([]) g cap n 40 (n : Nat) rest v2 ((List.pairwise_append.1 HU.out).2.1) (by have := R2.out; simpa [fs] using this) (by have q1 := HL.out; have q2 := HN.out; have z1 := P1.out.1.length_eq; have z2 := P2.out.1.length_eq; (try simp only [List.length_append, List.length_nil]); omega) (by have := HL.out; omega) (by have q1 := HL.out; have q2 := HN.out; have z1 := P1.out.1.length_eq; have z2 := P2.out.1.length_eq; (try simp only [List.length_append, List.length_nil]); omega) (by have q1 := HL.out; have q2 := HN.out; have z1 := P1.out.1.length_eq; have z2 := P2.out.1.length_eq; (try simp only [List.length_append, List.length_nil]); omega)
  refine Calls.mono C ?_
  clear C
  rintro er v3 ⟨rfl, S3, hp, hs, hr, hk⟩
  have R3 : Hid (Rb v3 g (fs (S1 ++ S2 ++ S3)) rest) := by unfold Hid; simpa [fs] using hr
  have P3 : Hid (S3.Perm U3 ∧ S3.Pairwise lt) := ⟨hp, hs⟩
  have K3 : Hid (Kp g w v3) := K2.out.trans hk
  clear hp hs hr hk
  go_wp2_with fail
  refine wp_loop_rounds 3 ?_
  rw [rounds_succ]
  go_wp2_with fail
  refine wp_loop_rounds 2 ?_
  rw [rounds_succ]
  go_wp2_with fail
  have TG : Hid (∀ x ∈ S1, ∀ y ∈ S2, x.2 < y.2) := fun x hx y hy => by have h1 := P1.out.1.mem_iff.1 hx; have h2 := P2.out.1.mem_iff.1 hy; have h3 := HU.out; have e : (U1) ++ (U2) ++ (U3) = U1 ++ U2 ++ U3 := (by simp); rw [← e, List.pairwise_append] at h3; exact (List.pairwise_append.1 h3.1).2.2 x h1 y h2
  have C : Calls _ _ _ _ _ := sym_i ([]) S1 S2 (S3) g cap n 0 20 40 rest v3 (ne_of_pos (by have q1 := HL.out; have q2 := HN.out; have z0 := P1.out.1.length_eq; have z1 := P2.out.1.length_eq; have z2 := P3.out.1.length_eq; (try simp only [List.length_append] at z0 z1 z2); (try simp only [List.length_append, List.length_nil]); omega)) (ne_of_pos (by have q1 := HL.out; have q2 := HN.out; have z0 := P1.out.1.length_eq; have z1 := P2.out.1.length_eq; have z2 := P3.out.1.length_eq; (try simp only [List.length_append] at z0 z1 z2); (try simp only [List.length_append, List.length_nil]); omega)) P1.out.2 P2.out.2 TG.out (by have := R3.out; simpa [fs] using this) (by have q1 := HL.out; have q2 := HN.out; have z0 := P1.out.1.length_eq; have z1 := P2.out.1.length_eq; have z2 := P3.out.1.length_eq; (try simp only [List.length_append] at z0 z1 z2); (try simp only [List.length_append, List.length_nil]); omega) (by have := HL.out; omega) (by have q1 := HL.out; have q2 := HN.out; have z0 := P1.out.1.length_eq; have z1 := P2.out.1.length_eq; have z2 := P3.out.1.length_eq; (try simp only [List.length_append] at z0 z1 z2); (try simp only [List.length_append, List.length_nil]); omega) (by have q1 := HL.out; have q2 := HN.out; have z0 := P1.out.1.length_eq; have z1 := P2.out.1.length_eq; have z2 := P3.out.1.length_eq; (try simp only [List.length_append] at z0 z1 z2); (try simp only [List.length_append, List.length_nil]); omega) (by have q1 := HL.out; have q2 := HN.out; have z0 := P1.out.1.length_eq; have z1 := P2.out.1.length_eq; have z2 := P3.out.1.length_eq; (try simp only [List.length_append] at z0 z1 z2); (try simp only [List.length_append, List.length_nil]); omega)
  refine Calls.mono C ?_
  clear C
  rintro er v4 ⟨rfl, S4, hp, hs, hr, hk⟩
  have R4 : Hid (Rb v4 g (fs (S4 ++ S3)) rest) := by unfold Hid; simpa [fs] using hr
  have P4 : Hid (S4.Perm (U1 ++ U2) ∧ S4.Pairwise lt) := ⟨hp.trans (P1.out.1.append P2.out.1), hs⟩
  have K4 : Hid (Kp g w v4) := K3.out.trans hk
  clear hp hs hr hk TG
  go_wp2_with fail
  rw [rounds_succ]
  go_wp2_with fail
  rw [rounds_succ]
  go_wp2_with fail
  refine wp_loop_rounds 1 ?_
  rw [rounds_succ]
  go_wp2_with fail
  have TG : Hid (∀ x ∈ S4, ∀ y ∈ S3, x.2 < y.2) := fun x hx y hy => by have h1 := P4.out.1.mem_iff.1 hx; have h2 := P3.out.1.mem_iff.1 hy; have h3 := HU.out; have e : (U1 ++ U2) ++ (U3) ++ ([]) = U1 ++ U2 ++ U3 := (by simp); rw [← e, List.pairwise_append] at h3; exact (List.pairwise_append.1 h3.1).2.2 x h1 y h2
  have C : Calls _ _ _ _ _ := sym_i ([]) S4 S3 ([]) g cap n 0 40 (n : Nat) rest v4 (ne_of_pos (by have q1 := HL.out; have q2 := HN.out; have z0 := P4.out.1.length_eq; have z1 := P3.out.1.length_eq; (try simp only [List.length_append] at z0 z1); (try simp only [List.length_append, List.length_nil]); omega)) (ne_of_pos (by have q1 := HL.out; have q2 := HN.out; have z0 := P4.out.1.length_eq; have z1 := P3.out.1.length_eq; (try simp only [List.length_append] at z0 z1); (try simp only [List.length_append, List.length_nil]); omega)) P4.out.2 P3.out.2 TG.out (by have := R4.out; simpa [fs] using this) (by have q1 := HL.out; have q2 := HN.out; have z0 := P4.out.1.length_eq; have z1 := P3.out.1.length_eq; (try simp only [List.length_append] at z0 z1); (try simp only [List.length_append, List.length_nil]); omega) (by have := HL.out; omega) (by have q1 := HL.out; have q2 := HN.out; have z0 := P4.out.1.length_eq; have z1 := P3.out.1.length_eq; (try simp only [List.length_append] at z0 z1); (try simp only [List.length_append, List.length_nil]); omega) (by have q1 := HL.out; have q2 := HN.out; have z0 := P4.out.1.length_eq; have z1 := P3.out.1.length_eq; (try simp only [List.length_append] at z0 z1); (try simp only [List.length_append, List.length_nil]); omega) (by have q1 := HL.out; have q2 := HN.out; have z0 := P4.out.1.length_eq; have z1 := P3.out.1.length_eq; (try simp only [List.length_append] at z0 z1); (try simp only [List.length_append, List.length_nil]); omega)
  refine Calls.mono C ?_
  clear C
  rintro er v5 ⟨rfl, S5, hp, hs, hr, hk⟩
  have R5 : Hid (Rb v5 g (fs (S5)) rest) := by unfold Hid; simpa [fs] using hr
  have P5 : Hid (S5.Perm ((U1 ++ U2) ++ U3) ∧ S5.Pairwise lt) := ⟨hp.trans (P4.out.1.append P3.out.1), hs⟩
  have K5 : Hid (Kp g w v5) := K4.out.trans hk
  clear hp hs hr hk TG
  go_wp2_with fail
  rw [rounds_succ]
  go_wp2_with fail
  go_wp2
  go_end0
  exact ⟨rfl, S5, P5.out.1, P5.out.2, R5.out, K5.out⟩
end Go.Proofs.YteieikgkmfglaaaGreatDoor

namespace Go.Proofs.YteieikgkmfglaaaGreatDoor
open Go.RowKit Go.Proofs.YteieikgkmfglaaaGreatDoor.So
set_option linter.unusedVariables false
set_option linter.unusedSimpArgs false


set_option maxRecDepth 100000 in
set_option maxHeartbeats 16000000 in
theorem stab_d (U1 U2 U3 U4 : List T) (g cap n : Nat) (rest : List Value) (w : World) (h1 : U1.length = 20) (h2 : U2.length = 20) (h3 : U3.length = 20) (h4 : U4.length = 0) (hU : (U1 ++ U2 ++ U3 ++ U4).Pairwise (fun x y => x.2 < y.2)) (hr : Rb w g (fs (U1 ++ U2 ++ U3 ++ U4)) rest) (hn : n = 60) :
    Calls Tryz.prog 130 #[.slice (some ⟨g, 0, none⟩) n cap, .int .i64 (n : Nat), .func (.func 105) #[] #[]] w (StabSays (U1 ++ U2 ++ U3 ++ U4) g rest w) := by
  have R0 : Hid (Rb w g (fs (U1 ++ U2 ++ U3 ++ U4)) rest) := hr
  have HU : Hid ((U1 ++ U2 ++ U3 ++ U4).Pairwise (fun x y => x.2 < y.2)) := hU
  have HL : Hid (U1.length = 20 ∧ U2.length = 20 ∧ U3.length = 20 ∧ U4.length = 0 ∧ n ≤ 60) := ⟨h1, h2, h3, h4, by omega⟩
  have le20 : (20 : Int) ≤ (n : Nat) := by omega
  have le40 : (40 : Int) ≤ (n : Nat) := by omega
  have le60 : (60 : Int) ≤ (n : Nat) := by omega
  have le80 : ¬ (80 : Int) ≤ (n : Nat) := by omega
  have lt20 : (20 : Int) < (n : Nat) := by omega
  have lt40 : (40 : Int) < (n : Nat) := by omega
  have lt80 : ¬ (80 : Int) < (n : Nat) := by omega
  have lt60 : ¬ (60 : Int) < (n : Nat) := by omega
  have HN : Hid (n = 60) := hn
  clear hn
  clear hr hU h1 h2 h3 h4
  go_enter Tryz.func130, Tryz.ntmps130
  go_wp2_with fail
  refine wp_loop_rounds 4 ?_
  rw [rounds_succ]
  go_wp2_with fail
  have C : Calls _ _ _ _ _ := isort_i ([]) U1 (U2 ++ U3 ++ U4) g cap n 0 20 rest w ((List.pairwise_append.1 (List.pairwise_append.1 (List.pairwise_append.1 HU.out).1).1).1) (by have := R0.out; simpa [fs] using this) (by have q1 := HL.out; have q2 := HN.out;  (try simp only [List.length_append, List.length_nil]); omega) (by have := HL.out; omega) (by have q1 := HL.out; have q2 := HN.out;  (try simp only [List.length_append, List.length_nil]); omega) (by have q1 := HL.out; have q2 := HN.out;  (try simp only [List.length_append, List.length_nil]); omega)
  refine Calls.mono C ?_
  clear C
  rintro er v1 ⟨rfl, S1, hp, hs, hr, hk⟩
  have R1 : Hid (Rb v1 g (fs (S1 ++ U2 ++ U3 ++ U4)) rest) := by unfold Hid; simpa [fs] using hr
  have P1 : Hid (S1.Perm U1 ∧ S1.Pairwise lt) := ⟨hp, hs⟩
  have K1 : Hid (Kp g w v1) := hk
  clear hp hs hr hk
  go_wp2_with fail
  rw [rounds_succ]
  go_wp2_with fail
  have C : Calls _ _ _ _ _ := isort_i (S1) U2 (U3 ++ U4) g cap n 20 40 rest v1 ((List.pairwise_append.1 (List.pairwise_append.1 (List.pairwise_append.1 HU.out).1).1).2.1) (by have := R1.out; simpa [fs] using this) (by have q1 := HL.out; have q2 := HN.out; have z1 := P1.out.1.length_eq; (try simp only [List.length_append, List.length_nil]); omega) (by have := HL.out; omega) (by have q1 := HL.out; have q2 := HN.out; have z1 := P1.out.1.length_eq; (try simp only [List.length_append, List.length_nil]); omega) (by have q1 := HL.out; have q2 := HN.out; have z1 := P1.out.1.length_eq; (try simp only [List.length_append, List.length_nil]); omega)
  refine Calls.mono C ?_
  clear C
  rintro er v2 ⟨rfl, S2, hp, hs, hr, hk⟩
  have R2 : Hid (Rb v2 g (fs (S1 ++ S2 ++ U3 ++ U4)) rest) := by unfold Hid; simpa [fs] using hr
  have P2 : Hid (S2.Perm U2 ∧ S2.Pairwise lt) := ⟨hp, hs⟩
  have K2 : Hid (Kp g w v2) := K1.out.trans hk
  clear hp hs hr hk
  go_wp2_with fail
  rw [rounds_succ]
  go_wp2_with fail
  have C : Calls _ _ _ _ _ := isort_i (S1 ++ S2) U3 (U4) g cap n 40 60 rest v2 ((List.pairwise_append.1 (List.pairwise_append.1 HU.out).1).2.1) (by have := R2.out; simpa [fs] using this) (by have q1 := HL.out; have q2 := HN.out; have z1 := P1.out.1.length_eq; have z2 := P2.out.1.length_eq; (try simp only [List.length_append, List.length_nil]); omega) (by have := HL.out; omega) (by have q1 := HL.out; have q2 := HN.out; have z1 := P1.out.1.length_eq; have z2 := P2.out.1.length_eq; (try simp only [List.length_append, List.length_nil]); omega) (by have q1 := HL.out; have q2 := HN.out; have z1 := P1.out.1.length_eq; have z2 := P2.out.1.length_eq; (try simp only [List.length_append, List.length_nil]); omega)
  refine Calls.mono C ?_
  clear C
  rintro er v3 ⟨rfl, S3, hp, hs, hr, hk⟩
  have R3 : Hid (Rb v3 g (fs (S1 ++ S2 ++ S3 ++ U4)) rest) := by unfold Hid; simpa [fs] using hr
  have P3 : Hid (S3.Perm U3 ∧ S3.Pairwise lt) := ⟨hp, hs⟩
  have K3 : Hid (Kp g w v3) := K2.out.trans hk
  clear hp hs hr hk
  go_wp2_with fail
  rw [rounds_succ]
  go_wp2_with fail
  have C : Calls _ _ _ _ _ := isort_i (S1 ++ S2 ++ S3) U4 ([]) g cap n 60 (n : Nat) rest v3 ((List.pairwise_append.1 HU.out).2.1) (by have := R3.out; simpa [fs] using this) (by have q1 := HL.out; have q2 := HN.out; have z1 := P1.out.1.length_eq; have z2 := P2.out.1.length_eq; have z3 := P3.out.1.length_eq; (try simp only [List.length_append, List.length_nil]); omega) (by have := HL.out; omega) (by have q1 := HL.out; have q2 := HN.out; have z1 := P1.out.1.length_eq; have z2 := P2.out.1.length_eq; have z3 := P3.out.1.length_eq; (try simp only [List.length_append, List.length_nil]); omega) (by have q1 := HL.out; have q2 := HN.out; have z1 := P1.out.1.length_eq; have z2 := P2.out.1.length_eq; have z3 := P3.out.1.length_eq; (try simp only [List.length_append, List.length_nil]); omega)
  refine Calls.mono C ?_
  clear C
  rintro er v4 ⟨rfl, S4, hp, hs, hr, hk⟩
  have R4 : Hid (Rb v4 g (fs (S1 ++ S2 ++ S3 ++ S4)) rest) := by unfold Hid; simpa [fs] using hr
  have P4 : Hid (S4.Perm U4 ∧ S4.Pairwise lt) := ⟨hp, hs⟩
  have K4 : Hid (Kp g w v4) := K3.out.trans hk
  clear hp hs hr hk
  go_wp2_with fail
  refine wp_loop_rounds 3 ?_
  rw [rounds_succ]
  go_wp2_with fail
  refine wp_loop_rounds 2 ?_
  rw [rounds_succ]
  go_wp2_with fail
  have TG : Hid (∀ x ∈ S1, ∀ y ∈ S2, x.2 < y.2) := fun x hx y hy => by have h1 := P1.out.1.mem_iff.1 hx; have h2 := P2.out.1.mem_iff.1 hy; have h3 := HU.out; have e : (U1) ++ (U2) ++ (U3 ++ U4) = U1 ++ U2 ++ U3 ++ U4 := (by simp); rw [← e, List.pairwise_append] at h3; exact (List.pairwise_append.1 h3.1).2.2 x h1 y h2
  have C : Calls _ _ _ _ _ := sym_i ([]) S1 S2 (S3 ++ S4) g cap n 0 20 40 rest v4 (ne_of_pos (by have q1 := HL.out; have q2 := HN.out; have z0 := P1.out.1.length_eq; have z1 := P2.out.1.length_eq; have z2 := P3.out.1.length_eq; have z3 := P4.out.1.length_eq; (try simp only [List.length_append] at z0 z1 z2 z3); (try simp only [List.length_append, List.length_nil]); omega)) (ne_of_pos (by have q1 := HL.out; have q2 := HN.out; have z0 := P1.out.1.length_eq; have z1 := P2.out.1.length_eq; have z2 := P3.out.1.length_eq; have z3 := P4.out.1.length_eq; (try simp only [List.length_append] at z0 z1 z2 z3); (try simp only [List.length_append, List.length_nil]); omega)) P1.out.2 P2.out.2 TG.out (by have := R4.out; simpa [fs] using this) (by have q1 := HL.out; have q2 := HN.out; have z0 := P1.out.1.length_eq; have z1 := P2.out.1.length_eq; have z2 := P3.out.1.length_eq; have z3 := P4.out.1.length_eq; (try simp only [List.length_append] at z0 z1 z2 z3); (try simp only [List.length_append, List.length_nil]); omega) (by have := HL.out; omega) (by have q1 := HL.out; have q2 := HN.out; have z0 := P1.out.1.length_eq; have z1 := P2.out.1.length_eq; have z2 := P3.out.1.length_eq; have z3 := P4.out.1.length_eq; (try simp only [List.length_append] at z0 z1 z2 z3); (try simp only [List.length_append, List.length_nil]); omega) (by have q1 := HL.out; have q2 := HN.out; have z0 := P1.out.1.length_eq; have z1 := P2.out.1.length_eq; have z2 := P3.out.1.length_eq; have z3 := P4.out.1.length_eq; (try simp only [List.length_append] at z0 z1 z2 z3); (try simp only [List.length_append, List.length_nil]); omega) (by have q1 := HL.out; have q2 := HN.out; have z0 := P1.out.1.length_eq; have z1 := P2.out.1.length_eq; have z2 := P3.out.1.length_eq; have z3 := P4.out.1.length_eq; (try simp only [List.length_append] at z0 z1 z2 z3); (try simp only [List.length_append, List.length_nil]); omega)
  refine Calls.mono C ?_
  clear C
  rintro er v5 ⟨rfl, S5, hp, hs, hr, hk⟩
  have R5 : Hid (Rb v5 g (fs (S5 ++ S3 ++ S4)) rest) := by unfold Hid; simpa [fs] using hr
  have P5 : Hid (S5.Perm (U1 ++ U2) ∧ S5.Pairwise lt) := ⟨hp.trans (P1.out.1.append P2.out.1), hs⟩
  have K5 : Hid (Kp g w v5) := K4.out.trans hk
  clear hp hs hr hk TG
  go_wp2_with fail
  rw [rounds_succ]
  go_wp2_with fail
  rw [rounds_succ]
  go_wp2_with fail
  refine wp_loop_rounds 1 ?_
  rw [rounds_succ]
  go_wp2_with fail
  have TG : Hid (∀ x ∈ S5, ∀ y ∈ S3, x.2 < y.2) := fun x hx y hy => by have h1 := P5.out.1.mem_iff.1 hx; have h2 := P3.out.1.mem_iff.1 hy; have h3 := HU.out; have e : (U1 ++ U2) ++ (U3) ++ (U4) = U1 ++ U2 ++ U3 ++ U4 := (by simp); rw [← e, List.pairwise_append] at h3; exact (List.pairwise_append.1 h3.1).2.2 x h1 y h2
  have C : Calls _ _ _ _ _ := sym_i ([]) S5 S3 (S4) g cap n 0 40 (n : Nat) rest v5 (ne_of_pos (by have q1 := HL.out; have q2 := HN.out; have z0 := P5.out.1.length_eq; have z1 := P3.out.1.length_eq; have z2 := P4.out.1.length_eq; (try simp only [List.length_append] at z0 z1 z2); (try simp only [List.length_append, List.length_nil]); omega)) (ne_of_pos (by have q1 := HL.out; have q2 := HN.out; have z0 := P5.out.1.length_eq; have z1 := P3.out.1.length_eq; have z2 := P4.out.1.length_eq; (try simp only [List.length_append] at z0 z1 z2); (try simp only [List.length_append, List.length_nil]); omega)) P5.out.2 P3.out.2 TG.out (by have := R5.out; simpa [fs] using this) (by have q1 := HL.out; have q2 := HN.out; have z0 := P5.out.1.length_eq; have z1 := P3.out.1.length_eq; have z2 := P4.out.1.length_eq; (try simp only [List.length_append] at z0 z1 z2); (try simp only [List.length_append, List.length_nil]); omega) (by have := HL.out; omega) (by have q1 := HL.out; have q2 := HN.out; have z0 := P5.out.1.length_eq; have z1 := P3.out.1.length_eq; have z2 := P4.out.1.length_eq; (try simp only [List.length_append] at z0 z1 z2); (try simp only [List.length_append, List.length_nil]); omega) (by have q1 := HL.out; have q2 := HN.out; have z0 := P5.out.1.length_eq; have z1 := P3.out.1.length_eq; have z2 := P4.out.1.length_eq; (try simp only [List.length_append] at z0 z1 z2); (try simp only [List.length_append, List.length_nil]); omega) (by have q1 := HL.out; have q2 := HN.out; have z0 := P5.out.1.length_eq; have z1 := P3.out.1.length_eq; have z2 := P4.out.1.length_eq; (try simp only [List.length_append] at z0 z1 z2); (try simp only [List.length_append, List.length_nil]); omega)
  refine Calls.mono C ?_
  clear C
  rintro er v6 ⟨rfl, S6, hp, hs, hr, hk⟩
  have R6 : Hid (Rb v6 g (fs (S6 ++ S4)) rest) := by unfold Hid; simpa [fs] using hr
  have P6 : Hid (S6.Perm ((U1 ++ U2) ++ U3) ∧ S6.Pairwise lt) := ⟨hp.trans (P5.out.1.append P3.out.1), hs⟩
  have K6 : Hid (Kp g w v6) := K5.out.trans hk
  clear hp hs hr hk TG
  go_wp2_with fail
  rw [rounds_succ]
  go_wp2_with fail
  go_wp2
  go_end0
  have eS4 : S4 = [] := List.length_eq_zero_iff.1 (by have q1 := HL.out; have q2 := HN.out; have z := P4.out.1.length_eq; omega)
  have eU4 : U4 = [] := List.length_eq_zero_iff.1 (by have q1 := HL.out; have q2 := HN.out; omega)
  refine ⟨rfl, S6, ?_, P6.out.2, ?_, K6.out⟩
  · have h := P6.out.1
    simpa [eU4] using h
  · have h := R6.out
    rw [eS4] at h
    simpa using h
end Go.Proofs.YteieikgkmfglaaaGreatDoor

namespace Go.Proofs.YteieikgkmfglaaaGreatDoor
open Go.RowKit Go.Proofs.YteieikgkmfglaaaGreatDoor.So
set_option linter.unusedVariables false

theorem cut2 (U : List T) (i : Nat) (h : i ≤ U.length) : ∃ U1 U2, U = U1 ++ U2 ∧ U1.length = i ∧ U2.length = U.length - i := ⟨U.take i, U.drop i, (List.take_append_drop _ _).symm, by rw [List.length_take]; omega, by rw [List.length_drop]⟩
theorem stab_any (U : List T) (g cap n : Nat) (rest : List Value) (w : World) (hL : U.length = n) (hn : n ≤ 60) (hU : U.Pairwise (fun x y => x.2 < y.2)) (hr : Rb w g (fs U) rest) :
    Calls Tryz.prog 130 #[.slice (some ⟨g, 0, none⟩) n cap, .int .i64 (n : Nat), .func (.func 105) #[] #[]] w (StabSays U g rest w) := by
  by_cases h20 : n < 20
  · exact stab_a U g cap n rest w hL hU hr h20
  obtain ⟨U1, V1, rfl, l1, m1⟩ := cut2 U 20 (by omega)
  by_cases h21 : n = 20
  · exact stab_b0 U1 V1 g cap n rest w l1 (by omega) hU hr h21
  by_cases h40 : n < 40
  · exact stab_b1 U1 V1 g cap n rest w l1 (by omega) hU hr ⟨by omega, h40⟩
  obtain ⟨U2, V2, rfl, l2, m2⟩ := cut2 V1 20 (by omega)
  rw [← List.append_assoc] at hU hr ⊢
  by_cases h41 : n = 40
  · exact stab_c0 U1 U2 V2 g cap n rest w l1 l2 (by omega) hU hr h41
  by_cases h60 : n < 60
  · exact stab_c1 U1 U2 V2 g cap n rest w l1 l2 (by omega) hU hr ⟨by omega, h60⟩
  obtain ⟨U3, V3, rfl, l3, m3⟩ := cut2 V2 20 (by omega)
  rw [← List.append_assoc] at hU hr ⊢
  exact stab_d U1 U2 U3 V3 g cap n rest w l1 l2 l3 (by omega) hU hr (by omega)
set_option maxHeartbeats 4000000 in
theorem sortst_any (U : List T) (g cap n : Nat) (rest : List Value) (w : World) (hL : U.length = n) (hn : n ≤ 60) (hU : U.Pairwise (fun x y => x.2 < y.2)) (hr : Rb w g (fs U) rest) :
    Calls Tryz.prog 104 #[.slice (some ⟨g, 0, none⟩) n cap, .func (.func 105) #[] #[]] w (StabSays U g rest w) := by
  have C := stab_any U g cap n rest w hL hn hU hr
  clear hL hn hU hr
  go_enter Tryz.func104, Tryz.ntmps104
  go_wp2_with fail
  refine Calls.mono C ?_
  rintro e w1 ⟨rfl, h⟩
  have H : Hid (∃ S, S.Perm U ∧ S.Pairwise lt ∧ Rb w1 g (fs S) rest ∧ Kp g w w1) := h
  clear h C
  go_wp2
  go_end0
  exact ⟨rfl, H.out⟩
end Go.Proofs.YteieikgkmfglaaaGreatDoor

namespace Go.Proofs.YteieikgkmfglaaaGreatDoor
open Go.RowKit Go.Proofs.YteieikgkmfglaaaGreatDoor.So
set_option linter.unusedVariables false

theorem Oro.rb {w : World} {base : Nat} {v : Value} {ks : List OrV} (h : Oro w base v ks) : (v = .slice none 0 0 ∧ ks = []) ∨ ∃ g cap rest, v = .slice (some ⟨g, 0, none⟩) ks.length cap ∧ base ≤ g ∧ ks.length ≤ cap ∧ cap ≤ maxLen ∧ ks.length * 4 + rest.length = cap * 4 ∧ Rb w g ks rest := by
  rcases h.2 with ⟨h1, h2⟩ | ⟨g, cap, cur, h1, h2, h3, h4, h5, h6, h7⟩
  · exact .inl ⟨h1, List.length_eq_zero_iff.1 h2⟩
  · refine .inr ⟨g, cap, cur.toList.drop (ks.length * 4), h1, h2, h4, h5, ?_, ?_⟩
    · have e6 : cur.toList.length = cap * 4 := by simpa using h6
      rw [List.length_drop, e6]
      have : ks.length * 4 ≤ cap * 4 := Nat.mul_le_mul_right _ h4
      omega
    · unfold Rb
      rw [← h7, List.take_append_drop, Array.toArray_toList]
      exact h3
theorem Rb.oro {w : World} {base g cap : Nat} {ks : List OrV} {rest : List Value} (h : Rb w g ks rest) (hb : base ≤ g) (h1 : ks.length ≤ cap) (h2 : cap ≤ maxLen) (h3 : ks.length * 4 + rest.length = cap * 4) : Oro w base (.slice (some ⟨g, 0, none⟩) ks.length cap) ks := by
  refine ⟨oflat_len ks, .inr ⟨g, cap, _, rfl, hb, h, h1, h2, ?_, ?_⟩⟩
  · simp only [List.size_toArray, List.length_append, oflat_len]; omega
  · show (ks.flatMap OrV.cs ++ rest).take (ks.length * 4) = _
    rw [List.take_append_of_le_length (by rw [oflat_len]; exact Nat.le_refl _), List.take_of_length_le (by rw [oflat_len]; exact Nat.le_refl _)]
set_option maxHeartbeats 1000000 in
theorem isort_nil (fv : Value) (w : World) : Calls Tryz.prog 153 #[.slice none 0 0, .int .i64 0, .int .i64 0, fv] w fun e w' => e = .returned (.tuple #[]) ∧ w' = w := by
  go_enter Tryz.func153, Tryz.ntmps153
  go_wp2_with fail
  refine wp_loop_rounds 1 ?_
  rw [rounds_succ]
  go_wp2
  go_end0
  exact ⟨rfl, rfl⟩
set_option maxHeartbeats 1000000 in
theorem stab_nil (fv : Value) (w : World) : Calls Tryz.prog 130 #[.slice none 0 0, .int .i64 0, fv] w fun e w' => e = .returned (.tuple #[]) ∧ w' = w := by
  go_enter Tryz.func130, Tryz.ntmps130
  go_wp2_with fail
  refine wp_loop_rounds 1 ?_
  rw [rounds_succ]
  go_wp2_with fail
  refine Calls.mono (isort_nil fv w) ?_
  rintro e w' ⟨rfl, rfl⟩
  go_wp2_with fail
  refine wp_loop_rounds 1 ?_
  rw [rounds_succ]
  go_wp2
  go_end0
  exact ⟨rfl, rfl⟩
set_option maxHeartbeats 1000000 in
theorem sort_nil (fv : Value) (w : World) : Calls Tryz.prog 104 #[.slice none 0 0, fv] w fun e w' => e = .returned (.tuple #[]) ∧ w' = w := by
  go_enter Tryz.func104, Tryz.ntmps104
  go_wp2_with fail
  refine Calls.mono (stab_nil fv w) ?_
  rintro e w' ⟨rfl, rfl⟩
  go_wp2
  go_end0
  exact ⟨rfl, rfl⟩
/-- what comes of a sort of an owned list. -/
theorem sort_own (l : List OrV) (v : Value) (b1 : Nat) (w : World) (hl : l.length ≤ 60) (ho : Oro w b1 v (fs (kp l l.length))) :
    Calls Tryz.prog 104 #[v, .func (.func 105) #[] #[]] w fun e w' => e = .returned (.tuple #[]) ∧ ∃ out, LastSays l out ∧ Oro w' b1 v out ∧ w.grownBy w' v.ownBlock := by
  rcases ho.rb with ⟨rfl, hn⟩ | ⟨g, cap, rest, rfl, hb, h1, h2, h3, hr⟩
  · refine (sort_nil _ w).mono ?_
    rintro e w' ⟨rfl, rfl⟩
    have e0 : kp l l.length = [] := List.map_eq_nil_iff.1 hn
    refine ⟨rfl, [], ⟨[], by rw [e0], List.Pairwise.nil, rfl⟩, by rw [hn] at ho; exact ho, ?_⟩
    exact ⟨rfl, rfl, rfl, Nat.le_refl _, fun _ _ _ => rfl⟩
  · have hlen : (fs (kp l l.length)).length = (kp l l.length).length := by simp [fs]
    rw [hlen] at h1 h3 ⊢
    refine (sortst_any (kp l l.length) g cap _ rest w rfl (Nat.le_trans (kp_len _) hl) (kp_tags _) hr).mono ?_
    rintro e w' ⟨rfl, S, hp, hs, hr', hk⟩
    have el : (fs S).length = (kp l l.length).length := by simp [fs, hp.length_eq]
    refine ⟨rfl, fs S, ⟨S, hp, hs, rfl⟩, ?_, ⟨hk.os, hk.tape, hk.output, hk.size, fun k hk' hn => hk.block k hk' (fun e => hn (by rw [e]; rfl))⟩⟩
    have := hr'.oro (base := b1) (cap := cap) hb (by omega) h2 (by omega)
    rw [el] at this
    exact this
def LsI (ks : List OrV) (w1 : World) (mb n : Nat) (j kv : Value) (W : World) : Prop := ∃ q : Nat, q ≤ ks.length ∧ j = .int .i64 (q : Nat) ∧ Oro W w1.heap.size kv (fs (kp ks q)) ∧ Um W mb n (lf ks ks.length) ∧ Below w1.heap.size w1 W
def LastTells (ks : List OrV) (w : World) (e : Ending) (w' : World) : Prop := ∃ u r, e = .returned (.tuple #[u, r]) ∧ Er r (Od.faults ks) ∧ ((Od.faults ks ≠ 0 ∧ u = .slice none 0 0) ∨ (Od.faults ks = 0 ∧ ∃ out, LastSays ks out ∧ Oro w' w.heap.size u out)) ∧ Below w.heap.size w w'
set_option maxRecDepth 100000 in
set_option maxHeartbeats 8000000 in
theorem last_any (v : Value) (ks : List OrV) (w : World) (h : Orl w v ks) : Calls Tryz.prog 69 #[v] w (LastTells ks w) := by
  have K0 : Hid (Orl w v ks) := h
  obtain ⟨a, c, rfl, c1, c2, -⟩ := h
  go_enter Tryz.func69, Tryz.ntmps69
  go_wp2_with fail
  refine Calls.mono (ocheck_any _ ks w K0.out) ?_
  rintro e w0 ⟨u, rfl, hu, b0⟩
  obtain ⟨F, hF⟩ : ∃ F, Od.faults ks = F := ⟨_, rfl⟩
  have HF : Hid (Od.faults ks = F) := hF
  rw [hF] at hu
  have B0 : Hid (Below w.heap.size w w0) := b0
  clear hF b0
  rcases hu with ⟨hF, rfl⟩ | ⟨hF, rfl⟩
  case inr =>
    have E : Hid (F ≠ 0) := hF
    clear hF
    go_wp2
    go_ret2
    exact ⟨_, _, rfl, by rw [HF.out]; exact Er.no E.out, .inl ⟨by rw [HF.out]; exact E.out, rfl⟩, B0.out⟩
  subst hF
  have FO : Hid (ks.length ≤ 60 ∧ ∀ o ∈ ks, ¬ Od.bad o) := Od.faults_ok HF.out
  go_wp2_with fail
  refine Calls.mono (lastOnes_any _ ks w0 (K0.out.below B0.out) FO.out.1 FO.out.2) ?_
  rintro e w1 ⟨mb, n, rfl, hm, hmb, b1⟩
  have M1 : Hid (Um w1 mb n (lf ks ks.length)) := hm
  have B1 : Hid (Below w.heap.size w w1) := B0.out.trans (b1.mono B0.out.size)
  clear hm hmb b1
  go_wp2_with fail
  go_loopw [18, 6] (fun j kv W => LsI ks w1 mb n j kv W) (fun j _ _ => ks.length - (intOf j).toNat)
  case atStart => exact ⟨0, Nat.zero_le _, rfl, Oro.nil _ _, M1.out, Below.refl _ _⟩
  case round =>
    obtain ⟨q, hq, rfl, hko, hm, hb⟩ := hrel
    have OQ : Hid (Oro wr w1.heap.size u6 (fs (kp ks q))) := hko
    have MQ : Hid (Um wr mb n (lf ks ks.length)) := hm
    have BQ : Hid (Below w1.heap.size w1 wr) := hb
    clear hko hm hb
    by_cases hql : q = ks.length
    · subst hql
      go_wp2_with fail
      refine Calls.mono (sort_own ks u6 w1.heap.size wr FO.out.1 OQ.out) ?_
      rintro e w2 ⟨rfl, out, hls, ho, hg⟩
      have G2 : Hid (Below w.heap.size w w2) := (B1.out.trans (BQ.out.mono B1.out.size)).grown hg (by have := B1.out.size; have := BQ.out.size; omega) (fun k hk => by have := (OQ.out.block k hk).1; have := B1.out.size; omega)
      have FIN : Hid (∃ out, LastSays ks out ∧ Oro w2 w.heap.size u6 out) := ⟨out, hls, ho.mono B1.out.size⟩
      clear hls ho hg
      go_wp2
      go_ret2
      exact ⟨_, _, rfl, by rw [HF.out]; exact Er.nil, .inr ⟨HF.out, FIN.out⟩, G2.out⟩
    · have hqk : q < ks.length := by omega
      obtain ⟨k, hk⟩ : ∃ k, ks[q]? = some k := ⟨_, List.getElem?_eq_getElem hqk⟩
      have HK : Hid (ks[q]? = some k) := hk
      have OK := Od.ok_of (FO.out.2 k (List.mem_of_getElem? hk))
      have WF : Hid ((Lit.int .i64 k.player).wf = true ∧ (Lit.int .i64 k.unit).wf = true) := ⟨wf64 (by omega) (by omega), wf64 (by omega) (by omega)⟩
      have K1 := K0.out.below (B1.out.trans (BQ.out.mono B1.out.size))
      obtain ⟨a', c', e, -, -, h3⟩ := K1
      injection e with e1 e2 e3
      subst e1 e3
      obtain ⟨x, rfl, hx1, hx⟩ := h3 (by rintro rfl; simp at hqk)
      have Yc := hx q k hk
      clear hx h3 e2 hk OK
      obtain ⟨q0, q1, q2, q3⟩ := Yc
      go_upto_region 9 with fail
      have BA : Hid (Below wr.heap.size wr (wr.alloc (Obj.cells #[.int .i64 k.player, .int .i64 k.unit, .int .i64 k.what, .int .i64 k.arg] 89))) := (Below.refl _ _).alloc (Nat.le_refl _) _
      have XA : Hid (Orc (wr.alloc (Obj.cells #[.int .i64 k.player, .int .i64 k.unit, .int .i64 k.what, .int .i64 k.arg] 89)) ⟨wr.heap.size, 0, none⟩ k) := Orc.mk' (w := wr) k rfl
      clear q0 q1 q2 q3
      obtain ⟨z, hz⟩ : ∃ z, wr.heap.size = z := ⟨_, rfl⟩
      rw [hz] at XA ⊢
      have SZ : Hid (wr.heap.size = z) := hz
      clear hz
      generalize wr.alloc (Obj.cells #[.int .i64 k.player, .int .i64 k.unit, .int .i64 k.what, .int .i64 k.arg] 89) = w2 at *
      have B2 : Hid (Below w1.heap.size w1 w2) := BQ.out.trans (BA.out.mono BQ.out.size)
      have M2 : Hid (Um w2 mb n (lf ks ks.length)) := MQ.out.below BA.out
      have O2 : Hid (Oro w2 w1.heap.size u6 (fs (kp ks q))) := OQ.out.below BA.out
      clear MQ OQ BQ BA
      have KL : Hid ((fs (kp ks q)).length ≤ 60) := by have h1 := kp_len (l := ks) q; have h2 := FO.out.1; unfold Hid; simp [fs]; omega
      by_cases h3 : k.what = 3
      · obtain ⟨x0, x1, x2, x3⟩ := XA.out
        simp only [Nat.zero_add] at x1 x2 x3
        have OA : Hid (Oro (w2.alloc (Obj.cells #[.int .i64 k.player, .int .i64 k.unit, .int .i64 k.what, .int .i64 k.arg] 89)) w1.heap.size u6 (fs (kp ks q))) := O2.out.alloc _
        have RC : Hid (Orc (w2.alloc (Obj.cells #[.int .i64 k.player, .int .i64 k.unit, .int .i64 k.what, .int .i64 k.arg] 89)) ⟨w2.heap.size, 0, none⟩ k) := Orc.mk' (w := w2) k rfl
        have BB : Hid (Below w2.heap.size w2 (w2.alloc (Obj.cells #[.int .i64 k.player, .int .i64 k.unit, .int .i64 k.what, .int .i64 k.arg] 89))) := (Below.refl _ _).alloc (Nat.le_refl _) _
        have SB : Hid (w1.heap.size ≤ (w2.alloc (Obj.cells #[.int .i64 k.player, .int .i64 k.unit, .int .i64 k.what, .int .i64 k.arg] 89)).heap.size) := Nat.le_trans B2.out.size BB.out.size
        have h3c : k.what = 3 := h3
        have NK : Hid (kp ks (q + 1) = kp ks q ++ [(k, q)]) := kp_yes HK.out (.inl h3)
        rw [h3] at OA RC BB SB
        go_wp2_with (at_builtin; refine app_or _ rfl _ _ rfl w1.heap.size _ (fs (kp ks q)) rfl OA.out w2.heap.size k rfl RC.out (by have := KL.out; omega) SB.out ?_)
        intro g cap w5 o5 g5 a5 l5
        have B5 : Hid (Below w1.heap.size w1 w5) := (B2.out.trans (BB.out.mono B2.out.size)).grown g5 SB.out (fun k hk => (O2.out.block k hk).1)
        have M5 : Hid (Um w5 mb n (lf ks ks.length)) := (M2.out.below BB.out).gb g5 (fun e => by have := (O2.out.block mb e.symm).1; have := M1.out.lt; omega)
        have O5 : Hid (Oro w5 w1.heap.size (.slice (some ⟨g, 0, none⟩) ((kp ks q).length + 1) cap) (fs (kp ks (q + 1)))) := by unfold Hid; rw [NK.out]; simpa [fs] using o5
        clear o5 g5 a5 l5 x0 x1 x2 x3
        go_wp2
        go_round
        case rel => exact ⟨q + 1, by omega, by go_num, O5.out, M5.out, B5.out⟩
        case measure => simp [intOf]; omega
      · have h3b : (k.what == 3) = false := beq_eq_false_iff_ne.2 h3
        obtain ⟨x0, x1, x2, x3⟩ := XA.out
        simp only [Nat.zero_add] at x1 x2 x3
        go_wp2_with fail
        refine Calls.mono (unitOf_any k w2) ?_
        rintro e w3 ⟨rfl, b3⟩
        have B3 : Hid (Below w1.heap.size w1 w3) := B2.out.trans (b3.mono B2.out.size)
        have M3 : Hid (Um w3 mb n (lf ks ks.length)) := M2.out.below b3
        have O3 : Hid (Oro w3 w1.heap.size u6 (fs (kp ks q))) := O2.out.below b3
        have X3 : Hid (Orc w3 ⟨z, 0, none⟩ k) := XA.out.below b3 XA.out.lt
        have LK := M3.out.look WF.out.1 WF.out.2
        clear b3 x0 x1 x2 x3 B2 M2 O2 XA
        by_cases hi : lf ks ks.length k.player k.unit = (q : Nat)
        · obtain ⟨x0, x1, x2, x3⟩ := X3.out
          simp only [Nat.zero_add] at x1 x2 x3
          have OA : Hid (Oro (w3.alloc (Obj.cells #[.int .i64 k.player, .int .i64 k.unit, .int .i64 k.what, .int .i64 k.arg] 89)) w1.heap.size u6 (fs (kp ks q))) := O3.out.alloc _
          have RC : Hid (Orc (w3.alloc (Obj.cells #[.int .i64 k.player, .int .i64 k.unit, .int .i64 k.what, .int .i64 k.arg] 89)) ⟨w3.heap.size, 0, none⟩ k) := Orc.mk' (w := w3) k rfl
          have BB : Hid (Below w3.heap.size w3 (w3.alloc (Obj.cells #[.int .i64 k.player, .int .i64 k.unit, .int .i64 k.what, .int .i64 k.arg] 89))) := (Below.refl _ _).alloc (Nat.le_refl _) _
          have SB : Hid (w1.heap.size ≤ (w3.alloc (Obj.cells #[.int .i64 k.player, .int .i64 k.unit, .int .i64 k.what, .int .i64 k.arg] 89)).heap.size) := Nat.le_trans B3.out.size BB.out.size
          have NK : Hid (kp ks (q + 1) = kp ks q ++ [(k, q)]) := kp_yes HK.out (.inr hi)
          rw [hi] at LK
          clear hi
          go_wp2_with (at_builtin; refine app_or _ rfl _ _ rfl w1.heap.size _ (fs (kp ks q)) rfl OA.out w3.heap.size k rfl RC.out (by have := KL.out; omega) SB.out ?_)
          intro g cap w5 o5 g5 a5 l5
          have B5 : Hid (Below w1.heap.size w1 w5) := (B3.out.trans (BB.out.mono B3.out.size)).grown g5 SB.out (fun k hk => (O3.out.block k hk).1)
          have M5 : Hid (Um w5 mb n (lf ks ks.length)) := (M3.out.below BB.out).gb g5 (fun e => by have := (O3.out.block mb e.symm).1; have := M1.out.lt; omega)
          have O5 : Hid (Oro w5 w1.heap.size (.slice (some ⟨g, 0, none⟩) ((kp ks q).length + 1) cap) (fs (kp ks (q + 1)))) := by unfold Hid; rw [NK.out]; simpa [fs] using o5
          clear o5 g5 a5 l5 x0 x1 x2 x3
          go_wp2
          go_round
          case rel => exact ⟨q + 1, by omega, by go_num, O5.out, M5.out, B5.out⟩
          case measure => simp [intOf]; omega
        · have hib : (lf ks ks.length k.player k.unit == ((q : Nat) : Int)) = false := beq_eq_false_iff_ne.2 hi
          have NK : Hid (kp ks (q + 1) = kp ks q) := kp_no HK.out (by rintro (h | h); exact h3 h; exact hi h)
          generalize lf ks ks.length k.player k.unit = lfv at *
          go_wp2
          go_round
          case rel => exact ⟨q + 1, by omega, by go_num, by rw [NK.out]; exact O3.out, M3.out, B3.out⟩
          case measure => simp [intOf]; omega
end Go.Proofs.YteieikgkmfglaaaGreatDoor

