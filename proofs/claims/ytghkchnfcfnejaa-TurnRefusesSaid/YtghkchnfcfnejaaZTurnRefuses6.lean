/- slices.stableCmpFunc of at most 60 orders: stab_c1. · slices.stableCmpFunc of at most 60 orders: stab_d. · slices.SortStableFunc of at most 60 orders by compare. · orders.Last. · slices.IndexFunc of units, the function only of what is in the list. · turn.give. · turn.Give. · What orders.Last tells of the orders: those to train are all there, each unit's last word is, and no unit has two. · Orders that count, asked once more, are those that count; so are some of them. · What is refused changes nothing: given without those that were refused, orders bring the same. · world.checkPlace. · world.Place. · slices.Repeat, of a list of one. · world.New. -/
import Derived.Test.YtghkchnfcfnejaaZTurnRefuses5
import Derived.Test.YtghkchnfcfnejaaZTurnRefuses4
import Derived.Deep.DeepCutAuto
import Derived.Test.YtghkchnfcfnejaaZTurnRefuses1
import Derived.Test.YtghkchnfcfnejaaZTurnRefuses3
import Derived.Laws.CopyRow
import Derived.Test.YtghkchnfcfnejaaZTurnRefuses2
namespace Go.Proofs.Ytghkchnfcfnejaa
open Go.RowKit Go.Proofs.Ytghkchnfcfnejaa.So
set_option linter.unusedVariables false
set_option linter.unusedSimpArgs false


set_option maxRecDepth 100000 in
set_option maxHeartbeats 16000000 in
theorem stab_c1 (U1 U2 U3 : List T) (g cap n : Nat) (rest : List Value) (w : World) (h1 : U1.length = 20) (h2 : U2.length = 20) (h3 : U3.length = n - 40) (hU : (U1 ++ U2 ++ U3).Pairwise (fun x y => x.2 < y.2)) (hr : Rb w g (fs (U1 ++ U2 ++ U3)) rest) (hn : 40 < n ∧ n < 60) :
    Calls Try.prog 36 #[.slice (some ⟨g, 0, none⟩) n cap, .int .i64 (n : Nat), .func (.func 18) #[] #[]] w (StabSays (U1 ++ U2 ++ U3) g rest w) := by
  have R0 : Hid (Rb w g (fs (U1 ++ U2 ++ U3)) rest) := hr
  have HU : Hid ((U1 ++ U2 ++ U3).Pairwise (fun x y => x.2 < y.2)) := hU
  have HL : Hid (U1.length = 20 ∧ U2.length = 20 ∧ U3.length = n - 40 ∧ n ≤ 60) := ⟨h1, h2, h3, by omega⟩
  have le20 : (20 : Int) ≤ (n : Nat) := by omega
  have le40 : (40 : Int) ≤ (n : Nat) := by omega
  have le60 : ¬ (60 : Int) ≤ (n : Nat) := by omega
  have lt20 : (20 : Int) < (n : Nat) := by omega
  have lt40 : (40 : Int) < (n : Nat) := by omega
  have lt80 : ¬ (80 : Int) < (n : Nat) := by omega
  have le80 : ¬ (80 : Int) ≤ (n : Nat) := by omega
  have HN : Hid (40 < n ∧ n < 60) := hn
  clear hn
  clear hr hU h1 h2 h3
  go_enter Try.func36, Try.ntmps36
  go_wp2_with fail
  refine wp_loop_rounds 3 ?_
  rw [rounds_succ]
  go_wp2_with fail
  have C : Calls _ _ _ _ _ := isort_i ([]) U1 (U2 ++ U3) g cap n 0 20 rest w ((List.pairwise_append.1 (List.pairwise_append.1 HU.out).1).1) (by have := R0.out; simpa [fs] using this) (by have q1 := HL.out; have q2 := HN.out;  (try simp only [List.length_append, List.length_nil]); omega) (by have := HL.out; omega) (by have q1 := HL.out; have q2 := HN.out;  (try simp only [List.length_append, List.length_nil]); omega) (by have q1 := HL.out; have q2 := HN.out;  (try simp only [List.length_append, List.length_nil]); omega)
  refine Calls.mono C ?_
  clear C
  rintro er v1 ⟨rfl, S1, hp, hs, hr, hk⟩
  have R1 : Hid (Rb v1 g (fs (S1 ++ U2 ++ U3)) rest) := by unfold Hid; simpa [fs] using hr
  have P1 : Hid (S1.Perm U1 ∧ S1.Pairwise lt) := ⟨hp, hs⟩
  have K1 : Hid (Kp g w v1) := hk
  clear hp hs hr hk
  go_wp2_with fail
  rw [rounds_succ]
  go_wp2_with fail
  have C : Calls _ _ _ _ _ := isort_i (S1) U2 (U3) g cap n 20 40 rest v1 ((List.pairwise_append.1 (List.pairwise_append.1 HU.out).1).2.1) (by have := R1.out; simpa [fs] using this) (by have q1 := HL.out; have q2 := HN.out; have z1 := P1.out.1.length_eq; (try simp only [List.length_append, List.length_nil]); omega) (by have := HL.out; omega) (by have q1 := HL.out; have q2 := HN.out; have z1 := P1.out.1.length_eq; (try simp only [List.length_append, List.length_nil]); omega) (by have q1 := HL.out; have q2 := HN.out; have z1 := P1.out.1.length_eq; (try simp only [List.length_append, List.length_nil]); omega)
  refine Calls.mono C ?_
  clear C
  rintro er v2 ⟨rfl, S2, hp, hs, hr, hk⟩
  have R2 : Hid (Rb v2 g (fs (S1 ++ S2 ++ U3)) rest) := by unfold Hid; simpa [fs] using hr
  have P2 : Hid (S2.Perm U2 ∧ S2.Pairwise lt) := ⟨hp, hs⟩
  have K2 : Hid (Kp g w v2) := K1.out.trans hk
  clear hp hs hr hk
  go_wp2_with fail
  rw [rounds_succ]
  go_wp2_with fail
  have C : Calls _ _ _ _ _ := isort_i (S1 ++ S2) U3 ([]) g cap n 40 (n : Nat) rest v2 ((List.pairwise_append.1 HU.out).2.1) (by have := R2.out; simpa [fs] using this) (by have q1 := HL.out; have q2 := HN.out; have z1 := P1.out.1.length_eq; have z2 := P2.out.1.length_eq; (try simp only [List.length_append, List.length_nil]); omega) (by have := HL.out; omega) (by have q1 := HL.out; have q2 := HN.out; have z1 := P1.out.1.length_eq; have z2 := P2.out.1.length_eq; (try simp only [List.length_append, List.length_nil]); omega) (by have q1 := HL.out; have q2 := HN.out; have z1 := P1.out.1.length_eq; have z2 := P2.out.1.length_eq; (try simp only [List.length_append, List.length_nil]); omega)
  refine Calls.mono C ?_
  clear C
  rintro er v3 ⟨rfl, S3, hp, hs, hr, hk⟩
  have R3 : Hid (Rb v3 g (fs (S1 ++ S2 ++ S3)) rest) := by unfold Hid; simpa [fs] using hr
  have P3 : Hid (S3.Perm U3 ∧ S3.Pairwise lt) := ⟨hp, hs⟩
  have K3 : Hid (Kp g w v3) := K2.out.trans hk
  clear hp hs hr hk
  go_wp2_with fail
  refine wp_loop_rounds 3 ?_
  rw [rounds_succ]
  go_wp2_with fail
  refine wp_loop_rounds 2 ?_
  rw [rounds_succ]
  go_wp2_with fail
  have TG : Hid (∀ x ∈ S1, ∀ y ∈ S2, x.2 < y.2) := fun x hx y hy => by have h1 := P1.out.1.mem_iff.1 hx; have h2 := P2.out.1.mem_iff.1 hy; have h3 := HU.out; have e : (U1) ++ (U2) ++ (U3) = U1 ++ U2 ++ U3 := (by simp); rw [← e, List.pairwise_append] at h3; exact (List.pairwise_append.1 h3.1).2.2 x h1 y h2
  have C : Calls _ _ _ _ _ := sym_i ([]) S1 S2 (S3) g cap n 0 20 40 rest v3 (ne_of_pos (by have q1 := HL.out; have q2 := HN.out; have z0 := P1.out.1.length_eq; have z1 := P2.out.1.length_eq; have z2 := P3.out.1.length_eq; (try simp only [List.length_append] at z0 z1 z2); (try simp only [List.length_append, List.length_nil]); omega)) (ne_of_pos (by have q1 := HL.out; have q2 := HN.out; have z0 := P1.out.1.length_eq; have z1 := P2.out.1.length_eq; have z2 := P3.out.1.length_eq; (try simp only [List.length_append] at z0 z1 z2); (try simp only [List.length_append, List.length_nil]); omega)) P1.out.2 P2.out.2 TG.out (by have := R3.out; simpa [fs] using this) (by have q1 := HL.out; have q2 := HN.out; have z0 := P1.out.1.length_eq; have z1 := P2.out.1.length_eq; have z2 := P3.out.1.length_eq; (try simp only [List.length_append] at z0 z1 z2); (try simp only [List.length_append, List.length_nil]); omega) (by have := HL.out; omega) (by have q1 := HL.out; have q2 := HN.out; have z0 := P1.out.1.length_eq; have z1 := P2.out.1.length_eq; have z2 := P3.out.1.length_eq; (try simp only [List.length_append] at z0 z1 z2); (try simp only [List.length_append, List.length_nil]); omega) (by have q1 := HL.out; have q2 := HN.out; have z0 := P1.out.1.length_eq; have z1 := P2.out.1.length_eq; have z2 := P3.out.1.length_eq; (try simp only [List.length_append] at z0 z1 z2); (try simp only [List.length_append, List.length_nil]); omega) (by have q1 := HL.out; have q2 := HN.out; have z0 := P1.out.1.length_eq; have z1 := P2.out.1.length_eq; have z2 := P3.out.1.length_eq; (try simp only [List.length_append] at z0 z1 z2); (try simp only [List.length_append, List.length_nil]); omega)
  refine Calls.mono C ?_
  clear C
  rintro er v4 ⟨rfl, S4, hp, hs, hr, hk⟩
  have R4 : Hid (Rb v4 g (fs (S4 ++ S3)) rest) := by unfold Hid; simpa [fs] using hr
  have P4 : Hid (S4.Perm (U1 ++ U2) ∧ S4.Pairwise lt) := ⟨hp.trans (P1.out.1.append P2.out.1), hs⟩
  have K4 : Hid (Kp g w v4) := K3.out.trans hk
  clear hp hs hr hk TG
  go_wp2_with fail
  rw [rounds_succ]
  go_wp2_with fail
  rw [rounds_succ]
  go_wp2_with fail
  refine wp_loop_rounds 1 ?_
  rw [rounds_succ]
  go_wp2_with fail
  have TG : Hid (∀ x ∈ S4, ∀ y ∈ S3, x.2 < y.2) := fun x hx y hy => by have h1 := P4.out.1.mem_iff.1 hx; have h2 := P3.out.1.mem_iff.1 hy; have h3 := HU.out; have e : (U1 ++ U2) ++ (U3) ++ ([]) = U1 ++ U2 ++ U3 := (by simp); rw [← e, List.pairwise_append] at h3; exact (List.pairwise_append.1 h3.1).2.2 x h1 y h2
  have C : Calls _ _ _ _ _ := sym_i ([]) S4 S3 ([]) g cap n 0 40 (n : Nat) rest v4 (ne_of_pos (by have q1 := HL.out; have q2 := HN.out; have z0 := P4.out.1.length_eq; have z1 := P3.out.1.length_eq; (try simp only [List.length_append] at z0 z1); (try simp only [List.length_append, List.length_nil]); omega)) (ne_of_pos (by have q1 := HL.out; have q2 := HN.out; have z0 := P4.out.1.length_eq; have z1 := P3.out.1.length_eq; (try simp only [List.length_append] at z0 z1); (try simp only [List.length_append, List.length_nil]); omega)) P4.out.2 P3.out.2 TG.out (by have := R4.out; simpa [fs] using this) (by have q1 := HL.out; have q2 := HN.out; have z0 := P4.out.1.length_eq; have z1 := P3.out.1.length_eq; (try simp only [List.length_append] at z0 z1); (try simp only [List.length_append, List.length_nil]); omega) (by have := HL.out; omega) (by have q1 := HL.out; have q2 := HN.out; have z0 := P4.out.1.length_eq; have z1 := P3.out.1.length_eq; (try simp only [List.length_append] at z0 z1); (try simp only [List.length_append, List.length_nil]); omega) (by have q1 := HL.out; have q2 := HN.out; have z0 := P4.out.1.length_eq; have z1 := P3.out.1.length_eq; (try simp only [List.length_append] at z0 z1); (try simp only [List.length_append, List.length_nil]); omega) (by have q1 := HL.out; have q2 := HN.out; have z0 := P4.out.1.length_eq; have z1 := P3.out.1.length_eq; (try simp only [List.length_append] at z0 z1); (try simp only [List.length_append, List.length_nil]); omega)
  refine Calls.mono C ?_
  clear C
  rintro er v5 ⟨rfl, S5, hp, hs, hr, hk⟩
  have R5 : Hid (Rb v5 g (fs (S5)) rest) := by unfold Hid; simpa [fs] using hr
  have P5 : Hid (S5.Perm ((U1 ++ U2) ++ U3) ∧ S5.Pairwise lt) := ⟨hp.trans (P4.out.1.append P3.out.1), hs⟩
  have K5 : Hid (Kp g w v5) := K4.out.trans hk
  clear hp hs hr hk TG
  go_wp2_with fail
  rw [rounds_succ]
  go_wp2_with fail
  go_wp2
  go_end0
  exact ⟨rfl, S5, P5.out.1, P5.out.2, R5.out, K5.out⟩
end Go.Proofs.Ytghkchnfcfnejaa

namespace Go.Proofs.Ytghkchnfcfnejaa
open Go.RowKit Go.Proofs.Ytghkchnfcfnejaa.So
set_option linter.unusedVariables false
set_option linter.unusedSimpArgs false


set_option maxRecDepth 100000 in
set_option maxHeartbeats 16000000 in
theorem stab_d (U1 U2 U3 U4 : List T) (g cap n : Nat) (rest : List Value) (w : World) (h1 : U1.length = 20) (h2 : U2.length = 20) (h3 : U3.length = 20) (h4 : U4.length = 0) (hU : (U1 ++ U2 ++ U3 ++ U4).Pairwise (fun x y => x.2 < y.2)) (hr : Rb w g (fs (U1 ++ U2 ++ U3 ++ U4)) rest) (hn : n = 60) :
    Calls Try.prog 36 #[.slice (some ⟨g, 0, none⟩) n cap, .int .i64 (n : Nat), .func (.func 18) #[] #[]] w (StabSays (U1 ++ U2 ++ U3 ++ U4) g rest w) := by
  have R0 : Hid (Rb w g (fs (U1 ++ U2 ++ U3 ++ U4)) rest) := hr
  have HU : Hid ((U1 ++ U2 ++ U3 ++ U4).Pairwise (fun x y => x.2 < y.2)) := hU
  have HL : Hid (U1.length = 20 ∧ U2.length = 20 ∧ U3.length = 20 ∧ U4.length = 0 ∧ n ≤ 60) := ⟨h1, h2, h3, h4, by omega⟩
  have le20 : (20 : Int) ≤ (n : Nat) := by omega
  have le40 : (40 : Int) ≤ (n : Nat) := by omega
  have le60 : (60 : Int) ≤ (n : Nat) := by omega
  have le80 : ¬ (80 : Int) ≤ (n : Nat) := by omega
  have lt20 : (20 : Int) < (n : Nat) := by omega
  have lt40 : (40 : Int) < (n : Nat) := by omega
  have lt80 : ¬ (80 : Int) < (n : Nat) := by omega
  have lt60 : ¬ (60 : Int) < (n : Nat) := by omega
  have HN : Hid (n = 60) := hn
  clear hn
  clear hr hU h1 h2 h3 h4
  go_enter Try.func36, Try.ntmps36
  go_wp2_with fail
  refine wp_loop_rounds 4 ?_
  rw [rounds_succ]
  go_wp2_with fail
  have C : Calls _ _ _ _ _ := isort_i ([]) U1 (U2 ++ U3 ++ U4) g cap n 0 20 rest w ((List.pairwise_append.1 (List.pairwise_append.1 (List.pairwise_append.1 HU.out).1).1).1) (by have := R0.out; simpa [fs] using this) (by have q1 := HL.out; have q2 := HN.out;  (try simp only [List.length_append, List.length_nil]); omega) (by have := HL.out; omega) (by have q1 := HL.out; have q2 := HN.out;  (try simp only [List.length_append, List.length_nil]); omega) (by have q1 := HL.out; have q2 := HN.out;  (try simp only [List.length_append, List.length_nil]); omega)
  refine Calls.mono C ?_
  clear C
  rintro er v1 ⟨rfl, S1, hp, hs, hr, hk⟩
  have R1 : Hid (Rb v1 g (fs (S1 ++ U2 ++ U3 ++ U4)) rest) := by unfold Hid; simpa [fs] using hr
  have P1 : Hid (S1.Perm U1 ∧ S1.Pairwise lt) := ⟨hp, hs⟩
  have K1 : Hid (Kp g w v1) := hk
  clear hp hs hr hk
  go_wp2_with fail
  rw [rounds_succ]
  go_wp2_with fail
  have C : Calls _ _ _ _ _ := isort_i (S1) U2 (U3 ++ U4) g cap n 20 40 rest v1 ((List.pairwise_append.1 (List.pairwise_append.1 (List.pairwise_append.1 HU.out).1).1).2.1) (by have := R1.out; simpa [fs] using this) (by have q1 := HL.out; have q2 := HN.out; have z1 := P1.out.1.length_eq; (try simp only [List.length_append, List.length_nil]); omega) (by have := HL.out; omega) (by have q1 := HL.out; have q2 := HN.out; have z1 := P1.out.1.length_eq; (try simp only [List.length_append, List.length_nil]); omega) (by have q1 := HL.out; have q2 := HN.out; have z1 := P1.out.1.length_eq; (try simp only [List.length_append, List.length_nil]); omega)
  refine Calls.mono C ?_
  clear C
  rintro er v2 ⟨rfl, S2, hp, hs, hr, hk⟩
  have R2 : Hid (Rb v2 g (fs (S1 ++ S2 ++ U3 ++ U4)) rest) := by unfold Hid; simpa [fs] using hr
  have P2 : Hid (S2.Perm U2 ∧ S2.Pairwise lt) := ⟨hp, hs⟩
  have K2 : Hid (Kp g w v2) := K1.out.trans hk
  clear hp hs hr hk
  go_wp2_with fail
  rw [rounds_succ]
  go_wp2_with fail
  have C : Calls _ _ _ _ _ := isort_i (S1 ++ S2) U3 (U4) g cap n 40 60 rest v2 ((List.pairwise_append.1 (List.pairwise_append.1 HU.out).1).2.1) (by have := R2.out; simpa [fs] using this) (by have q1 := HL.out; have q2 := HN.out; have z1 := P1.out.1.length_eq; have z2 := P2.out.1.length_eq; (try simp only [List.length_append, List.length_nil]); omega) (by have := HL.out; omega) (by have q1 := HL.out; have q2 := HN.out; have z1 := P1.out.1.length_eq; have z2 := P2.out.1.length_eq; (try simp only [List.length_append, List.length_nil]); omega) (by have q1 := HL.out; have q2 := HN.out; have z1 := P1.out.1.length_eq; have z2 := P2.out.1.length_eq; (try simp only [List.length_append, List.length_nil]); omega)
  refine Calls.mono C ?_
  clear C
  rintro er v3 ⟨rfl, S3, hp, hs, hr, hk⟩
  have R3 : Hid (Rb v3 g (fs (S1 ++ S2 ++ S3 ++ U4)) rest) := by unfold Hid; simpa [fs] using hr
  have P3 : Hid (S3.Perm U3 ∧ S3.Pairwise lt) := ⟨hp, hs⟩
  have K3 : Hid (Kp g w v3) := K2.out.trans hk
  clear hp hs hr hk
  go_wp2_with fail
  rw [rounds_succ]
  go_wp2_with fail
  have C : Calls _ _ _ _ _ := isort_i (S1 ++ S2 ++ S3) U4 ([]) g cap n 60 (n : Nat) rest v3 ((List.pairwise_append.1 HU.out).2.1) (by have := R3.out; simpa [fs] using this) (by have q1 := HL.out; have q2 := HN.out; have z1 := P1.out.1.length_eq; have z2 := P2.out.1.length_eq; have z3 := P3.out.1.length_eq; (try simp only [List.length_append, List.length_nil]); omega) (by have := HL.out; omega) (by have q1 := HL.out; have q2 := HN.out; have z1 := P1.out.1.length_eq; have z2 := P2.out.1.length_eq; have z3 := P3.out.1.length_eq; (try simp only [List.length_append, List.length_nil]); omega) (by have q1 := HL.out; have q2 := HN.out; have z1 := P1.out.1.length_eq; have z2 := P2.out.1.length_eq; have z3 := P3.out.1.length_eq; (try simp only [List.length_append, List.length_nil]); omega)
  refine Calls.mono C ?_
  clear C
  rintro er v4 ⟨rfl, S4, hp, hs, hr, hk⟩
  have R4 : Hid (Rb v4 g (fs (S1 ++ S2 ++ S3 ++ S4)) rest) := by unfold Hid; simpa [fs] using hr
  have P4 : Hid (S4.Perm U4 ∧ S4.Pairwise lt) := ⟨hp, hs⟩
  have K4 : Hid (Kp g w v4) := K3.out.trans hk
  clear hp hs hr hk
  go_wp2_with fail
  refine wp_loop_rounds 3 ?_
  rw [rounds_succ]
  go_wp2_with fail
  refine wp_loop_rounds 2 ?_
  rw [rounds_succ]
  go_wp2_with fail
  have TG : Hid (∀ x ∈ S1, ∀ y ∈ S2, x.2 < y.2) := fun x hx y hy => by have h1 := P1.out.1.mem_iff.1 hx; have h2 := P2.out.1.mem_iff.1 hy; have h3 := HU.out; have e : (U1) ++ (U2) ++ (U3 ++ U4) = U1 ++ U2 ++ U3 ++ U4 := (by simp); rw [← e, List.pairwise_append] at h3; exact (List.pairwise_append.1 h3.1).2.2 x h1 y h2
  have C : Calls _ _ _ _ _ := sym_i ([]) S1 S2 (S3 ++ S4) g cap n 0 20 40 rest v4 (ne_of_pos (by have q1 := HL.out; have q2 := HN.out; have z0 := P1.out.1.length_eq; have z1 := P2.out.1.length_eq; have z2 := P3.out.1.length_eq; have z3 := P4.out.1.length_eq; (try simp only [List.length_append] at z0 z1 z2 z3); (try simp only [List.length_append, List.length_nil]); omega)) (ne_of_pos (by have q1 := HL.out; have q2 := HN.out; have z0 := P1.out.1.length_eq; have z1 := P2.out.1.length_eq; have z2 := P3.out.1.length_eq; have z3 := P4.out.1.length_eq; (try simp only [List.length_append] at z0 z1 z2 z3); (try simp only [List.length_append, List.length_nil]); omega)) P1.out.2 P2.out.2 TG.out (by have := R4.out; simpa [fs] using this) (by have q1 := HL.out; have q2 := HN.out; have z0 := P1.out.1.length_eq; have z1 := P2.out.1.length_eq; have z2 := P3.out.1.length_eq; have z3 := P4.out.1.length_eq; (try simp only [List.length_append] at z0 z1 z2 z3); (try simp only [List.length_append, List.length_nil]); omega) (by have := HL.out; omega) (by have q1 := HL.out; have q2 := HN.out; have z0 := P1.out.1.length_eq; have z1 := P2.out.1.length_eq; have z2 := P3.out.1.length_eq; have z3 := P4.out.1.length_eq; (try simp only [List.length_append] at z0 z1 z2 z3); (try simp only [List.length_append, List.length_nil]); omega) (by have q1 := HL.out; have q2 := HN.out; have z0 := P1.out.1.length_eq; have z1 := P2.out.1.length_eq; have z2 := P3.out.1.length_eq; have z3 := P4.out.1.length_eq; (try simp only [List.length_append] at z0 z1 z2 z3); (try simp only [List.length_append, List.length_nil]); omega) (by have q1 := HL.out; have q2 := HN.out; have z0 := P1.out.1.length_eq; have z1 := P2.out.1.length_eq; have z2 := P3.out.1.length_eq; have z3 := P4.out.1.length_eq; (try simp only [List.length_append] at z0 z1 z2 z3); (try simp only [List.length_append, List.length_nil]); omega)
  refine Calls.mono C ?_
  clear C
  rintro er v5 ⟨rfl, S5, hp, hs, hr, hk⟩
  have R5 : Hid (Rb v5 g (fs (S5 ++ S3 ++ S4)) rest) := by unfold Hid; simpa [fs] using hr
  have P5 : Hid (S5.Perm (U1 ++ U2) ∧ S5.Pairwise lt) := ⟨hp.trans (P1.out.1.append P2.out.1), hs⟩
  have K5 : Hid (Kp g w v5) := K4.out.trans hk
  clear hp hs hr hk TG
  go_wp2_with fail
  rw [rounds_succ]
  go_wp2_with fail
  rw [rounds_succ]
  go_wp2_with fail
  refine wp_loop_rounds 1 ?_
  rw [rounds_succ]
  go_wp2_with fail
  have TG : Hid (∀ x ∈ S5, ∀ y ∈ S3, x.2 < y.2) := fun x hx y hy => by have h1 := P5.out.1.mem_iff.1 hx; have h2 := P3.out.1.mem_iff.1 hy; have h3 := HU.out; have e : (U1 ++ U2) ++ (U3) ++ (U4) = U1 ++ U2 ++ U3 ++ U4 := (by simp); rw [← e, List.pairwise_append] at h3; exact (List.pairwise_append.1 h3.1).2.2 x h1 y h2
  have C : Calls _ _ _ _ _ := sym_i ([]) S5 S3 (S4) g cap n 0 40 (n : Nat) rest v5 (ne_of_pos (by have q1 := HL.out; have q2 := HN.out; have z0 := P5.out.1.length_eq; have z1 := P3.out.1.length_eq; have z2 := P4.out.1.length_eq; (try simp only [List.length_append] at z0 z1 z2); (try simp only [List.length_append, List.length_nil]); omega)) (ne_of_pos (by have q1 := HL.out; have q2 := HN.out; have z0 := P5.out.1.length_eq; have z1 := P3.out.1.length_eq; have z2 := P4.out.1.length_eq; (try simp only [List.length_append] at z0 z1 z2); (try simp only [List.length_append, List.length_nil]); omega)) P5.out.2 P3.out.2 TG.out (by have := R5.out; simpa [fs] using this) (by have q1 := HL.out; have q2 := HN.out; have z0 := P5.out.1.length_eq; have z1 := P3.out.1.length_eq; have z2 := P4.out.1.length_eq; (try simp only [List.length_append] at z0 z1 z2); (try simp only [List.length_append, List.length_nil]); omega) (by have := HL.out; omega) (by have q1 := HL.out; have q2 := HN.out; have z0 := P5.out.1.length_eq; have z1 := P3.out.1.length_eq; have z2 := P4.out.1.length_eq; (try simp only [List.length_append] at z0 z1 z2); (try simp only [List.length_append, List.length_nil]); omega) (by have q1 := HL.out; have q2 := HN.out; have z0 := P5.out.1.length_eq; have z1 := P3.out.1.length_eq; have z2 := P4.out.1.length_eq; (try simp only [List.length_append] at z0 z1 z2); (try simp only [List.length_append, List.length_nil]); omega) (by have q1 := HL.out; have q2 := HN.out; have z0 := P5.out.1.length_eq; have z1 := P3.out.1.length_eq; have z2 := P4.out.1.length_eq; (try simp only [List.length_append] at z0 z1 z2); (try simp only [List.length_append, List.length_nil]); omega)
  refine Calls.mono C ?_
  clear C
  rintro er v6 ⟨rfl, S6, hp, hs, hr, hk⟩
  have R6 : Hid (Rb v6 g (fs (S6 ++ S4)) rest) := by unfold Hid; simpa [fs] using hr
  have P6 : Hid (S6.Perm ((U1 ++ U2) ++ U3) ∧ S6.Pairwise lt) := ⟨hp.trans (P5.out.1.append P3.out.1), hs⟩
  have K6 : Hid (Kp g w v6) := K5.out.trans hk
  clear hp hs hr hk TG
  go_wp2_with fail
  rw [rounds_succ]
  go_wp2_with fail
  go_wp2
  go_end0
  have eS4 : S4 = [] := List.length_eq_zero_iff.1 (by have q1 := HL.out; have q2 := HN.out; have z := P4.out.1.length_eq; omega)
  have eU4 : U4 = [] := List.length_eq_zero_iff.1 (by have q1 := HL.out; have q2 := HN.out; omega)
  refine ⟨rfl, S6, ?_, P6.out.2, ?_, K6.out⟩
  · have h := P6.out.1
    simpa [eU4] using h
  · have h := R6.out
    rw [eS4] at h
    simpa using h
end Go.Proofs.Ytghkchnfcfnejaa

namespace Go.Proofs.Ytghkchnfcfnejaa
open Go.RowKit Go.Proofs.Ytghkchnfcfnejaa.So
set_option linter.unusedVariables false

theorem cut2 (U : List T) (i : Nat) (h : i ≤ U.length) : ∃ U1 U2, U = U1 ++ U2 ∧ U1.length = i ∧ U2.length = U.length - i := ⟨U.take i, U.drop i, (List.take_append_drop _ _).symm, by rw [List.length_take]; omega, by rw [List.length_drop]⟩
theorem stab_any (U : List T) (g cap n : Nat) (rest : List Value) (w : World) (hL : U.length = n) (hn : n ≤ 60) (hU : U.Pairwise (fun x y => x.2 < y.2)) (hr : Rb w g (fs U) rest) :
    Calls Try.prog 36 #[.slice (some ⟨g, 0, none⟩) n cap, .int .i64 (n : Nat), .func (.func 18) #[] #[]] w (StabSays U g rest w) := by
  by_cases h20 : n < 20
  · exact stab_a U g cap n rest w hL hU hr h20
  obtain ⟨U1, V1, rfl, l1, m1⟩ := cut2 U 20 (by omega)
  by_cases h21 : n = 20
  · exact stab_b0 U1 V1 g cap n rest w l1 (by omega) hU hr h21
  by_cases h40 : n < 40
  · exact stab_b1 U1 V1 g cap n rest w l1 (by omega) hU hr ⟨by omega, h40⟩
  obtain ⟨U2, V2, rfl, l2, m2⟩ := cut2 V1 20 (by omega)
  rw [← List.append_assoc] at hU hr ⊢
  by_cases h41 : n = 40
  · exact stab_c0 U1 U2 V2 g cap n rest w l1 l2 (by omega) hU hr h41
  by_cases h60 : n < 60
  · exact stab_c1 U1 U2 V2 g cap n rest w l1 l2 (by omega) hU hr ⟨by omega, h60⟩
  obtain ⟨U3, V3, rfl, l3, m3⟩ := cut2 V2 20 (by omega)
  rw [← List.append_assoc] at hU hr ⊢
  exact stab_d U1 U2 U3 V3 g cap n rest w l1 l2 l3 (by omega) hU hr (by omega)
set_option maxHeartbeats 4000000 in
theorem sortst_any (U : List T) (g cap n : Nat) (rest : List Value) (w : World) (hL : U.length = n) (hn : n ≤ 60) (hU : U.Pairwise (fun x y => x.2 < y.2)) (hr : Rb w g (fs U) rest) :
    Calls Try.prog 17 #[.slice (some ⟨g, 0, none⟩) n cap, .func (.func 18) #[] #[]] w (StabSays U g rest w) := by
  have C := stab_any U g cap n rest w hL hn hU hr
  clear hL hn hU hr
  go_enter Try.func17, Try.ntmps17
  go_wp2_with fail
  refine Calls.mono C ?_
  rintro e w1 ⟨rfl, h⟩
  have H : Hid (∃ S, S.Perm U ∧ S.Pairwise lt ∧ Rb w1 g (fs S) rest ∧ Kp g w w1) := h
  clear h C
  go_wp2
  go_end0
  exact ⟨rfl, H.out⟩
end Go.Proofs.Ytghkchnfcfnejaa

namespace Go.Proofs.Ytghkchnfcfnejaa
open Go.RowKit Go.Proofs.Ytghkchnfcfnejaa.So
set_option linter.unusedVariables false

theorem Oro.rb {w : World} {base : Nat} {v : Value} {ks : List OrV} (h : Oro w base v ks) : (v = .slice none 0 0 ∧ ks = []) ∨ ∃ g cap rest, v = .slice (some ⟨g, 0, none⟩) ks.length cap ∧ base ≤ g ∧ ks.length ≤ cap ∧ cap ≤ maxLen ∧ ks.length * 4 + rest.length = cap * 4 ∧ Rb w g ks rest := by
  rcases h.2 with ⟨h1, h2⟩ | ⟨g, cap, cur, h1, h2, h3, h4, h5, h6, h7⟩
  · exact .inl ⟨h1, List.length_eq_zero_iff.1 h2⟩
  · refine .inr ⟨g, cap, cur.toList.drop (ks.length * 4), h1, h2, h4, h5, ?_, ?_⟩
    · have e6 : cur.toList.length = cap * 4 := by simpa using h6
      rw [List.length_drop, e6]
      have : ks.length * 4 ≤ cap * 4 := Nat.mul_le_mul_right _ h4
      omega
    · unfold Rb
      rw [← h7, List.take_append_drop, Array.toArray_toList]
      exact h3
theorem Rb.oro {w : World} {base g cap : Nat} {ks : List OrV} {rest : List Value} (h : Rb w g ks rest) (hb : base ≤ g) (h1 : ks.length ≤ cap) (h2 : cap ≤ maxLen) (h3 : ks.length * 4 + rest.length = cap * 4) : Oro w base (.slice (some ⟨g, 0, none⟩) ks.length cap) ks := by
  refine ⟨oflat_len ks, .inr ⟨g, cap, _, rfl, hb, h, h1, h2, ?_, ?_⟩⟩
  · simp only [List.size_toArray, List.length_append, oflat_len]; omega
  · show (ks.flatMap OrV.cs ++ rest).take (ks.length * 4) = _
    rw [List.take_append_of_le_length (by rw [oflat_len]; exact Nat.le_refl _), List.take_of_length_le (by rw [oflat_len]; exact Nat.le_refl _)]
set_option maxHeartbeats 1000000 in
theorem isort_nil (fv : Value) (w : World) : Calls Try.prog 58 #[.slice none 0 0, .int .i64 0, .int .i64 0, fv] w fun e w' => e = .returned (.tuple #[]) ∧ w' = w := by
  go_enter Try.func58, Try.ntmps58
  go_wp2_with fail
  refine wp_loop_rounds 1 ?_
  rw [rounds_succ]
  go_wp2
  go_end0
  exact ⟨rfl, rfl⟩
set_option maxHeartbeats 1000000 in
theorem stab_nil (fv : Value) (w : World) : Calls Try.prog 36 #[.slice none 0 0, .int .i64 0, fv] w fun e w' => e = .returned (.tuple #[]) ∧ w' = w := by
  go_enter Try.func36, Try.ntmps36
  go_wp2_with fail
  refine wp_loop_rounds 1 ?_
  rw [rounds_succ]
  go_wp2_with fail
  refine Calls.mono (isort_nil fv w) ?_
  rintro e w' ⟨rfl, rfl⟩
  go_wp2_with fail
  refine wp_loop_rounds 1 ?_
  rw [rounds_succ]
  go_wp2
  go_end0
  exact ⟨rfl, rfl⟩
set_option maxHeartbeats 1000000 in
theorem sort_nil (fv : Value) (w : World) : Calls Try.prog 17 #[.slice none 0 0, fv] w fun e w' => e = .returned (.tuple #[]) ∧ w' = w := by
  go_enter Try.func17, Try.ntmps17
  go_wp2_with fail
  refine Calls.mono (stab_nil fv w) ?_
  rintro e w' ⟨rfl, rfl⟩
  go_wp2
  go_end0
  exact ⟨rfl, rfl⟩
/-- what comes of a sort of an owned list. -/
theorem sort_own (l : List OrV) (v : Value) (b1 : Nat) (w : World) (hl : l.length ≤ 60) (ho : Oro w b1 v (fs (kp l l.length))) :
    Calls Try.prog 17 #[v, .func (.func 18) #[] #[]] w fun e w' => e = .returned (.tuple #[]) ∧ ∃ out, LastSays l out ∧ Oro w' b1 v out ∧ w.grownBy w' v.ownBlock := by
  rcases ho.rb with ⟨rfl, hn⟩ | ⟨g, cap, rest, rfl, hb, h1, h2, h3, hr⟩
  · refine (sort_nil _ w).mono ?_
    rintro e w' ⟨rfl, rfl⟩
    have e0 : kp l l.length = [] := List.map_eq_nil_iff.1 hn
    refine ⟨rfl, [], ⟨[], by rw [e0], List.Pairwise.nil, rfl⟩, by rw [hn] at ho; exact ho, ?_⟩
    exact ⟨rfl, rfl, rfl, Nat.le_refl _, fun _ _ _ => rfl⟩
  · have hlen : (fs (kp l l.length)).length = (kp l l.length).length := by simp [fs]
    rw [hlen] at h1 h3 ⊢
    refine (sortst_any (kp l l.length) g cap _ rest w rfl (Nat.le_trans (kp_len _) hl) (kp_tags _) hr).mono ?_
    rintro e w' ⟨rfl, S, hp, hs, hr', hk⟩
    have el : (fs S).length = (kp l l.length).length := by simp [fs, hp.length_eq]
    refine ⟨rfl, fs S, ⟨S, hp, hs, rfl⟩, ?_, ⟨hk.os, hk.tape, hk.output, hk.size, fun k hk' hn => hk.block k hk' (fun e => hn (by rw [e]; rfl))⟩⟩
    have := hr'.oro (base := b1) (cap := cap) hb (by omega) h2 (by omega)
    rw [el] at this
    exact this
def LsI (ks : List OrV) (w1 : World) (mb n : Nat) (j kv : Value) (W : World) : Prop := ∃ q : Nat, q ≤ ks.length ∧ j = .int .i64 (q : Nat) ∧ Oro W w1.heap.size kv (fs (kp ks q)) ∧ Um W mb n (lf ks ks.length) ∧ Below w1.heap.size w1 W
def LastTells (ks : List OrV) (w : World) (e : Ending) (w' : World) : Prop := ∃ u r, e = .returned (.tuple #[u, r]) ∧ Er r (Od.faults ks) ∧ ((Od.faults ks ≠ 0 ∧ u = .slice none 0 0) ∨ (Od.faults ks = 0 ∧ ∃ out, LastSays ks out ∧ Oro w' w.heap.size u out)) ∧ Below w.heap.size w w'
set_option maxRecDepth 100000 in
set_option maxHeartbeats 8000000 in
theorem last_any (v : Value) (ks : List OrV) (w : World) (h : Orl w v ks) : Calls Try.prog 7 #[v] w (LastTells ks w) := by
  have K0 : Hid (Orl w v ks) := h
  obtain ⟨a, c, rfl, c1, c2, -⟩ := h
  go_enter Try.func7, Try.ntmps7
  go_wp2_with fail
  refine Calls.mono (ocheck_any _ ks w K0.out) ?_
  rintro e w0 ⟨u, rfl, hu, b0⟩
  obtain ⟨F, hF⟩ : ∃ F, Od.faults ks = F := ⟨_, rfl⟩
  have HF : Hid (Od.faults ks = F) := hF
  rw [hF] at hu
  have B0 : Hid (Below w.heap.size w w0) := b0
  clear hF b0
  rcases hu with ⟨hF, rfl⟩ | ⟨hF, rfl⟩
  case inr =>
    have E : Hid (F ≠ 0) := hF
    clear hF
    go_wp2
    go_ret2
    exact ⟨_, _, rfl, by rw [HF.out]; exact Er.no E.out, .inl ⟨by rw [HF.out]; exact E.out, rfl⟩, B0.out⟩
  subst hF
  have FO : Hid (ks.length ≤ 60 ∧ ∀ o ∈ ks, ¬ Od.bad o) := Od.faults_ok HF.out
  go_wp2_with fail
  refine Calls.mono (lastOnes_any _ ks w0 (K0.out.below B0.out) FO.out.1 FO.out.2) ?_
  rintro e w1 ⟨mb, n, rfl, hm, hmb, b1⟩
  have M1 : Hid (Um w1 mb n (lf ks ks.length)) := hm
  have B1 : Hid (Below w.heap.size w w1) := B0.out.trans (b1.mono B0.out.size)
  clear hm hmb b1
  go_wp2_with fail
  go_loopw [18, 6] (fun j kv W => LsI ks w1 mb n j kv W) (fun j _ _ => ks.length - (intOf j).toNat)
  case atStart => exact ⟨0, Nat.zero_le _, rfl, Oro.nil _ _, M1.out, Below.refl _ _⟩
  case round =>
    obtain ⟨q, hq, rfl, hko, hm, hb⟩ := hrel
    have OQ : Hid (Oro wr w1.heap.size u6 (fs (kp ks q))) := hko
    have MQ : Hid (Um wr mb n (lf ks ks.length)) := hm
    have BQ : Hid (Below w1.heap.size w1 wr) := hb
    clear hko hm hb
    by_cases hql : q = ks.length
    · subst hql
      go_wp2_with fail
      refine Calls.mono (sort_own ks u6 w1.heap.size wr FO.out.1 OQ.out) ?_
      rintro e w2 ⟨rfl, out, hls, ho, hg⟩
      have G2 : Hid (Below w.heap.size w w2) := (B1.out.trans (BQ.out.mono B1.out.size)).grown hg (by have := B1.out.size; have := BQ.out.size; omega) (fun k hk => by have := (OQ.out.block k hk).1; have := B1.out.size; omega)
      have FIN : Hid (∃ out, LastSays ks out ∧ Oro w2 w.heap.size u6 out) := ⟨out, hls, ho.mono B1.out.size⟩
      clear hls ho hg
      go_wp2
      go_ret2
      exact ⟨_, _, rfl, by rw [HF.out]; exact Er.nil, .inr ⟨HF.out, FIN.out⟩, G2.out⟩
    · have hqk : q < ks.length := by omega
      obtain ⟨k, hk⟩ : ∃ k, ks[q]? = some k := ⟨_, List.getElem?_eq_getElem hqk⟩
      have HK : Hid (ks[q]? = some k) := hk
      have OK := Od.ok_of (FO.out.2 k (List.mem_of_getElem? hk))
      have WF : Hid ((Lit.int .i64 k.player).wf = true ∧ (Lit.int .i64 k.unit).wf = true) := ⟨wf64 (by omega) (by omega), wf64 (by omega) (by omega)⟩
      have K1 := K0.out.below (B1.out.trans (BQ.out.mono B1.out.size))
      obtain ⟨a', c', e, -, -, h3⟩ := K1
      injection e with e1 e2 e3
      subst e1 e3
      obtain ⟨x, rfl, hx1, hx⟩ := h3 (by rintro rfl; simp at hqk)
      have Yc := hx q k hk
      clear hx h3 e2 hk OK
      obtain ⟨q0, q1, q2, q3⟩ := Yc
      go_upto_region 9 with fail
      have BA : Hid (Below wr.heap.size wr (wr.alloc (Obj.cells #[.int .i64 k.player, .int .i64 k.unit, .int .i64 k.what, .int .i64 k.arg] 39))) := (Below.refl _ _).alloc (Nat.le_refl _) _
      have XA : Hid (Orc (wr.alloc (Obj.cells #[.int .i64 k.player, .int .i64 k.unit, .int .i64 k.what, .int .i64 k.arg] 39)) ⟨wr.heap.size, 0, none⟩ k) := Orc.mk' (w := wr) k rfl
      clear q0 q1 q2 q3
      obtain ⟨z, hz⟩ : ∃ z, wr.heap.size = z := ⟨_, rfl⟩
      rw [hz] at XA ⊢
      have SZ : Hid (wr.heap.size = z) := hz
      clear hz
      generalize wr.alloc (Obj.cells #[.int .i64 k.player, .int .i64 k.unit, .int .i64 k.what, .int .i64 k.arg] 39) = w2 at *
      have B2 : Hid (Below w1.heap.size w1 w2) := BQ.out.trans (BA.out.mono BQ.out.size)
      have M2 : Hid (Um w2 mb n (lf ks ks.length)) := MQ.out.below BA.out
      have O2 : Hid (Oro w2 w1.heap.size u6 (fs (kp ks q))) := OQ.out.below BA.out
      clear MQ OQ BQ BA
      have KL : Hid ((fs (kp ks q)).length ≤ 60) := by have h1 := kp_len (l := ks) q; have h2 := FO.out.1; unfold Hid; simp [fs]; omega
      by_cases h3 : k.what = 3
      · obtain ⟨x0, x1, x2, x3⟩ := XA.out
        simp only [Nat.zero_add] at x1 x2 x3
        have OA : Hid (Oro (w2.alloc (Obj.cells #[.int .i64 k.player, .int .i64 k.unit, .int .i64 k.what, .int .i64 k.arg] 39)) w1.heap.size u6 (fs (kp ks q))) := O2.out.alloc _
        have RC : Hid (Orc (w2.alloc (Obj.cells #[.int .i64 k.player, .int .i64 k.unit, .int .i64 k.what, .int .i64 k.arg] 39)) ⟨w2.heap.size, 0, none⟩ k) := Orc.mk' (w := w2) k rfl
        have BB : Hid (Below w2.heap.size w2 (w2.alloc (Obj.cells #[.int .i64 k.player, .int .i64 k.unit, .int .i64 k.what, .int .i64 k.arg] 39))) := (Below.refl _ _).alloc (Nat.le_refl _) _
        have SB : Hid (w1.heap.size ≤ (w2.alloc (Obj.cells #[.int .i64 k.player, .int .i64 k.unit, .int .i64 k.what, .int .i64 k.arg] 39)).heap.size) := Nat.le_trans B2.out.size BB.out.size
        have h3c : k.what = 3 := h3
        have NK : Hid (kp ks (q + 1) = kp ks q ++ [(k, q)]) := kp_yes HK.out (.inl h3)
        rw [h3] at OA RC BB SB
        go_wp2_with (at_builtin; refine app_or _ rfl _ _ rfl w1.heap.size _ (fs (kp ks q)) rfl OA.out w2.heap.size k rfl RC.out (by have := KL.out; omega) SB.out ?_)
        intro g cap w5 o5 g5 a5 l5
        have B5 : Hid (Below w1.heap.size w1 w5) := (B2.out.trans (BB.out.mono B2.out.size)).grown g5 SB.out (fun k hk => (O2.out.block k hk).1)
        have M5 : Hid (Um w5 mb n (lf ks ks.length)) := (M2.out.below BB.out).gb g5 (fun e => by have := (O2.out.block mb e.symm).1; have := M1.out.lt; omega)
        have O5 : Hid (Oro w5 w1.heap.size (.slice (some ⟨g, 0, none⟩) ((kp ks q).length + 1) cap) (fs (kp ks (q + 1)))) := by unfold Hid; rw [NK.out]; simpa [fs] using o5
        clear o5 g5 a5 l5 x0 x1 x2 x3
        go_wp2
        go_round
        case rel => exact ⟨q + 1, by omega, by go_num, O5.out, M5.out, B5.out⟩
        case measure => simp [intOf]; omega
      · have h3b : (k.what == 3) = false := beq_eq_false_iff_ne.2 h3
        obtain ⟨x0, x1, x2, x3⟩ := XA.out
        simp only [Nat.zero_add] at x1 x2 x3
        go_wp2_with fail
        refine Calls.mono (unitOf_any k w2) ?_
        rintro e w3 ⟨rfl, b3⟩
        have B3 : Hid (Below w1.heap.size w1 w3) := B2.out.trans (b3.mono B2.out.size)
        have M3 : Hid (Um w3 mb n (lf ks ks.length)) := M2.out.below b3
        have O3 : Hid (Oro w3 w1.heap.size u6 (fs (kp ks q))) := O2.out.below b3
        have X3 : Hid (Orc w3 ⟨z, 0, none⟩ k) := XA.out.below b3 XA.out.lt
        have LK := M3.out.look WF.out.1 WF.out.2
        clear b3 x0 x1 x2 x3 B2 M2 O2 XA
        by_cases hi : lf ks ks.length k.player k.unit = (q : Nat)
        · obtain ⟨x0, x1, x2, x3⟩ := X3.out
          simp only [Nat.zero_add] at x1 x2 x3
          have OA : Hid (Oro (w3.alloc (Obj.cells #[.int .i64 k.player, .int .i64 k.unit, .int .i64 k.what, .int .i64 k.arg] 39)) w1.heap.size u6 (fs (kp ks q))) := O3.out.alloc _
          have RC : Hid (Orc (w3.alloc (Obj.cells #[.int .i64 k.player, .int .i64 k.unit, .int .i64 k.what, .int .i64 k.arg] 39)) ⟨w3.heap.size, 0, none⟩ k) := Orc.mk' (w := w3) k rfl
          have BB : Hid (Below w3.heap.size w3 (w3.alloc (Obj.cells #[.int .i64 k.player, .int .i64 k.unit, .int .i64 k.what, .int .i64 k.arg] 39))) := (Below.refl _ _).alloc (Nat.le_refl _) _
          have SB : Hid (w1.heap.size ≤ (w3.alloc (Obj.cells #[.int .i64 k.player, .int .i64 k.unit, .int .i64 k.what, .int .i64 k.arg] 39)).heap.size) := Nat.le_trans B3.out.size BB.out.size
          have NK : Hid (kp ks (q + 1) = kp ks q ++ [(k, q)]) := kp_yes HK.out (.inr hi)
          rw [hi] at LK
          clear hi
          go_wp2_with (at_builtin; refine app_or _ rfl _ _ rfl w1.heap.size _ (fs (kp ks q)) rfl OA.out w3.heap.size k rfl RC.out (by have := KL.out; omega) SB.out ?_)
          intro g cap w5 o5 g5 a5 l5
          have B5 : Hid (Below w1.heap.size w1 w5) := (B3.out.trans (BB.out.mono B3.out.size)).grown g5 SB.out (fun k hk => (O3.out.block k hk).1)
          have M5 : Hid (Um w5 mb n (lf ks ks.length)) := (M3.out.below BB.out).gb g5 (fun e => by have := (O3.out.block mb e.symm).1; have := M1.out.lt; omega)
          have O5 : Hid (Oro w5 w1.heap.size (.slice (some ⟨g, 0, none⟩) ((kp ks q).length + 1) cap) (fs (kp ks (q + 1)))) := by unfold Hid; rw [NK.out]; simpa [fs] using o5
          clear o5 g5 a5 l5 x0 x1 x2 x3
          go_wp2
          go_round
          case rel => exact ⟨q + 1, by omega, by go_num, O5.out, M5.out, B5.out⟩
          case measure => simp [intOf]; omega
        · have hib : (lf ks ks.length k.player k.unit == ((q : Nat) : Int)) = false := beq_eq_false_iff_ne.2 hi
          have NK : Hid (kp ks (q + 1) = kp ks q) := kp_no HK.out (by rintro (h | h); exact h3 h; exact hi h)
          generalize lf ks ks.length k.player k.unit = lfv at *
          go_wp2
          go_round
          case rel => exact ⟨q + 1, by omega, by go_num, by rw [NK.out]; exact O3.out, M3.out, B3.out⟩
          case measure => simp [intOf]; omega
end Go.Proofs.Ytghkchnfcfnejaa

namespace Go.Proofs.Ytghkchnfcfnejaa
open Go.RowKit
set_option linter.unusedVariables false

set_option maxHeartbeats 2000000 in
theorem idxm_any (K : Nat) (eK : ∀ args w, (callFunc K args).run Try.prog w = .ok (.enter K args) w) (u : Value) (cs : Array Value) (ks : List UnV) (p : UnV → Bool) (w : World) (hu : Unl w u ks)
    (hp : ∀ W, Below w.heap.size w W → ∀ k ∈ ks, Calls Try.prog K (#[k.val] ++ cs) W fun e w' => e = .returned (.bool (p k)) ∧ Below W.heap.size W w') :
    Calls Try.prog 31 #[u, .func (Fn.func K) #[] cs] w fun e w' => ∃ r : Int, e = .returned (.int .i64 r) ∧ FstU p ks r ∧ Below w.heap.size w w' := by
  obtain ⟨a, c, rfl, c1, c2, ca⟩ := hu
  have Ca : Hid (ks ≠ [] → ∃ x, a = some x ∧ x.block < w.heap.size ∧ ∀ (i : Nat) k, ks[i]? = some k → Unc w (x.add (i * 8)) k) := ca
  have Hp : Hid (∀ W, Below w.heap.size w W → ∀ k ∈ ks, Calls Try.prog K (#[k.val] ++ cs) W fun e w' => e = .returned (.bool (p k)) ∧ Below W.heap.size W w') := hp
  clear ca hp
  go_enter Try.func31, Try.ntmps31
  go_wp2
  go_loopw [8] (fun i W' => ∃ k : Nat, k ≤ ks.length ∧ i = .int .i64 (k : Nat) ∧ (ks.take k).any p = false ∧ Below w.heap.size w W') (fun i _ => ks.length - (intOf i).toNat)
  case atStart => exact ⟨0, Nat.zero_le _, rfl, by simp, Below.refl _ _⟩
  case round =>
    obtain ⟨k, hk, rfl, ht, hb⟩ := hrel
    have Ht : Hid ((ks.take k).any p = false) := ht
    have B : Hid (Below w.heap.size w wr) := hb
    clear ht hb
    by_cases h0 : k = ks.length
    · subst h0
      go_wp2
      go_ret
      refine ⟨_, rfl, .inl ⟨rfl, ?_⟩, B⟩
      have := Ht.out
      rw [List.take_of_length_le (Nat.le_refl _)] at this
      exact this
    · have hkx : k < ks.length := by omega
      obtain ⟨x, rfl, hx1, hx⟩ := Ca.out (by intro h; rw [h] at hkx; simp at hkx)
      obtain ⟨y, hy⟩ : ∃ y, ks[k]? = some y := ⟨_, List.getElem?_eq_getElem hkx⟩
      have Yc := (hx k y hy).below B.out (by rw [add_block]; exact hx1)
      obtain ⟨q0, q1, q2, q3, q4, q5, q6, q7⟩ := Yc
      have hc := Hp.out wr B.out y (List.mem_of_getElem? hy)
      have Hs : Hid _ := anyu_next (p := p) hy
      have Hm : Hid (ks[k]? = some y) := hy
      clear hx hx1 hy
      cases hy : p y with
      | true =>
        rw [hy] at hc
        have Hc : Hid (Calls Try.prog K (#[y.val] ++ cs) wr fun e w' => e = .returned (.bool true) ∧ Below wr.heap.size wr w') := hc
        have Hy : Hid (p y = true) := hy
        clear hc hy
        go_wp2_with fail
        refine Calls.mono Hc.out ?_
        rintro e w1 ⟨rfl, b1⟩
        have B1 : Hid (Below w.heap.size w w1) := B.out.trans (b1.mono B.out.size)
        clear b1
        go_wp2
        go_ret
        exact ⟨_, rfl, .inr ⟨k, y, rfl, Hm, Hy, Ht⟩, B1⟩
      | false =>
        rw [hy] at hc
        have Hc : Hid (Calls Try.prog K (#[y.val] ++ cs) wr fun e w' => e = .returned (.bool false) ∧ Below wr.heap.size wr w') := hc
        have Hy : Hid (p y = false) := hy
        clear hc hy
        go_wp2_with fail
        refine Calls.mono Hc.out ?_
        rintro e w1 ⟨rfl, b1⟩
        have B1 : Hid (Below w.heap.size w w1) := B.out.trans (b1.mono B.out.size)
        clear b1
        go_wp2
        go_round
        case rel => exact ⟨k + 1, by omega, by go_num, by have := Hs.out; rw [Ht.out, Hy.out] at this; exact this, B1⟩
        case measure => simp [intOf]; omega


end Go.Proofs.Ytghkchnfcfnejaa

namespace Go.Proofs.Ytghkchnfcfnejaa
open Go.RowKit Go.Proofs.Ytghkchnfcfnejaa.So
set_option linter.unusedVariables false

def GiveTells (ks : List KV) (X : WV) (l : List OrV) (w : World) (e : Ending) (w' : World) : Prop := ∃ v ur r, e = .returned (.tuple #[v, ur, r]) ∧ Er r (Od.faults l) ∧ ((Od.faults l ≠ 0 ∧ v = .agg #[.int .i64 0, .int .i64 0, .int .i64 0, .int .i64 0, .slice none 0 0, .slice none 0 0, .slice none 0 0, .slice none 0 0, .slice none 0 0] ∧ ur = .slice none 0 0) ∨ (Od.faults l = 0 ∧ ∃ out, LastSays l out ∧ Wo w' w.heap.size v (gv ks X out out.length).1 ∧ Ow w' w.heap.size ur (gv ks X out out.length).2)) ∧ Below w.heap.size w w'
def GvI (ks : List KV) (X : WV) (out : List OrV) (b1 z : Nat) (w1 : World) (ur j : Value) (V : World) : Prop := ∃ (q : Nat) (u1 u2 u3 u4 u5 : Value), q ≤ out.length ∧ j = .int .i64 (q : Nat) ∧ (gv ks X out q).2.length ≤ q ∧ GvS ks (gv ks X out q).1 (gv ks X out q).2 b1 z w1 u1 u2 u3 u4 u5 ur V
set_option maxRecDepth 100000 in
set_option maxHeartbeats 16000000 in
theorem give_any (vk vw vl : Value) (ks : List KV) (X : WV) (l : List OrV) (w : World) (hk : Kl w vk ks) (hw : Wl w vw X) (hl : Orl w vl l) (hr : WRight ks X) :
    Calls Try.prog 13 #[vk, vw, vl] w (GiveTells ks X l w) := by
  have K : Hid (Kl w vk ks) := hk
  have H : Hid (Wl w vw X) := hw
  have L : Hid (Orl w vl l) := hl
  have R : Hid (WRight ks X) := hr
  obtain ⟨p1, q1, p2, q2, p3, q3, p4, q4, p5, q5, rfl⟩ := wl_shape9 hw
  obtain ⟨pk, qk, rfl, ck1, ck2, kc⟩ := hk
  obtain ⟨pl, ql, rfl, cl1, cl2, lc⟩ := hl
  have kl8 : ks.length ≤ 8 := hr.gfit.kinds.1
  clear hw kc lc hr
  go_enter Try.func13, Try.ntmps13
  go_upto_region 1 with fail
  have B0 : Hid (Below w.heap.size w ((w.alloc (Obj.cells #[.int .i64 X.turn, .int .i64 X.next, .int .i64 X.wide, .int .i64 X.high, .slice p1 X.gs.length q1, .slice p2 X.os.length q2, .slice p3 X.gold.length q3, .slice p4 X.us.length q4, .slice p5 X.qs.length q5] 29)).alloc (Obj.cells #[.int .i64 0, .int .i64 0, .int .i64 0, .int .i64 0, .slice none 0 0, .slice none 0 0, .slice none 0 0, .slice none 0 0, .slice none 0 0] 29))) := ((Below.refl _ _).alloc (Nat.le_refl _) _).alloc (by simp) _
  have X0 : Hid (Wx ((w.alloc (Obj.cells #[.int .i64 X.turn, .int .i64 X.next, .int .i64 X.wide, .int .i64 X.high, .slice p1 X.gs.length q1, .slice p2 X.os.length q2, .slice p3 X.gold.length q3, .slice p4 X.us.length q4, .slice p5 X.qs.length q5] 29)).alloc (Obj.cells #[.int .i64 0, .int .i64 0, .int .i64 0, .int .i64 0, .slice none 0 0, .slice none 0 0, .slice none 0 0, .slice none 0 0, .slice none 0 0] 29)) w.heap.size (.int .i64 X.turn) (.int .i64 X.next) (.int .i64 X.wide) (.int .i64 X.high) (.slice p1 X.gs.length q1) (.slice p2 X.os.length q2) (.slice p3 X.gold.length q3) (.slice p4 X.us.length q4) (.slice p5 X.qs.length q5)) := (Wx.new (w := w) _ _ _ _ _ _ _ _ _ rfl).below ((Below.refl _ _).alloc (Nat.le_refl _) _) (by simp)
  have Z0 : Hid (Wx ((w.alloc (Obj.cells #[.int .i64 X.turn, .int .i64 X.next, .int .i64 X.wide, .int .i64 X.high, .slice p1 X.gs.length q1, .slice p2 X.os.length q2, .slice p3 X.gold.length q3, .slice p4 X.us.length q4, .slice p5 X.qs.length q5] 29)).alloc (Obj.cells #[.int .i64 0, .int .i64 0, .int .i64 0, .int .i64 0, .slice none 0 0, .slice none 0 0, .slice none 0 0, .slice none 0 0, .slice none 0 0] 29)) (w.heap.size + 1) (.int .i64 0) (.int .i64 0) (.int .i64 0) (.int .i64 0) (.slice none 0 0) (.slice none 0 0) (.slice none 0 0) (.slice none 0 0) (.slice none 0 0)) := Wx.new (w := w.alloc (Obj.cells #[.int .i64 X.turn, .int .i64 X.next, .int .i64 X.wide, .int .i64 X.high, .slice p1 X.gs.length q1, .slice p2 X.os.length q2, .slice p3 X.gold.length q3, .slice p4 X.us.length q4, .slice p5 X.qs.length q5] 29)) _ _ _ _ _ _ _ _ _ (by simp)
  have S0 : Hid (((w.alloc (Obj.cells #[.int .i64 X.turn, .int .i64 X.next, .int .i64 X.wide, .int .i64 X.high, .slice p1 X.gs.length q1, .slice p2 X.os.length q2, .slice p3 X.gold.length q3, .slice p4 X.us.length q4, .slice p5 X.qs.length q5] 29)).alloc (Obj.cells #[.int .i64 0, .int .i64 0, .int .i64 0, .int .i64 0, .slice none 0 0, .slice none 0 0, .slice none 0 0, .slice none 0 0, .slice none 0 0] 29)).heap.size = w.heap.size + 1 + 1) := by unfold Hid; simp
  generalize ((w.alloc (Obj.cells #[.int .i64 X.turn, .int .i64 X.next, .int .i64 X.wide, .int .i64 X.high, .slice p1 X.gs.length q1, .slice p2 X.os.length q2, .slice p3 X.gold.length q3, .slice p4 X.us.length q4, .slice p5 X.qs.length q5] 29)).alloc (Obj.cells #[.int .i64 0, .int .i64 0, .int .i64 0, .int .i64 0, .slice none 0 0, .slice none 0 0, .slice none 0 0, .slice none 0 0, .slice none 0 0] 29)) = w0 at *
  obtain ⟨z, hz⟩ : ∃ z, w.heap.size = z := ⟨_, rfl⟩
  have HZ : Hid (w.heap.size = z) := hz
  rw [hz] at X0 Z0 S0 ⊢
  clear hz
  go_wp2_with fail
  refine Calls.mono (last_any _ l w0 (L.out.below B0.out)) ?_
  rintro e w1 ⟨ul, rl, rfl, hrl, hul, b1'⟩
  have B1 : Hid (Below w.heap.size w w1) := B0.out.trans (b1'.mono B0.out.size)
  have X1 : Hid (Wx w1 z (.int .i64 X.turn) (.int .i64 X.next) (.int .i64 X.wide) (.int .i64 X.high) (.slice p1 X.gs.length q1) (.slice p2 X.os.length q2) (.slice p3 X.gold.length q3) (.slice p4 X.us.length q4) (.slice p5 X.qs.length q5)) := X0.out.below b1' X0.out.lt
  have Z1 : Hid (Wx w1 (z + 1) (.int .i64 0) (.int .i64 0) (.int .i64 0) (.int .i64 0) (.slice none 0 0) (.slice none 0 0) (.slice none 0 0) (.slice none 0 0) (.slice none 0 0)) := Z0.out.below b1' Z0.out.lt
  obtain ⟨F, hF⟩ : ∃ F, Od.faults l = F := ⟨_, rfl⟩
  have HF : Hid (Od.faults l = F) := hF
  rw [hF] at hrl hul
  clear hF b1' X0 Z0
  rcases hrl with ⟨rfl, rfl⟩ | ⟨hF, rfl⟩
  case inr =>
    have HN : Hid (F ≠ 0) := hF
    clear hF hul
    obtain ⟨z0, z1, z2, z3, z4, z5, z6, z7, z8⟩ := Z1.out.cells
    obtain ⟨t0, t1, t2, t3, t4, t5, t6, t7, t8⟩ := Z1.out.thaws
    have KZ : Hid (Kp (z + 1) w1 ((((((((((w1.setCell ⟨z + 1, 0, none⟩ (.int .i64 0)).setCell ⟨z + 1, 1, none⟩ (.int .i64 0)).setCell ⟨z + 1, 2, none⟩ (.int .i64 0)).setCell ⟨z + 1, 3, none⟩ (.int .i64 0)).setCell ⟨z + 1, 4, none⟩ (.slice none 0 0)).setCell ⟨z + 1, 5, none⟩ (.slice none 0 0)).setCell ⟨z + 1, 6, none⟩ (.slice none 0 0)).setCell ⟨z + 1, 7, none⟩ (.slice none 0 0)).setCell ⟨z + 1, 8, none⟩ (.slice none 0 0)))) := put_kp _ _ _ _ _ _ _ _ _ _ _
    obtain ⟨y0, y1, y2, y3, y4, y5, y6, y7, y8⟩ := (Z1.out.put (.int .i64 0) (.int .i64 0) (.int .i64 0) (.int .i64 0) (.slice none 0 0) (.slice none 0 0) (.slice none 0 0) (.slice none 0 0) (.slice none 0 0)).cells
    go_wp2
    clear z0 z1 z2 z3 z4 z5 z6 z7 z8 t0 t1 t2 t3 t4 t5 t6 t7 t8
    generalize (((((((((w1.setCell ⟨z + 1, 0, none⟩ (.int .i64 0)).setCell ⟨z + 1, 1, none⟩ (.int .i64 0)).setCell ⟨z + 1, 2, none⟩ (.int .i64 0)).setCell ⟨z + 1, 3, none⟩ (.int .i64 0)).setCell ⟨z + 1, 4, none⟩ (.slice none 0 0)).setCell ⟨z + 1, 5, none⟩ (.slice none 0 0)).setCell ⟨z + 1, 6, none⟩ (.slice none 0 0)).setCell ⟨z + 1, 7, none⟩ (.slice none 0 0)).setCell ⟨z + 1, 8, none⟩ (.slice none 0 0)) = w9 at *
    refine bodyPost_ret (v := .tuple #[.agg #[.int .i64 0, .int .i64 0, .int .i64 0, .int .i64 0, .slice none 0 0, .slice none 0 0, .slice none 0 0, .slice none 0 0, .slice none 0 0], .slice none 0 0, .iface 69 (.int .i64 F)]) (by simp [results, Try.results13, go_sem, y0, y1, y2, y3, y4, y5, y6, y7, y8]) rfl ⟨_, _, _, rfl, by rw [HF.out]; exact Er.no HN.out, .inl ⟨by rw [HF.out]; exact HN.out, rfl, rfl⟩, KZ.out.below B1.out B1.out.size (by rw [HZ.out]; omega)⟩
  obtain ⟨out, hls, ho⟩ : ∃ out, LastSays l out ∧ Oro w1 w0.heap.size ul out := by
    rcases hul with ⟨h, -⟩ | ⟨-, h⟩
    · exact absurd rfl h
    · exact h
  have LS : Hid (LastSays l out) := hls
  have OB : Hid (∀ o ∈ out, ¬ Od.bad o) := fun o h => (Od.faults_ok HF.out).2 o (hls.mem h)
  have OL : Hid (out.length ≤ 60) := Nat.le_trans hls.len (Od.faults_ok HF.out).1
  obtain ⟨plo, clo, rfl⟩ := ho.len
  have O1 : Hid (Oro w1 (z + 1 + 1) (.slice plo out.length clo) out) := by have h := ho; rw [S0.out] at h; exact h
  clear hls ho hul
  obtain ⟨x0, x1, x2, x3, x4, x5, x6, x7, x8⟩ := X1.out.cells
  go_wp2_with fail
  refine (copy_any _ X w1 (H.out.below B1.out) R.out.len).mono ?_
  rintro e w2 ⟨cu, rfl, ⟨k1, k2, k3, k4, k5, rfl, ⟨o1, o2, o3, o4, o5⟩, d12, d13, d14, d15, d23, d24, d25, d34, d35, d45⟩, hb⟩
  obtain ⟨b1, hb1⟩ : ∃ b, w1.heap.size = b := ⟨_, rfl⟩
  have HB1 : Hid (w1.heap.size = b1 ∧ z + 1 < b1) := ⟨hb1, by rw [← hb1]; exact Z1.out.lt⟩
  rw [hb1] at o1 o2 o3 o4 o5
  have X2 : Hid (Wx w2 z (.int .i64 X.turn) (.int .i64 X.next) (.int .i64 X.wide) (.int .i64 X.high) (.slice p1 X.gs.length q1) (.slice p2 X.os.length q2) (.slice p3 X.gold.length q3) (.slice p4 X.us.length q4) (.slice p5 X.qs.length q5)) := X1.out.below hb X1.out.lt
  obtain ⟨t0, t1, t2, t3, t4, t5, t6, t7, t8⟩ := X2.out.thaws
  obtain ⟨y0, y1, y2, y3, y4, y5, y6, y7, y8⟩ := X2.out.cells
  have KZ : Hid (Kp z w2 ((((((((((w2.setCell ⟨z, 0, none⟩ (.int .i64 X.turn)).setCell ⟨z, 1, none⟩ (.int .i64 X.next)).setCell ⟨z, 2, none⟩ (.int .i64 X.wide)).setCell ⟨z, 3, none⟩ (.int .i64 X.high)).setCell ⟨z, 4, none⟩ (k1)).setCell ⟨z, 5, none⟩ (k2)).setCell ⟨z, 6, none⟩ (k3)).setCell ⟨z, 7, none⟩ (k4)).setCell ⟨z, 8, none⟩ (k5)))) := put_kp _ _ _ _ _ _ _ _ _ _ _
  have X3 : Hid (Wx ((((((((((w2.setCell ⟨z, 0, none⟩ (.int .i64 X.turn)).setCell ⟨z, 1, none⟩ (.int .i64 X.next)).setCell ⟨z, 2, none⟩ (.int .i64 X.wide)).setCell ⟨z, 3, none⟩ (.int .i64 X.high)).setCell ⟨z, 4, none⟩ (k1)).setCell ⟨z, 5, none⟩ (k2)).setCell ⟨z, 6, none⟩ (k3)).setCell ⟨z, 7, none⟩ (k4)).setCell ⟨z, 8, none⟩ (k5))) z (.int .i64 X.turn) (.int .i64 X.next) (.int .i64 X.wide) (.int .i64 X.high) k1 k2 k3 k4 k5) := X2.out.put _ _ _ _ _ _ _ _ _
  have G3 : Hid (GvS ks X [] b1 z w1 k1 k2 k3 k4 k5 (.slice none 0 0) ((((((((((w2.setCell ⟨z, 0, none⟩ (.int .i64 X.turn)).setCell ⟨z, 1, none⟩ (.int .i64 X.next)).setCell ⟨z, 2, none⟩ (.int .i64 X.wide)).setCell ⟨z, 3, none⟩ (.int .i64 X.high)).setCell ⟨z, 4, none⟩ (k1)).setCell ⟨z, 5, none⟩ (k2)).setCell ⟨z, 6, none⟩ (k3)).setCell ⟨z, 7, none⟩ (k4)).setCell ⟨z, 8, none⟩ (k5)))) := by
    have hz1 := HB1.out.2
    refine ⟨X3.out, o1.kp KZ.out (by omega), o2.kp KZ.out (by omega), o3.kp KZ.out (by omega), o4.kp KZ.out (by omega), o5.kp KZ.out (by omega), Ow.nil _ _, ?_, (Kp.of hb).trans KZ.out, R.out.gfit⟩
    have dn : ∀ u, Dif u (.slice none 0 0) := fun u k h1 h2 => by cases h2
    simp only [List.pairwise_cons, List.mem_cons, List.not_mem_nil, or_false, forall_eq_or_imp, forall_eq]
    exact ⟨⟨d12, d13, d14, d15, dn _⟩, ⟨d23, d24, d25, dn _⟩, ⟨d34, d35, dn _⟩, ⟨d45, dn _⟩, dn _, by simp, by simp⟩
  obtain ⟨kp1, kc1, rfl⟩ := o1.len
  obtain ⟨kp2, kc2, rfl⟩ := o2.len
  obtain ⟨kp3, kc3, rfl⟩ := o3.len
  obtain ⟨kp4, kc4, rfl⟩ := o4.len
  obtain ⟨kp5, kc5, rfl⟩ := o5.len
  clear hb hb1 x0 x1 x2 x3 x4 x5 x6 x7 x8 o1 o2 o3 o4 o5 d12 d13 d14 d15 d23 d24 d25 d34 d35 d45 X1
  go_upto_region 5 with fail
  clear t0 t1 t2 t3 t4 t5 t6 t7 t8 y0 y1 y2 y3 y4 y5 y6 y7 y8
  generalize (((((((((w2.setCell ⟨z, 0, none⟩ (.int .i64 X.turn)).setCell ⟨z, 1, none⟩ (.int .i64 X.next)).setCell ⟨z, 2, none⟩ (.int .i64 X.wide)).setCell ⟨z, 3, none⟩ (.int .i64 X.high)).setCell ⟨z, 4, none⟩ (.slice kp1 X.gs.length kc1)).setCell ⟨z, 5, none⟩ (.slice kp2 X.os.length kc2)).setCell ⟨z, 6, none⟩ (.slice kp3 X.gold.length kc3)).setCell ⟨z, 7, none⟩ (.slice kp4 X.us.length kc4)).setCell ⟨z, 8, none⟩ (.slice kp5 X.qs.length kc5)) = w3 at *
  have ZZ : Hid (∀ V, Kp z w1 V → Wx V (z + 1) (.int .i64 0) (.int .i64 0) (.int .i64 0) (.int .i64 0) (.slice none 0 0) (.slice none 0 0) (.slice none 0 0) (.slice none 0 0) (.slice none 0 0)) := fun V hV => Z1.out.kp hV (by omega)
  have OO : Hid (∀ V, Kp z w1 V → Oro V (z + 1 + 1) (.slice plo out.length clo) out) := fun V hV => owns_kp O1.out hV (by omega)
  have BV : Hid (∀ V, Kp z w1 V → Below w.heap.size w V) := fun V hV => hV.below B1.out B1.out.size (by rw [HZ.out]; omega)
  have ol : out.length ≤ 60 := OL.out
  clear KZ X2 X3
  go_wp2_with fail
  go_loopw [11, 29] (fun ur j V => GvI ks X out b1 z w1 ur j V) (fun _ j _ => out.length - (intOf j).toNat)
  case atStart => exact ⟨0, _, _, _, _, _, Nat.zero_le _, rfl, Nat.le_refl _, G3.out⟩
  case round =>
    obtain ⟨q, u1, u2, u3, u4, u5, hq, rfl, hrl, hg⟩ := hrel
    obtain ⟨Y, hY⟩ : ∃ Y, (gv ks X out q).1 = Y := ⟨_, rfl⟩
    obtain ⟨ref, hR⟩ : ∃ r, (gv ks X out q).2 = r := ⟨_, rfl⟩
    have HY : Hid ((gv ks X out q).1 = Y ∧ (gv ks X out q).2 = ref) := ⟨hY, hR⟩
    rw [hY, hR] at hg
    rw [hR] at hrl
    have GQ : Hid (GvS ks Y ref b1 z w1 u1 u2 u3 u4 u5 u11 wr) := hg
    have RL : Hid (ref.length ≤ q) := hrl
    clear hY hR
    obtain ⟨ra, rc, rfl⟩ := hg.r.len
    obtain ⟨a1, h1, rfl⟩ := hg.o1.len
    obtain ⟨a2, h2, rfl⟩ := hg.o2.len
    obtain ⟨a3, h3, rfl⟩ := hg.o3.len
    obtain ⟨a4, h4, rfl⟩ := hg.o4.len
    obtain ⟨a5, h5, rfl⟩ := hg.o5.len
    clear hg hrl
    by_cases hqo : q = out.length
    · have FIN : Hid ((gv ks X out out.length).1 = Y ∧ (gv ks X out out.length).2 = ref) := by rw [← hqo]; exact HY.out
      subst hqo
      obtain ⟨x0, x1, x2, x3, x4, x5, x6, x7, x8⟩ := GQ.out.x.cells
      obtain ⟨z0, z1, z2, z3, z4, z5, z6, z7, z8⟩ := (ZZ.out _ GQ.out.k).cells
      obtain ⟨t0, t1, t2, t3, t4, t5, t6, t7, t8⟩ := (ZZ.out _ GQ.out.k).thaws
      have KZ : Hid (Kp (z + 1) wr ((((((((((wr.setCell ⟨z + 1, 0, none⟩ (.int .i64 Y.turn)).setCell ⟨z + 1, 1, none⟩ (.int .i64 Y.next)).setCell ⟨z + 1, 2, none⟩ (.int .i64 Y.wide)).setCell ⟨z + 1, 3, none⟩ (.int .i64 Y.high)).setCell ⟨z + 1, 4, none⟩ (.slice a1 Y.gs.length h1)).setCell ⟨z + 1, 5, none⟩ (.slice a2 Y.os.length h2)).setCell ⟨z + 1, 6, none⟩ (.slice a3 Y.gold.length h3)).setCell ⟨z + 1, 7, none⟩ (.slice a4 Y.us.length h4)).setCell ⟨z + 1, 8, none⟩ (.slice a5 Y.qs.length h5)))) := put_kp _ _ _ _ _ _ _ _ _ _ _
      obtain ⟨y0, y1, y2, y3, y4, y5, y6, y7, y8⟩ := ((ZZ.out _ GQ.out.k).put (.int .i64 Y.turn) (.int .i64 Y.next) (.int .i64 Y.wide) (.int .i64 Y.high) (.slice a1 Y.gs.length h1) (.slice a2 Y.os.length h2) (.slice a3 Y.gold.length h3) (.slice a4 Y.us.length h4) (.slice a5 Y.qs.length h5)).cells
      go_wp2
      clear x0 x1 x2 x3 x4 x5 x6 x7 x8 z0 z1 z2 z3 z4 z5 z6 z7 z8 t0 t1 t2 t3 t4 t5 t6 t7 t8
      generalize (((((((((wr.setCell ⟨z + 1, 0, none⟩ (.int .i64 Y.turn)).setCell ⟨z + 1, 1, none⟩ (.int .i64 Y.next)).setCell ⟨z + 1, 2, none⟩ (.int .i64 Y.wide)).setCell ⟨z + 1, 3, none⟩ (.int .i64 Y.high)).setCell ⟨z + 1, 4, none⟩ (.slice a1 Y.gs.length h1)).setCell ⟨z + 1, 5, none⟩ (.slice a2 Y.os.length h2)).setCell ⟨z + 1, 6, none⟩ (.slice a3 Y.gold.length h3)).setCell ⟨z + 1, 7, none⟩ (.slice a4 Y.us.length h4)).setCell ⟨z + 1, 8, none⟩ (.slice a5 Y.qs.length h5)) = w9 at *
      refine bodyPost_ret (v := .tuple #[.agg #[.int .i64 Y.turn, .int .i64 Y.next, .int .i64 Y.wide, .int .i64 Y.high, .slice a1 Y.gs.length h1, .slice a2 Y.os.length h2, .slice a3 Y.gold.length h3, .slice a4 Y.us.length h4, .slice a5 Y.qs.length h5], .slice ra ref.length rc, .nilIface]) (by simp [results, Try.results13, go_sem, y0, y1, y2, y3, y4, y5, y6, y7, y8]) rfl ⟨_, _, _, rfl, by rw [HF.out]; exact Er.nil, .inr ⟨HF.out, out, LS.out, ?_, ?_⟩, ?_⟩
      · rw [FIN.out.1]
        exact (GQ.out.wo.kp KZ.out HB1.out.2).mono (by have h1 := HB1.out; have h2 := HZ.out; omega)
      · rw [FIN.out.2]
        exact (GQ.out.r.kp KZ.out HB1.out.2).mono (by have h1 := HB1.out; have h2 := HZ.out; omega)
      · exact KZ.out.below (BV.out _ GQ.out.k) (BV.out _ GQ.out.k).size (by rw [HZ.out]; omega)
    · have hqk : q < out.length := by omega
      obtain ⟨o, ho⟩ : ∃ o, out[q]? = some o := ⟨_, List.getElem?_eq_getElem hqk⟩
      have HO : Hid (out[q]? = some o) := ho
      have OBK : Hid (¬ Od.bad o) := OB.out o (List.mem_of_getElem? ho)
      obtain ⟨a', c', e, -, -, hx⟩ := (OO.out _ GQ.out.k).l
      injection e with e1 e2 e3
      subst e1 e3
      obtain ⟨xo, rfl, -, hxo⟩ := hx (by rintro hn; rw [hn] at hqk; simp at hqk)
      obtain ⟨r0, r1, r2, r3⟩ := hxo q o ho
      clear hx hxo e2 ho
      have hqi : ((q : Nat) : Int) < (out.length : Nat) := by omega
      go_upto_region 9 with fail
      have BA : Hid (Below wr.heap.size wr (wr.alloc (Obj.cells #[.int .i64 o.player, .int .i64 o.unit, .int .i64 o.what, .int .i64 o.arg] 39))) := (Below.refl _ _).alloc (Nat.le_refl _) _
      have OA : Hid (Orc (wr.alloc (Obj.cells #[.int .i64 o.player, .int .i64 o.unit, .int .i64 o.what, .int .i64 o.arg] 39)) ⟨wr.heap.size, 0, none⟩ o) := Orc.mk' (w := wr) o rfl
      obtain ⟨y, hy⟩ : ∃ y, wr.heap.size = y := ⟨_, rfl⟩
      have YL : Hid (wr.heap.size = y ∧ b1 ≤ y) := ⟨hy, by rw [← hy, ← HB1.out.1]; exact GQ.out.k.size⟩
      rw [hy] at OA ⊢
      clear r0 r1 r2 r3 hy
      generalize wr.alloc (Obj.cells #[.int .i64 o.player, .int .i64 o.unit, .int .i64 o.what, .int .i64 o.arg] 39) = w4 at *
      have G4 : Hid (GvS ks Y ref b1 z w1 (.slice a1 Y.gs.length h1) (.slice a2 Y.os.length h2) (.slice a3 Y.gold.length h3) (.slice a4 Y.us.length h4) (.slice a5 Y.qs.length h5) (.slice ra ref.length rc) w4) := GQ.out.below BA.out
      have yl4 : Hid (y < w4.heap.size) := OA.out.lt
      clear BA GQ
      obtain ⟨x0, x1, x2, x3, x4, x5, x6, x7, x8⟩ := G4.out.x.cells
      go_wp2_with fail
      refine (idxm_any 30 (by intro args w; go_simp) _ #[.pointer (some ⟨y, 0, none⟩)] Y.us (askU o) w4 G4.out.o4.l (fun W hW u hu => ?_)).mono ?_
      · obtain ⟨c0, c1, -, -⟩ := OA.out.below hW yl4.out
        simp only [Nat.zero_add] at c1
        exact ask_fn o u y W c0 c1
      rintro e w5 ⟨r, rfl, hfr, b5⟩
      have G5 : Hid (GvS ks Y ref b1 z w1 (.slice a1 Y.gs.length h1) (.slice a2 Y.os.length h2) (.slice a3 Y.gold.length h3) (.slice a4 Y.us.length h4) (.slice a5 Y.qs.length h5) (.slice ra ref.length rc) w5) := G4.out.below b5
      have O5 : Hid (Orc w5 ⟨y, 0, none⟩ o) := OA.out.below b5 yl4.out
      clear b5 x0 x1 x2 x3 x4 x5 x6 x7 x8 G4 OA
      have kl8i : ks.length ≤ 8 := kl8
      rcases hfr with ⟨rfl, hnone⟩ | ⟨i, u, rfl, hu, hask, hfirst⟩
      · have GN : Hid (given1 ks Y o = none) := by unfold Hid given1; rw [ask_none hnone]
        clear hnone
        go_upto_region 11 with fail
        go_quiet (fail)
        have D6 : Hid (Below w5.heap.size w5 (w5.drewN nq)) := ⟨rfl, rfl, rfl, Nat.le_refl _, fun _ _ => rfl⟩
        generalize w5.drewN nq = w6 at *
        have G6 : Hid (GvS ks Y ref b1 z w1 (.slice a1 Y.gs.length h1) (.slice a2 Y.os.length h2) (.slice a3 Y.gold.length h3) (.slice a4 Y.us.length h4) (.slice a5 Y.qs.length h5) (.slice ra ref.length rc) w6) := G5.out.below D6.out
        have NX : Hid (gv ks X out (q + 1) = (Y, ref ++ [(q : Int)])) := by
          have h9 := gv_no (ks := ks) (Y := X) HO.out (by rw [HY.out.1]; exact GN.out)
          unfold Hid
          rw [h9, HY.out.1, HY.out.2]
        have BA : Hid (Below w6.heap.size w6 (w6.alloc (Obj.cells #[.int .i64 (q : Nat)] 3))) := (Below.refl _ _).alloc (Nat.le_refl _) _
        have GA : Hid (GvS ks Y ref b1 z w1 (.slice a1 Y.gs.length h1) (.slice a2 Y.os.length h2) (.slice a3 Y.gold.length h3) (.slice a4 Y.us.length h4) (.slice a5 Y.qs.length h5) (.slice ra ref.length rc) (w6.alloc (Obj.cells #[.int .i64 (q : Nat)] 3))) := G6.out.below BA.out
        have SB : Hid (b1 ≤ (w6.alloc (Obj.cells #[.int .i64 (q : Nat)] 3)).heap.size) := Nat.le_trans (by have h1 := G6.out.k.size; rw [HB1.out.1] at h1; exact h1) BA.out.size
        go_wp2_with (at_builtin; refine app_int _ rfl _ _ rfl b1 _ ref rfl GA.out.r ⟨w6.heap.size, 0, none⟩ (q : Int) rfl (by simp) (by have := RL.out; omega) SB.out ?_)
        intro g7 c7 w7 o7 gr7 a7 l7
        have G7 : Hid (GvS ks Y (ref ++ [(q : Int)]) b1 z w1 (.slice a1 Y.gs.length h1) (.slice a2 Y.os.length h2) (.slice a3 Y.gold.length h3) (.slice a4 Y.us.length h4) (.slice a5 Y.qs.length h5) (.slice (some ⟨g7, 0, none⟩) (ref.length + 1) c7) w7) := GA.out.refuse (by have := HB1.out.2; omega) HB1.out.1 gr7 o7 (by
          rcases a7 with h | h
          · exact .inl h.symm
          · exact .inr ⟨g7, rfl, by rw [h]; simp⟩)
        clear o7 gr7 a7 l7
        go_wp2
        go_round
        case rel => exact ⟨q + 1, _, _, _, _, _, by omega, by go_num, by rw [NX.out]; have := RL.out; simp; omega, by rw [NX.out]; exact G7.out⟩
        case measure => simp [intOf]; omega
      · have FI : Hid (Y.us.findIdx? (askU o) = some i ∧ Y.us[i]? = some u) := ⟨ask_some hu hask hfirst, hu⟩
        obtain ⟨⟨kn, k, hkn, hkk⟩, pn, hpn, hpl⟩ := G5.out.f.units u (List.mem_of_getElem? hu)
        have hap : u.player = o.player := (of_decide_eq_true hask).2
        have KU : Hid (u.kind = (kn : Nat) ∧ ks[kn]? = some k ∧ o.player = (pn : Nat) ∧ pn < Y.gold.length) := ⟨hkn, hkk, by rw [← hap]; exact hpn, hpl⟩
        have hil : i < Y.us.length := (List.getElem?_eq_some_iff.1 hu).1
        have hkl : kn < ks.length := (List.getElem?_eq_some_iff.1 hkk).1
        have G1 : Hid (given1 ks Y o = if mayB ks Y k o = true then some (if o.what = 3 then hired ks Y o else sentW Y i u o) else none) := by
          unfold Hid given1
          rw [FI.out.1]
          simp only [FI.out.2]
          rw [KU.out.1, Int.toNat_natCast]
          simp only [KU.out.2.1]
        obtain ⟨gu, cap, urest, e4, hgu, hc1, hc2, hc3, hub⟩ : ∃ gu cap rest, Value.slice a4 Y.us.length h4 = .slice (some ⟨gu, 0, none⟩) Y.us.length cap ∧ b1 ≤ gu ∧ Y.us.length ≤ cap ∧ cap ≤ maxLen ∧ Y.us.length * 8 + rest.length = cap * 8 ∧ Ub w5 gu Y.us rest := by
          rcases G5.out.o4.ub with ⟨-, h⟩ | ⟨gu, cap, rest, h⟩
          · rw [h] at hil; simp at hil
          · exact ⟨gu, cap, rest, h⟩
        injection e4 with e41 e42 e43
        subst e41 e43
        have UG : Hid (b1 ≤ gu ∧ Y.us.length ≤ h4 ∧ h4 ≤ maxLen ∧ Y.us.length * 8 + urest.length = h4 * 8 ∧ Ub w5 gu Y.us urest) := ⟨hgu, hc1, hc2, hc3, hub⟩
        have UB : Hid (∀ V, Below w5.heap.size w5 V → Ub V gu Y.us urest) := fun V hV => hub.below hV hub.lt
        obtain ⟨xk, rfl, hxk1, hxk⟩ : ∃ xk, pk = some xk ∧ xk.block < w.heap.size ∧ ∀ (i : Nat) k, ks[i]? = some k → Kc w (xk.add (i * 11)) k := by
          obtain ⟨a', c', e', -, -, hx⟩ := K.out
          injection e' with e1' e2' e3'
          subst e1'
          exact hx (by rintro hn; rw [hn] at hkl; simp at hkl)
        have BW : Hid (∀ V, Below w5.heap.size w5 V → Below w.heap.size w V) := fun V hV => (BV.out _ G5.out.k).trans (hV.mono (BV.out _ G5.out.k).size)
        have KX : Hid (∀ V, Below w5.heap.size w5 V → ∀ (j : Nat) kk, ks[j]? = some kk → Kc V (xk.add (j * 11)) kk) := fun V hV j kk hj => (hxk j kk hj).below (BW.out V hV) (by rw [add_block]; exact hxk1)
        have C5 : Hid (∀ V, Below w5.heap.size w5 V → (Wx V z (.int .i64 Y.turn) (.int .i64 Y.next) (.int .i64 Y.wide) (.int .i64 Y.high) (.slice a1 Y.gs.length h1) (.slice a2 Y.os.length h2) (.slice a3 Y.gold.length h3) (.slice (some ⟨gu, 0, none⟩) Y.us.length h4) (.slice a5 Y.qs.length h5) ∧ Unc V ⟨gu, i * 8, none⟩ u ∧ Kc V (xk.add (kn * 11)) k ∧ Orc V ⟨y, 0, none⟩ o)) := fun V hV => ⟨G5.out.x.below hV G5.out.x.lt, (UB.out V hV).unc FI.out.2, KX.out V hV kn k KU.out.2.1, O5.out.below hV O5.out.lt⟩
        have hkni : ((kn : Nat) : Int) < (ks.length : Nat) := by omega
        have hii : ((i : Nat) : Int) < (Y.us.length : Nat) := by omega
        have hi0 : ¬ ((i : Nat) : Int) < 0 := by omega
        have D5 : Hid (Below w5.heap.size w5 { w5 with drawn := w5.drawn + 1 }) := (Below.refl _ _).drew
        clear hu hask hfirst hkk hap hpn hpl hgu hc1 hc2 hc3 hub e42 hxk hxk1 hkn hil hkl
        go_upto_region 11 with fail
        refine wp_region_two [(true, 0), (true, 1), (true, 2), (true, 3), (true, 4), (true, 5), (true, 6), (true, 7), (true, 8), (true, 9), (true, 10), (true, 11), (true, 12), (true, 13), (true, 14), (false, 15)] [(false, 16), (false, 17)] (fun V => Wx V z (.int .i64 Y.turn) (.int .i64 Y.next) (.int .i64 Y.wide) (.int .i64 Y.high) (.slice a1 Y.gs.length h1) (.slice a2 Y.os.length h2) (.slice a3 Y.gold.length h3) (.slice (some ⟨gu, 0, none⟩) Y.us.length h4) (.slice a5 Y.qs.length h5) ∧ Unc V ⟨gu, i * 8, none⟩ u ∧ Kc V (xk.add (kn * 11)) k ∧ Orc V ⟨y, 0, none⟩ o) (by kernel_rfl) (by kernel_rfl) (by kernel_rfl) (by decide +kernel) (by decide +kernel) (C5.out _ D5.out) ?_
        generalize ({ w5 with drawn := w5.drawn + 1 } : World) = w6 at *
        refine headT_read rfl (.int .i64 (i : Nat)) (by go_simp) (fun V hV => by go_simp) ?_
        go_simp
        refine headT_read rfl (.bool false) (by go_simp) (fun V hV => by go_simp) ?_
        go_simp
        refine headT_read rfl (.bool false) (by go_simp) (fun V hV => by go_simp) ?_
        go_simp
        refine headT_read rfl (.slice (some xk) ks.length qk) (by go_simp) (fun V hV => by go_simp) ?_
        go_simp
        refine headT_read rfl (.agg #[.int .i64 Y.turn, .int .i64 Y.next, .int .i64 Y.wide, .int .i64 Y.high, .slice a1 Y.gs.length h1, .slice a2 Y.os.length h2, .slice a3 Y.gold.length h3, .slice (some ⟨gu, 0, none⟩) Y.us.length h4, .slice a5 Y.qs.length h5]) (by go_simp) (fun V hV => by obtain ⟨hX, hU, hK, hO⟩ := hV; obtain ⟨x0, x1, x2, x3, x4, x5, x6, x7, x8⟩ := hX.cells; obtain ⟨y0, y1, y2, y3, y4, y5, y6, y7⟩ := hU; obtain ⟨k0, k1, k2, k3, k4, k5, k6, k7, k8, k9, k10⟩ := hK; obtain ⟨o0, o1, o2, o3⟩ := hO; simp only [Nat.zero_add] at o1 o2 o3; go_simp) ?_
        go_simp
        refine headT_read rfl (.slice (some xk) ks.length qk) (by go_simp) (fun V hV => by go_simp) ?_
        go_simp
        refine headT_read rfl (.pointer (some ⟨z, 7, none⟩)) (by go_simp) (fun V hV => by go_simp) ?_
        go_simp
        refine headT_read rfl (.slice (some ⟨gu, 0, none⟩) Y.us.length h4) (by go_simp) (fun V hV => by obtain ⟨hX, hU, hK, hO⟩ := hV; obtain ⟨x0, x1, x2, x3, x4, x5, x6, x7, x8⟩ := hX.cells; obtain ⟨y0, y1, y2, y3, y4, y5, y6, y7⟩ := hU; obtain ⟨k0, k1, k2, k3, k4, k5, k6, k7, k8, k9, k10⟩ := hK; obtain ⟨o0, o1, o2, o3⟩ := hO; simp only [Nat.zero_add] at o1 o2 o3; go_simp) ?_
        go_simp
        refine headT_read rfl (.int .i64 (i : Nat)) (by go_simp) (fun V hV => by go_simp) ?_
        go_simp
        refine headT_read rfl (.pointer (some ⟨gu, i * 8, none⟩)) (by go_simp) (fun V hV => by go_simp) ?_
        go_simp
        refine headT_read rfl (.pointer (some ⟨gu, i * 8 + 2, none⟩)) (by go_simp) (fun V hV => by go_simp) ?_
        go_simp
        refine headT_read rfl (.int .i64 (kn : Nat)) (by go_simp) (fun V hV => by obtain ⟨hX, hU, hK, hO⟩ := hV; obtain ⟨x0, x1, x2, x3, x4, x5, x6, x7, x8⟩ := hX.cells; obtain ⟨y0, y1, y2, y3, y4, y5, y6, y7⟩ := hU; obtain ⟨k0, k1, k2, k3, k4, k5, k6, k7, k8, k9, k10⟩ := hK; obtain ⟨o0, o1, o2, o3⟩ := hO; simp only [Nat.zero_add] at o1 o2 o3; rw [KU.out.1] at y2; go_simp) ?_
        go_simp
        refine headT_read rfl (.pointer (some (xk.add (kn * 11)))) (by go_simp) (fun V hV => by go_simp) ?_
        go_simp
        refine headT_read rfl (.agg #[.string k.b, .int .i64 k.n0, .int .i64 k.n1, .int .i64 k.n2, .int .i64 k.n3, .int .i64 k.n4, .int .i64 k.n5, .int .i64 k.n6, .int .i64 k.n7, .bool k.f, .bool k.t]) (by go_simp) (fun V hV => by obtain ⟨hX, hU, hK, hO⟩ := hV; obtain ⟨x0, x1, x2, x3, x4, x5, x6, x7, x8⟩ := hX.cells; obtain ⟨y0, y1, y2, y3, y4, y5, y6, y7⟩ := hU; obtain ⟨k0, k1, k2, k3, k4, k5, k6, k7, k8, k9, k10⟩ := hK; obtain ⟨o0, o1, o2, o3⟩ := hO; simp only [Nat.zero_add] at o1 o2 o3; go_simp) ?_
        go_simp
        refine headT_read rfl (.agg #[.int .i64 o.player, .int .i64 o.unit, .int .i64 o.what, .int .i64 o.arg]) (by go_simp) (fun V hV => by obtain ⟨hX, hU, hK, hO⟩ := hV; obtain ⟨x0, x1, x2, x3, x4, x5, x6, x7, x8⟩ := hX.cells; obtain ⟨y0, y1, y2, y3, y4, y5, y6, y7⟩ := hU; obtain ⟨k0, k1, k2, k3, k4, k5, k6, k7, k8, k9, k10⟩ := hK; obtain ⟨o0, o1, o2, o3⟩ := hO; simp only [Nat.zero_add] at o1 o2 o3; go_simp) ?_
        go_simp
        refine headT_call rfl 32 #[.slice (some xk) ks.length qk, .agg #[.int .i64 Y.turn, .int .i64 Y.next, .int .i64 Y.wide, .int .i64 Y.high, .slice a1 Y.gs.length h1, .slice a2 Y.os.length h2, .slice a3 Y.gold.length h3, .slice (some ⟨gu, 0, none⟩) Y.us.length h4, .slice a5 Y.qs.length h5], .agg #[.string k.b, .int .i64 k.n0, .int .i64 k.n1, .int .i64 k.n2, .int .i64 k.n3, .int .i64 k.n4, .int .i64 k.n5, .int .i64 k.n6, .int .i64 k.n7, .bool k.f, .bool k.t], .agg #[.int .i64 o.player, .int .i64 o.unit, .int .i64 o.what, .int .i64 o.arg]] (by go_simp) (by go_simp) ?_
        have GW : Hid (GvS ks Y ref b1 z w1 (.slice a1 Y.gs.length h1) (.slice a2 Y.os.length h2) (.slice a3 Y.gold.length h3) (.slice (some ⟨gu, 0, none⟩) Y.us.length h4) (.slice a5 Y.qs.length h5) (.slice ra ref.length rc) w6) := G5.out.below D5.out
        refine Calls.mono (maybe_any _ _ ks Y k o w6 (K.out.below (BW.out w6 D5.out)) GW.out.wo.l GW.out.f OBK.out (by rw [KU.out.2.2.1, Int.toNat_natCast]; exact KU.out.2.2.2)) ?_
        rintro e w7 ⟨rfl, b7⟩
        have D7 : Hid (Below w5.heap.size w5 w7) := D5.out.trans (b7.mono D5.out.size)
        refine ⟨_, rfl, C5.out _ D7.out, ?_⟩
        obtain ⟨mb, hmb⟩ : ∃ b, mayB ks Y k o = b := ⟨_, rfl⟩
        have MB : Hid (mayB ks Y k o = mb) := hmb
        rw [hmb]
        clear b7 hmb
        go_simp
        refine sched_value rfl (.bool (!mb)) w7 (by go_simp) (by go_simp) trivial ?_
        go_simp
        refine sched_value rfl (.bool (!mb)) w7 (by go_simp) (by go_simp) trivial ?_
        go_simp
        unfold wpSched
        have G7' : Hid (GvS ks Y ref b1 z w1 (.slice a1 Y.gs.length h1) (.slice a2 Y.os.length h2) (.slice a3 Y.gold.length h3) (.slice (some ⟨gu, 0, none⟩) Y.us.length h4) (.slice a5 Y.qs.length h5) (.slice ra ref.length rc) w7) := G5.out.below D7.out
        cases mb with
        | false =>
          have GN : Hid (given1 ks Y o = none) := by unfold Hid; rw [G1.out, MB.out]; simp
          have NX : Hid (gv ks X out (q + 1) = (Y, ref ++ [(q : Int)])) := by
            have h9 := gv_no (ks := ks) (Y := X) HO.out (by rw [HY.out.1]; exact GN.out)
            unfold Hid
            rw [h9, HY.out.1, HY.out.2]
          have BA : Hid (Below w7.heap.size w7 (w7.alloc (Obj.cells #[.int .i64 (q : Nat)] 3))) := (Below.refl _ _).alloc (Nat.le_refl _) _
          have GA : Hid (GvS ks Y ref b1 z w1 (.slice a1 Y.gs.length h1) (.slice a2 Y.os.length h2) (.slice a3 Y.gold.length h3) (.slice (some ⟨gu, 0, none⟩) Y.us.length h4) (.slice a5 Y.qs.length h5) (.slice ra ref.length rc) (w7.alloc (Obj.cells #[.int .i64 (q : Nat)] 3))) := G7'.out.below BA.out
          have SB : Hid (b1 ≤ (w7.alloc (Obj.cells #[.int .i64 (q : Nat)] 3)).heap.size) := Nat.le_trans (by have h1 := G7'.out.k.size; rw [HB1.out.1] at h1; exact h1) BA.out.size
          go_wp2_with (at_builtin; refine app_int _ rfl _ _ rfl b1 _ ref rfl GA.out.r ⟨w7.heap.size, 0, none⟩ (q : Int) rfl (by simp) (by have := RL.out; omega) SB.out ?_)
          intro g7 c7 w8 o7 gr7 a7 l7
          have G8 : Hid (GvS ks Y (ref ++ [(q : Int)]) b1 z w1 (.slice a1 Y.gs.length h1) (.slice a2 Y.os.length h2) (.slice a3 Y.gold.length h3) (.slice (some ⟨gu, 0, none⟩) Y.us.length h4) (.slice a5 Y.qs.length h5) (.slice (some ⟨g7, 0, none⟩) (ref.length + 1) c7) w8) := GA.out.refuse (by have := HB1.out.2; omega) HB1.out.1 gr7 o7 (by
            rcases a7 with h | h
            · exact .inl h.symm
            · exact .inr ⟨g7, rfl, by rw [h]; simp⟩)
          clear o7 gr7 a7 l7
          go_wp2
          go_round
          case rel => exact ⟨q + 1, _, _, _, _, _, by omega, by go_num, by rw [NX.out]; have := RL.out; simp; omega, by rw [NX.out]; exact G8.out⟩
          case measure => simp [intOf]; omega
        | true =>
          have GY : Hid (given1 ks Y o = some (if o.what = 3 then hired ks Y o else sentW Y i u o)) := by unfold Hid; rw [G1.out, MB.out]; simp
          obtain ⟨c0, c1, c2, c3⟩ := (C5.out _ D7.out).2.2.2
          simp only [Nat.zero_add] at c1 c2 c3
          by_cases hw3 : o.what = 3
          · have hw3b : (o.what == 3) = true := beq_iff_eq.2 hw3
            have HW3 : Hid (o.what = 3) := hw3
            have M3 : Hid (k.t = true ∧ o.arg < (ks.length : Int) ∧ priceOf ks o.arg ≤ Y.gold.getD o.player.toNat 0 ∧ Y.qs.length < 12) := by
              have h9 := MB.out
              unfold mayB at h9
              rw [if_neg (by omega), if_neg (by omega), if_pos hw3] at h9
              unfold Hid
              exact of_decide_eq_true h9
            have A0 : 0 ≤ o.arg := by have h9 := Od.ok_of OBK.out; omega
            obtain ⟨an, han⟩ : ∃ an : Nat, o.arg = an := ⟨o.arg.toNat, by omega⟩
            obtain ⟨kk, hkk⟩ : ∃ kk, ks[an]? = some kk := ⟨_, List.getElem?_eq_getElem (by have := M3.out.2.1; omega)⟩
            have AK : Hid (o.arg = (an : Nat) ∧ ks[an]? = some kk) := ⟨han, hkk⟩
            have hani : ((an : Nat) : Int) < (ks.length : Nat) := by have := M3.out.2.1; omega
            obtain ⟨g, hgp⟩ : ∃ g, Y.gold[pn]? = some g := ⟨_, List.getElem?_eq_getElem KU.out.2.2.2⟩
            have GP : Hid (Y.gold[pn]? = some g) := hgp
            obtain ⟨gg, cg, grest, e3, hgg, hd1, hd2, hd3, hbk⟩ : ∃ g cap rest, Value.slice a3 Y.gold.length h3 = .slice (some ⟨g, 0, none⟩) Y.gold.length cap ∧ b1 ≤ g ∧ Y.gold.length ≤ cap ∧ cap ≤ maxLen ∧ Y.gold.length + rest.size = cap ∧ Bk w7 g Y.gold rest := by
              rcases G7'.out.o3.bk with ⟨-, h⟩ | h
              · have := KU.out.2.2.2; rw [h] at this; simp at this
              · exact h
            injection e3 with e31 e32 e33
            subst e31 e33
            have GG : Hid (b1 ≤ gg ∧ Y.gold.length ≤ h3 ∧ h3 ≤ maxLen ∧ Y.gold.length + grest.size = h3 ∧ Bk w7 gg Y.gold grest) := ⟨hgg, hd1, hd2, hd3, hbk⟩
            have EG : Hid ((hired ks Y o).gold = Y.gold.set pn (g - kk.n5)) := by
              unfold Hid hired priceOf
              simp only [KU.out.2.2.1, AK.out.1, Int.toNat_natCast, AK.out.2, List.getD_eq_getElem?_getD, GP.out, Option.getD_some]
            have EQ : Hid ((hired ks Y o).qs = Y.qs ++ [⟨o.player, o.unit, o.arg, max kk.n6 1⟩]) := by
              unfold Hid hired turnsOf
              simp only [AK.out.1, Int.toNat_natCast, AK.out.2]
            have NX : Hid (gv ks X out (q + 1) = (hired ks Y o, ref)) := by
              have h9 := gv_yes (ks := ks) (Y := X) HO.out (Z := hired ks Y o) (by rw [HY.out.1, GY.out, if_pos hw3])
              unfold Hid
              rw [h9, HY.out.2]
            have CE : Hid (∀ V, Below w7.heap.size w7 V → (Kc V (xk.add (an * 11)) kk ∧ Orc V ⟨y, 0, none⟩ o)) := fun V hV => ⟨KX.out V (D7.out.trans (hV.mono D7.out.size)) an kk AK.out.2, (C5.out V (D7.out.trans (hV.mono D7.out.size))).2.2.2⟩
            have D8 : Hid (Below w7.heap.size w7 { w7 with drawn := w7.drawn + 1 }) := (Below.refl _ _).drew
            clear hw3 A0 han hkk hgp hgg hd1 hd2 hd3 hbk e32
            go_upto_region 14 with fail
            clear c0 c1 c2 c3 hw3b
            refine wp_region_two [(true, 0), (true, 1), (true, 2), (true, 3), (true, 4), (true, 5)] [(false, 6)] (fun V => Kc V (xk.add (an * 11)) kk ∧ Orc V ⟨y, 0, none⟩ o) (by kernel_rfl) (by kernel_rfl) (by kernel_rfl) (by decide +kernel) (by decide +kernel) (CE.out _ D8.out) ?_
            generalize ({ w7 with drawn := w7.drawn + 1 } : World) = w8 at *
            refine headT_read rfl (.slice (some xk) ks.length qk) (by go_simp) (fun V hV => by go_simp) ?_
            go_simp
            refine headT_read rfl (.pointer (some ⟨y, 3, none⟩)) (by go_simp) (fun V hV => by go_simp) ?_
            go_simp
            refine headT_read rfl (.int .i64 (an : Nat)) (by go_simp) (fun V hV => by obtain ⟨hK, hO⟩ := hV; obtain ⟨o0, o1, o2, o3⟩ := hO; simp only [Nat.zero_add] at o1 o2 o3; rw [AK.out.1] at o3; go_simp) ?_
            go_simp
            refine headT_read rfl (.pointer (some (xk.add (an * 11)))) (by go_simp) (fun V hV => by go_simp) ?_
            go_simp
            refine headT_read rfl (.agg #[.string kk.b, .int .i64 kk.n0, .int .i64 kk.n1, .int .i64 kk.n2, .int .i64 kk.n3, .int .i64 kk.n4, .int .i64 kk.n5, .int .i64 kk.n6, .int .i64 kk.n7, .bool kk.f, .bool kk.t]) (by go_simp) (fun V hV => by obtain ⟨hK, hO⟩ := hV; obtain ⟨k0, k1, k2, k3, k4, k5, k6, k7, k8, k9, k10⟩ := hK; obtain ⟨o0, o1, o2, o3⟩ := hO; simp only [Nat.zero_add] at o1 o2 o3; go_simp) ?_
            go_simp
            refine headT_read rfl (.agg #[.int .i64 o.player, .int .i64 o.unit, .int .i64 o.what, .int .i64 o.arg]) (by go_simp) (fun V hV => by obtain ⟨hK, hO⟩ := hV; obtain ⟨o0, o1, o2, o3⟩ := hO; simp only [Nat.zero_add] at o1 o2 o3; go_simp) ?_
            go_simp
            unfold wpHeadT
            have G8 : Hid (GvS ks Y ref b1 z w1 (.slice a1 Y.gs.length h1) (.slice a2 Y.os.length h2) (.slice (some ⟨gg, 0, none⟩) Y.gold.length h3) (.slice (some ⟨gu, 0, none⟩) Y.us.length h4) (.slice a5 Y.qs.length h5) (.slice ra ref.length rc) w8) := G7'.out.below D8.out
            have B8 : Hid (Bk w8 gg Y.gold grest) := GG.out.2.2.2.2.below D8.out
            have KM : Hid (0 ≤ kk.n5 ∧ kk.n5 ≤ 1000 ∧ 0 ≤ kk.n6 ∧ kk.n6 ≤ 1000) := G8.out.f.kinds.2 kk (List.mem_of_getElem? AK.out.2)
            refine sched_call rfl 33 #[.pointer (some ⟨z, 0, none⟩), .agg #[.string kk.b, .int .i64 kk.n0, .int .i64 kk.n1, .int .i64 kk.n2, .int .i64 kk.n3, .int .i64 kk.n4, .int .i64 kk.n5, .int .i64 kk.n6, .int .i64 kk.n7, .bool kk.f, .bool kk.t], .agg #[.int .i64 o.player, .int .i64 o.unit, .int .i64 o.what, .int .i64 o.arg]] (by go_simp) (by go_simp) ?_
            refine Calls.mono (hire_any z gg Y.gold.length h3 b1 _ _ _ _ _ _ _ Y.gold grest a5 h5 Y.qs kk o pn g w8 G8.out.x B8.out G8.out.o5 KU.out.2.2.1 KU.out.2.2.2 GP.out (G8.out.f.gold g (List.mem_of_getElem? GP.out)) ⟨KM.out.1, KM.out.2.1⟩ KM.out.2.2 G8.out.f.ql (by have := HB1.out.2; omega) GG.out.1 (by have h1 := G8.out.k.size; rw [HB1.out.1] at h1; exact h1) (fun h => G8.out.difs.2.2.1.2.1 gg rfl h)) ?_
            rintro e w9 ⟨rfl, a8', h8', hx, hbk, hj, hf, hn⟩
            refine ⟨_, rfl, trivial, ?_⟩
            have G9 : Hid (GvS ks (hired ks Y o) ref b1 z w1 (.slice a1 Y.gs.length h1) (.slice a2 Y.os.length h2) (.slice (some ⟨gg, 0, none⟩) Y.gold.length h3) (.slice (some ⟨gu, 0, none⟩) Y.us.length h4) (.slice a8' (Y.qs.length + 1) h8') (.slice ra ref.length rc) w9) := G8.out.hire (pn := pn) (g := g) (rest := grest) (by have := HB1.out.2; omega) HB1.out.1 GG.out.1 GG.out.2.1 GG.out.2.2.1 GG.out.2.2.2.1 hx (by rw [EG.out]; exact hbk) (by rw [EQ.out]; exact hj) hf hn (G8.out.f.hire M3.out.2.2.1 (by rw [KU.out.2.2.1, Int.toNat_natCast]; exact KU.out.2.2.2) M3.out.2.2.2)
            clear hx hbk hj hf hn
            go_simp
            unfold wpSched
            go_wp2
            go_round
            case rel => exact ⟨q + 1, _, _, _, _, _, by omega, by go_num, by rw [NX.out]; have := RL.out; show ref.length ≤ q + 1; omega, by rw [NX.out]; exact G9.out⟩
            case measure => simp [intOf]; omega
          · have hw3b : (o.what == 3) = false := beq_eq_false_iff_ne.2 hw3
            have NX : Hid (gv ks X out (q + 1) = (sentW Y i u o, ref)) := by
              have h9 := gv_yes (ks := ks) (Y := X) HO.out (Z := sentW Y i u o) (by rw [HY.out.1, GY.out, if_neg hw3])
              unfold Hid
              rw [h9, HY.out.2]
            have WH : Hid (o.what = 0 ∧ o.arg = 0 ∨ o.what = 1 ∨ o.what = 2) := by have h9 := Od.ok_of OBK.out; unfold Hid; omega
            have CE : Hid (∀ V, Below w7.heap.size w7 V → (Wx V z (.int .i64 Y.turn) (.int .i64 Y.next) (.int .i64 Y.wide) (.int .i64 Y.high) (.slice a1 Y.gs.length h1) (.slice a2 Y.os.length h2) (.slice a3 Y.gold.length h3) (.slice (some ⟨gu, 0, none⟩) Y.us.length h4) (.slice a5 Y.qs.length h5) ∧ Unc V ⟨gu, i * 8, none⟩ u ∧ Kc V (xk.add (kn * 11)) k ∧ Orc V ⟨y, 0, none⟩ o)) := fun V hV => C5.out V (D7.out.trans (hV.mono D7.out.size))
            have D8 : Hid (Below w7.heap.size w7 { w7 with drawn := w7.drawn + 1 }) := (Below.refl _ _).drew
            clear hw3
            go_upto_region 15 with fail
            clear c0 c1 c2 c3
            refine wp_region_two [(true, 0), (true, 1), (true, 2), (true, 3), (true, 4)] [(false, 5)] (fun V => Wx V z (.int .i64 Y.turn) (.int .i64 Y.next) (.int .i64 Y.wide) (.int .i64 Y.high) (.slice a1 Y.gs.length h1) (.slice a2 Y.os.length h2) (.slice a3 Y.gold.length h3) (.slice (some ⟨gu, 0, none⟩) Y.us.length h4) (.slice a5 Y.qs.length h5) ∧ Unc V ⟨gu, i * 8, none⟩ u ∧ Kc V (xk.add (kn * 11)) k ∧ Orc V ⟨y, 0, none⟩ o) (by kernel_rfl) (by kernel_rfl) (by kernel_rfl) (by decide +kernel) (by decide +kernel) (CE.out _ D8.out) ?_
            generalize ({ w7 with drawn := w7.drawn + 1 } : World) = w8 at *
            refine headT_read rfl (.pointer (some ⟨z, 7, none⟩)) (by go_simp) (fun V hV => by go_simp) ?_
            go_simp
            refine headT_read rfl (.slice (some ⟨gu, 0, none⟩) Y.us.length h4) (by go_simp) (fun V hV => by obtain ⟨hX, hU, hK, hO⟩ := hV; obtain ⟨x0, x1, x2, x3, x4, x5, x6, x7, x8⟩ := hX.cells; obtain ⟨y0, y1, y2, y3, y4, y5, y6, y7⟩ := hU; obtain ⟨k0, k1, k2, k3, k4, k5, k6, k7, k8, k9, k10⟩ := hK; obtain ⟨o0, o1, o2, o3⟩ := hO; simp only [Nat.zero_add] at o1 o2 o3; go_simp) ?_
            go_simp
            refine headT_read rfl (.int .i64 (i : Nat)) (by go_simp) (fun V hV => by go_simp) ?_
            go_simp
            refine headT_read rfl (.pointer (some ⟨gu, i * 8, none⟩)) (by go_simp) (fun V hV => by go_simp) ?_
            go_simp
            refine headT_read rfl (.agg #[.int .i64 o.player, .int .i64 o.unit, .int .i64 o.what, .int .i64 o.arg]) (by go_simp) (fun V hV => by obtain ⟨hX, hU, hK, hO⟩ := hV; obtain ⟨x0, x1, x2, x3, x4, x5, x6, x7, x8⟩ := hX.cells; obtain ⟨y0, y1, y2, y3, y4, y5, y6, y7⟩ := hU; obtain ⟨k0, k1, k2, k3, k4, k5, k6, k7, k8, k9, k10⟩ := hK; obtain ⟨o0, o1, o2, o3⟩ := hO; simp only [Nat.zero_add] at o1 o2 o3; go_simp) ?_
            go_simp
            unfold wpHeadT
            have G8 : Hid (GvS ks Y ref b1 z w1 (.slice a1 Y.gs.length h1) (.slice a2 Y.os.length h2) (.slice a3 Y.gold.length h3) (.slice (some ⟨gu, 0, none⟩) Y.us.length h4) (.slice a5 Y.qs.length h5) (.slice ra ref.length rc) w8) := G7'.out.below D8.out
            refine sched_call rfl 34 #[.pointer (some ⟨gu, i * 8, none⟩), .agg #[.int .i64 o.player, .int .i64 o.unit, .int .i64 o.what, .int .i64 o.arg]] (by go_simp) (by go_simp) ?_
            refine Calls.mono (send_any gu i Y.us urest u o w8 (UB.out _ (D7.out.trans (D8.out.mono D7.out.size))) FI.out.2 WH.out) ?_
            rintro e w9 ⟨rfl, hub, hkp⟩
            refine ⟨_, rfl, trivial, ?_⟩
            have G9 : Hid (GvS ks (sentW Y i u o) ref b1 z w1 (.slice a1 Y.gs.length h1) (.slice a2 Y.os.length h2) (.slice a3 Y.gold.length h3) (.slice (some ⟨gu, 0, none⟩) Y.us.length h4) (.slice a5 Y.qs.length h5) (.slice ra ref.length rc) w9) := G8.out.send (by have := HB1.out.2; omega) HB1.out.1 FI.out.2 UG.out.1 UG.out.2.1 UG.out.2.2.1 UG.out.2.2.2.1 hub hkp
            clear hub hkp
            go_simp
            unfold wpSched
            go_wp2
            go_round
            case rel => exact ⟨q + 1, _, _, _, _, _, by omega, by go_num, by rw [NX.out]; have := RL.out; show ref.length ≤ q + 1; omega, by rw [NX.out]; exact G9.out⟩
            case measure => simp [intOf]; omega
end Go.Proofs.Ytghkchnfcfnejaa

namespace Go.Proofs.Ytghkchnfcfnejaa
open Go.RowKit Go.Proofs.Ytghkchnfcfnejaa.So
set_option linter.unusedVariables false

def gfault (ks : List KV) (X : WV) (l : List OrV) : Int := if Wd.wfault ks X = 0 then Od.faults l else Wd.wfault ks X
/-- what Give tells. -/
def GivenSays (ks : List KV) (X : WV) (l : List OrV) (w w' : World) (v ur : Value) : Prop :=
  (gfault ks X l ≠ 0 ∧ v = .agg #[.int .i64 0, .int .i64 0, .int .i64 0, .int .i64 0, .slice none 0 0, .slice none 0 0, .slice none 0 0, .slice none 0 0, .slice none 0 0] ∧ ur = .slice none 0 0)
  ∨ (gfault ks X l = 0 ∧ Wd.wfault ks X = 0 ∧ Od.faults l = 0 ∧ ∃ out, LastSays l out ∧ Wo w' w.heap.size v (gv ks X out out.length).1 ∧ Ow w' w.heap.size ur (gv ks X out out.length).2)
set_option maxRecDepth 100000 in
set_option maxHeartbeats 16000000 in
theorem Give_any (vk vw vl : Value) (ks : List KV) (X : WV) (l : List OrV) (w : World) (hk : Kl w vk ks) (hb : ∀ k ∈ ks, k.b.size ≤ 9223372036854775807) (hw : Wl w vw X) (hl : Orl w vl l) :
    Calls Try.prog 5 #[vk, vw, vl] w fun e w' => ∃ v ur r, e = .returned (.tuple #[v, ur, r]) ∧ Er r (gfault ks X l) ∧ GivenSays ks X l w w' v ur ∧ Below w.heap.size w w' := by
  have L : Hid (Orl w vl l) := hl
  obtain ⟨pl, ql, rfl, cl1, cl2, lc⟩ := hl
  have K : Hid (Kl w vk ks ∧ ∀ k ∈ ks, k.b.size ≤ 9223372036854775807) := ⟨hk, hb⟩
  have H : Hid (Wl w vw X) := hw
  obtain ⟨p1, q1, p2, q2, p3, q3, p4, q4, p5, q5, rfl⟩ := wl_shape9 hw
  obtain ⟨pk, qk, rfl, ck1, ck2, kc⟩ := hk
  clear hb hw kc lc
  go_enter Try.func5, Try.ntmps5
  go_upto_region 1 with fail
  have B0 : Hid (Below w.heap.size w ((w.alloc (Obj.cells #[.int .i64 X.turn, .int .i64 X.next, .int .i64 X.wide, .int .i64 X.high, .slice p1 X.gs.length q1, .slice p2 X.os.length q2, .slice p3 X.gold.length q3, .slice p4 X.us.length q4, .slice p5 X.qs.length q5] 29)).alloc (Obj.cells #[.int .i64 0, .int .i64 0, .int .i64 0, .int .i64 0, .slice none 0 0, .slice none 0 0, .slice none 0 0, .slice none 0 0, .slice none 0 0] 29))) := ((Below.refl _ _).alloc (Nat.le_refl _) _).alloc (by simp) _
  have X0 : Hid (Wx ((w.alloc (Obj.cells #[.int .i64 X.turn, .int .i64 X.next, .int .i64 X.wide, .int .i64 X.high, .slice p1 X.gs.length q1, .slice p2 X.os.length q2, .slice p3 X.gold.length q3, .slice p4 X.us.length q4, .slice p5 X.qs.length q5] 29)).alloc (Obj.cells #[.int .i64 0, .int .i64 0, .int .i64 0, .int .i64 0, .slice none 0 0, .slice none 0 0, .slice none 0 0, .slice none 0 0, .slice none 0 0] 29)) (w.heap.size) (.int .i64 X.turn) (.int .i64 X.next) (.int .i64 X.wide) (.int .i64 X.high) (.slice p1 X.gs.length q1) (.slice p2 X.os.length q2) (.slice p3 X.gold.length q3) (.slice p4 X.us.length q4) (.slice p5 X.qs.length q5)) := (Wx.new (.int .i64 X.turn) (.int .i64 X.next) (.int .i64 X.wide) (.int .i64 X.high) (.slice p1 X.gs.length q1) (.slice p2 X.os.length q2) (.slice p3 X.gold.length q3) (.slice p4 X.us.length q4) (.slice p5 X.qs.length q5) rfl).below ((Below.refl _ _).alloc (Nat.le_refl _) _) (by simp)
  have Z0 : Hid (Wx ((w.alloc (Obj.cells #[.int .i64 X.turn, .int .i64 X.next, .int .i64 X.wide, .int .i64 X.high, .slice p1 X.gs.length q1, .slice p2 X.os.length q2, .slice p3 X.gold.length q3, .slice p4 X.us.length q4, .slice p5 X.qs.length q5] 29)).alloc (Obj.cells #[.int .i64 0, .int .i64 0, .int .i64 0, .int .i64 0, .slice none 0 0, .slice none 0 0, .slice none 0 0, .slice none 0 0, .slice none 0 0] 29)) (w.heap.size + 1) (.int .i64 0) (.int .i64 0) (.int .i64 0) (.int .i64 0) (.slice none 0 0) (.slice none 0 0) (.slice none 0 0) (.slice none 0 0) (.slice none 0 0)) := Wx.new (.int .i64 0) (.int .i64 0) (.int .i64 0) (.int .i64 0) (.slice none 0 0) (.slice none 0 0) (.slice none 0 0) (.slice none 0 0) (.slice none 0 0) (by simp)
  generalize ((w.alloc (Obj.cells #[.int .i64 X.turn, .int .i64 X.next, .int .i64 X.wide, .int .i64 X.high, .slice p1 X.gs.length q1, .slice p2 X.os.length q2, .slice p3 X.gold.length q3, .slice p4 X.us.length q4, .slice p5 X.qs.length q5] 29)).alloc (Obj.cells #[.int .i64 0, .int .i64 0, .int .i64 0, .int .i64 0, .slice none 0 0, .slice none 0 0, .slice none 0 0, .slice none 0 0, .slice none 0 0] 29)) = w0 at *
  obtain ⟨x0, x1, x2, x3, x4, x5, x6, x7, x8⟩ := X0.out.cells
  go_wp2_with fail
  refine (wcheck_any _ _ ks X w0 (K.out.1.below B0.out) K.out.2 (H.out.below B0.out)).mono ?_
  rintro e w1 ⟨r, rfl, hr, hb⟩
  obtain ⟨fw, hfw⟩ : ∃ f, Wd.wfault ks X = f := ⟨_, rfl⟩
  have FW : Hid (Wd.wfault ks X = fw) := hfw
  rw [hfw] at hr
  have B1 : Hid (Below w.heap.size w w1) := B0.out.trans (hb.mono B0.out.size)
  have X1 : Hid (Wx w1 (w.heap.size) (.int .i64 X.turn) (.int .i64 X.next) (.int .i64 X.wide) (.int .i64 X.high) (.slice p1 X.gs.length q1) (.slice p2 X.os.length q2) (.slice p3 X.gold.length q3) (.slice p4 X.us.length q4) (.slice p5 X.qs.length q5)) := X0.out.below hb X0.out.lt
  have Z1 : Hid (Wx w1 (w.heap.size + 1) (.int .i64 0) (.int .i64 0) (.int .i64 0) (.int .i64 0) (.slice none 0 0) (.slice none 0 0) (.slice none 0 0) (.slice none 0 0) (.slice none 0 0)) := Z0.out.below hb Z0.out.lt
  clear hb hfw x0 x1 x2 x3 x4 x5 x6 x7 x8 X0 B0 Z0
  rcases hr with ⟨rfl, rfl⟩ | ⟨hf, rfl⟩
  case inr =>
    have HF : Hid (fw ≠ 0) := hf
    clear hf
    obtain ⟨z0, z1, z2, z3, z4, z5, z6, z7, z8⟩ := Z1.out.cells
    obtain ⟨t0, t1, t2, t3, t4, t5, t6, t7, t8⟩ := Z1.out.thaws
    have KZ : Hid (Kp (w.heap.size + 1) w1 (((((((((w1.setCell ⟨w.heap.size + 1, 0, none⟩ (.int .i64 0)).setCell ⟨w.heap.size + 1, 1, none⟩ (.int .i64 0)).setCell ⟨w.heap.size + 1, 2, none⟩ (.int .i64 0)).setCell ⟨w.heap.size + 1, 3, none⟩ (.int .i64 0)).setCell ⟨w.heap.size + 1, 4, none⟩ (.slice none 0 0)).setCell ⟨w.heap.size + 1, 5, none⟩ (.slice none 0 0)).setCell ⟨w.heap.size + 1, 6, none⟩ (.slice none 0 0)).setCell ⟨w.heap.size + 1, 7, none⟩ (.slice none 0 0)).setCell ⟨w.heap.size + 1, 8, none⟩ (.slice none 0 0))) := put_kp _ _ _ _ _ _ _ _ _ _ _
    obtain ⟨y0, y1, y2, y3, y4, y5, y6, y7, y8⟩ := (Z1.out.put (.int .i64 0) (.int .i64 0) (.int .i64 0) (.int .i64 0) (.slice none 0 0) (.slice none 0 0) (.slice none 0 0) (.slice none 0 0) (.slice none 0 0)).cells
    go_wp2
    clear z0 z1 z2 z3 z4 z5 z6 z7 z8 t0 t1 t2 t3 t4 t5 t6 t7 t8
    generalize (((((((((w1.setCell ⟨w.heap.size + 1, 0, none⟩ (.int .i64 0)).setCell ⟨w.heap.size + 1, 1, none⟩ (.int .i64 0)).setCell ⟨w.heap.size + 1, 2, none⟩ (.int .i64 0)).setCell ⟨w.heap.size + 1, 3, none⟩ (.int .i64 0)).setCell ⟨w.heap.size + 1, 4, none⟩ (.slice none 0 0)).setCell ⟨w.heap.size + 1, 5, none⟩ (.slice none 0 0)).setCell ⟨w.heap.size + 1, 6, none⟩ (.slice none 0 0)).setCell ⟨w.heap.size + 1, 7, none⟩ (.slice none 0 0)).setCell ⟨w.heap.size + 1, 8, none⟩ (.slice none 0 0)) = w9 at *
    refine bodyPost_ret (v := .tuple #[.agg #[.int .i64 0, .int .i64 0, .int .i64 0, .int .i64 0, .slice none 0 0, .slice none 0 0, .slice none 0 0, .slice none 0 0, .slice none 0 0], .slice none 0 0, .iface 69 (.int .i64 fw)]) (by simp [results, Try.results5, go_sem, y0, y1, y2, y3, y4, y5, y6, y7, y8]) rfl ⟨_, _, _, rfl, by unfold gfault; rw [FW.out, if_neg HF.out]; exact Er.no HF.out, .inl ⟨by unfold gfault; rw [FW.out, if_neg HF.out]; exact HF.out, rfl, rfl⟩, KZ.out.below B1.out B1.out.size (by omega)⟩
  have WR : Hid (WRight ks X) := wright_of FW.out
  have GF : Hid (gfault ks X l = Od.faults l) := by unfold Hid gfault; rw [if_pos FW.out]
  obtain ⟨x0, x1, x2, x3, x4, x5, x6, x7, x8⟩ := X1.out.cells
  go_wp2_with fail
  refine (give_any _ _ _ ks X l w1 (K.out.1.below B1.out) (H.out.below B1.out) (L.out.below B1.out) WR.out).mono ?_
  rintro e w2 ⟨v, ur, r, rfl, hr, hs, hb⟩
  have Z2 : Hid (Wx w2 (w.heap.size + 1) (.int .i64 0) (.int .i64 0) (.int .i64 0) (.int .i64 0) (.slice none 0 0) (.slice none 0 0) (.slice none 0 0) (.slice none 0 0) (.slice none 0 0)) := Z1.out.below hb Z1.out.lt
  have B2 : Hid (Below w.heap.size w w2) := B1.out.trans (hb.mono B1.out.size)
  have ER : Hid (Er r (Od.faults l)) := hr
  have S1 : Hid (w.heap.size + 1 < w1.heap.size) := Z1.out.lt
  clear hb hr x0 x1 x2 x3 x4 x5 x6 x7 x8 X1 Z1
  rcases hs with ⟨hf, rfl, rfl⟩ | ⟨hf, out, hls, hwo, how⟩
  case inl =>
    have HF : Hid (Od.faults l ≠ 0) := hf
    clear hf
    obtain ⟨z0, z1, z2, z3, z4, z5, z6, z7, z8⟩ := Z2.out.cells
    obtain ⟨t0, t1, t2, t3, t4, t5, t6, t7, t8⟩ := Z2.out.thaws
    have KZ : Hid (Kp (w.heap.size + 1) w2 (((((((((w2.setCell ⟨w.heap.size + 1, 0, none⟩ (.int .i64 0)).setCell ⟨w.heap.size + 1, 1, none⟩ (.int .i64 0)).setCell ⟨w.heap.size + 1, 2, none⟩ (.int .i64 0)).setCell ⟨w.heap.size + 1, 3, none⟩ (.int .i64 0)).setCell ⟨w.heap.size + 1, 4, none⟩ (.slice none 0 0)).setCell ⟨w.heap.size + 1, 5, none⟩ (.slice none 0 0)).setCell ⟨w.heap.size + 1, 6, none⟩ (.slice none 0 0)).setCell ⟨w.heap.size + 1, 7, none⟩ (.slice none 0 0)).setCell ⟨w.heap.size + 1, 8, none⟩ (.slice none 0 0))) := put_kp _ _ _ _ _ _ _ _ _ _ _
    obtain ⟨y0, y1, y2, y3, y4, y5, y6, y7, y8⟩ := (Z2.out.put (.int .i64 0) (.int .i64 0) (.int .i64 0) (.int .i64 0) (.slice none 0 0) (.slice none 0 0) (.slice none 0 0) (.slice none 0 0) (.slice none 0 0)).cells
    go_wp2
    clear z0 z1 z2 z3 z4 z5 z6 z7 z8 t0 t1 t2 t3 t4 t5 t6 t7 t8
    generalize ((((((((w2.setCell ⟨w.heap.size + 1, 0, none⟩ (.int .i64 0)).setCell ⟨w.heap.size + 1, 1, none⟩ (.int .i64 0)).setCell ⟨w.heap.size + 1, 2, none⟩ (.int .i64 0)).setCell ⟨w.heap.size + 1, 3, none⟩ (.int .i64 0)).setCell ⟨w.heap.size + 1, 4, none⟩ (.slice none 0 0)).setCell ⟨w.heap.size + 1, 5, none⟩ (.slice none 0 0)).setCell ⟨w.heap.size + 1, 6, none⟩ (.slice none 0 0)).setCell ⟨w.heap.size + 1, 7, none⟩ (.slice none 0 0)).setCell ⟨w.heap.size + 1, 8, none⟩ (.slice none 0 0) = w9 at *
    refine bodyPost_ret (v := .tuple #[.agg #[.int .i64 0, .int .i64 0, .int .i64 0, .int .i64 0, .slice none 0 0, .slice none 0 0, .slice none 0 0, .slice none 0 0, .slice none 0 0], .slice none 0 0, r]) (by simp [results, Try.results5, go_sem, y0, y1, y2, y3, y4, y5, y6, y7, y8]) rfl ⟨_, _, _, rfl, by rw [GF.out]; exact ER.out, .inl ⟨by rw [GF.out]; exact HF.out, rfl, rfl⟩, KZ.out.below B2.out B2.out.size (by omega)⟩
  case inr =>
    have HF : Hid (Od.faults l = 0) := hf
    have LS : Hid (LastSays l out) := hls
    obtain ⟨Y, hY⟩ : ∃ Y, (gv ks X out out.length).1 = Y := ⟨_, rfl⟩
    obtain ⟨ref, hR⟩ : ∃ r, (gv ks X out out.length).2 = r := ⟨_, rfl⟩
    have HY : Hid ((gv ks X out out.length).1 = Y ∧ (gv ks X out out.length).2 = ref) := ⟨hY, hR⟩
    rw [hY] at hwo
    rw [hR] at how
    have WO : Hid (Wo w2 w1.heap.size v Y) := hwo
    have OW : Hid (Ow w2 w1.heap.size ur ref) := how
    obtain ⟨k1, k2, k3, k4, k5, rfl, o1, o2, o3, o4, o5⟩ := hwo
    obtain ⟨a1, h1, rfl⟩ := o1.len
    obtain ⟨a2, h2, rfl⟩ := o2.len
    obtain ⟨a3, h3, rfl⟩ := o3.len
    obtain ⟨a4, h4, rfl⟩ := o4.len
    obtain ⟨a5, h5, rfl⟩ := o5.len
    obtain ⟨ra, rc, rfl⟩ := how.len
    clear hf hls hY hR how o1 o2 o3 o4 o5
    obtain ⟨z0, z1, z2, z3, z4, z5, z6, z7, z8⟩ := Z2.out.cells
    obtain ⟨t0, t1, t2, t3, t4, t5, t6, t7, t8⟩ := Z2.out.thaws
    have KZ : Hid (Kp (w.heap.size + 1) w2 (((((((((w2.setCell ⟨w.heap.size + 1, 0, none⟩ (.int .i64 Y.turn)).setCell ⟨w.heap.size + 1, 1, none⟩ (.int .i64 Y.next)).setCell ⟨w.heap.size + 1, 2, none⟩ (.int .i64 Y.wide)).setCell ⟨w.heap.size + 1, 3, none⟩ (.int .i64 Y.high)).setCell ⟨w.heap.size + 1, 4, none⟩ (.slice a1 Y.gs.length h1)).setCell ⟨w.heap.size + 1, 5, none⟩ (.slice a2 Y.os.length h2)).setCell ⟨w.heap.size + 1, 6, none⟩ (.slice a3 Y.gold.length h3)).setCell ⟨w.heap.size + 1, 7, none⟩ (.slice a4 Y.us.length h4)).setCell ⟨w.heap.size + 1, 8, none⟩ (.slice a5 Y.qs.length h5))) := put_kp _ _ _ _ _ _ _ _ _ _ _
    obtain ⟨y0, y1, y2, y3, y4, y5, y6, y7, y8⟩ := (Z2.out.put (.int .i64 Y.turn) (.int .i64 Y.next) (.int .i64 Y.wide) (.int .i64 Y.high) (.slice a1 Y.gs.length h1) (.slice a2 Y.os.length h2) (.slice a3 Y.gold.length h3) (.slice a4 Y.us.length h4) (.slice a5 Y.qs.length h5)).cells
    go_wp2
    clear z0 z1 z2 z3 z4 z5 z6 z7 z8 t0 t1 t2 t3 t4 t5 t6 t7 t8
    generalize ((((((((w2.setCell ⟨w.heap.size + 1, 0, none⟩ (.int .i64 Y.turn)).setCell ⟨w.heap.size + 1, 1, none⟩ (.int .i64 Y.next)).setCell ⟨w.heap.size + 1, 2, none⟩ (.int .i64 Y.wide)).setCell ⟨w.heap.size + 1, 3, none⟩ (.int .i64 Y.high)).setCell ⟨w.heap.size + 1, 4, none⟩ (.slice a1 Y.gs.length h1)).setCell ⟨w.heap.size + 1, 5, none⟩ (.slice a2 Y.os.length h2)).setCell ⟨w.heap.size + 1, 6, none⟩ (.slice a3 Y.gold.length h3)).setCell ⟨w.heap.size + 1, 7, none⟩ (.slice a4 Y.us.length h4)).setCell ⟨w.heap.size + 1, 8, none⟩ (.slice a5 Y.qs.length h5) = w9 at *
    refine bodyPost_ret (v := .tuple #[.agg #[.int .i64 Y.turn, .int .i64 Y.next, .int .i64 Y.wide, .int .i64 Y.high, .slice a1 Y.gs.length h1, .slice a2 Y.os.length h2, .slice a3 Y.gold.length h3, .slice a4 Y.us.length h4, .slice a5 Y.qs.length h5], .slice ra ref.length rc, r]) (by simp [results, Try.results5, go_sem, y0, y1, y2, y3, y4, y5, y6, y7, y8]) rfl ⟨_, _, _, rfl, by rw [GF.out]; exact ER.out, .inr ⟨by rw [GF.out]; exact HF.out, FW.out, HF.out, out, LS.out, by rw [HY.out.1]; exact (WO.out.kp KZ.out S1.out).mono B1.out.size, by rw [HY.out.2]; exact (OW.out.kp KZ.out S1.out).mono B1.out.size⟩, KZ.out.below B2.out B2.out.size (by omega)⟩
end Go.Proofs.Ytghkchnfcfnejaa

namespace Go.Proofs.Ytghkchnfcfnejaa
namespace So
set_option linter.unusedVariables false
def isTr (o : OrV) : Bool := decide (o.what = 3)
theorem kp_trains {l : List OrV} : ∀ (q : Nat), q ≤ l.length → ((kp l q).map Prod.fst).countP isTr = (l.take q).countP isTr
  | 0, _ => by simp [kp]
  | q + 1, h => by
    have hq : q < l.length := by omega
    have ih := kp_trains (l := l) q (by omega)
    obtain ⟨o, ho⟩ : ∃ o, l[q]? = some o := ⟨_, List.getElem?_eq_getElem hq⟩
    rw [List.take_succ_eq_append_getElem hq, List.countP_append, ← ih]
    have e : l[q] = o := by have := List.getElem?_eq_getElem hq; rw [ho] at this; exact (Option.some.inj this).symm
    rw [e]
    by_cases hc : o.what = 3 ∨ lf l l.length o.player o.unit = (q : Nat)
    · rw [kp_yes ho hc, List.map_append, List.countP_append]
      rfl
    · rw [kp_no ho hc]
      have h3 : isTr o = false := by unfold isTr; exact decide_eq_false (fun h => hc (.inl h))
      simp [h3]
theorem LastSays.trains {l out : List OrV} (h : LastSays l out) : out.countP isTr = l.countP isTr := by
  obtain ⟨S, p, r, rfl⟩ := h
  have h1 := kp_trains (l := l) l.length (Nat.le_refl _)
  rw [List.take_length] at h1
  rw [← h1]
  exact (p.map Prod.fst).countP_eq isTr
theorem LastSays.has {l out : List OrV} (h : LastSays l out) {i : Nat} {o : OrV} (ho : l[i]? = some o) (h3 : ¬ o.what = 3) (hn : ∀ (k : Nat) x, i < k → k < l.length → l[k]? = some x → x.what = 3 ∨ x.player ≠ o.player ∨ x.unit ≠ o.unit) : o ∈ out := by
  obtain ⟨S, p, r, rfl⟩ := h
  have hi : i < l.length := (List.getElem?_eq_some_iff.1 ho).1
  exact List.mem_map.2 ⟨(o, i), p.mem_iff.2 (kp_in ho (.inr (lf_last ho h3 hi hn)) hi), rfl⟩
theorem LastSays.once {l out : List OrV} (h : LastSays l out) {i k : Nat} {x y : OrV} (hki : k < i) (hx : out[k]? = some x) (hy : out[i]? = some y) (h3 : ¬ x.what = 3) (h4 : ¬ y.what = 3) (hp : x.player = y.player) : ¬ x.unit = y.unit := by
  intro hu
  obtain ⟨S, p, r, rfl⟩ := h
  rw [List.getElem?_map] at hx hy
  obtain ⟨a, ha, rfl⟩ := Option.map_eq_some_iff.1 hx
  obtain ⟨b, hb, rfl⟩ := Option.map_eq_some_iff.1 hy
  obtain ⟨-, -, ka⟩ := kp_mem (p.mem_iff.1 (List.mem_of_getElem? ha))
  obtain ⟨-, -, kb⟩ := kp_mem (p.mem_iff.1 (List.mem_of_getElem? hb))
  have e1 := ka.resolve_left h3
  have e2 := kb.resolve_left h4
  rw [hp, hu, e2] at e1
  have tg : S.Pairwise (fun x y => x.2 ≠ y.2) := (p.symm.pairwise_iff (fun {a b} (h : a.2 ≠ b.2) => h.symm)).1 ((kp_tags (l := l) l.length).imp (fun h => by omega))
  obtain ⟨la, ea⟩ := List.getElem?_eq_some_iff.1 ha
  obtain ⟨lb, eb⟩ := List.getElem?_eq_some_iff.1 hb
  have := List.pairwise_iff_getElem.1 tg k i la lb hki
  rw [ea, eb] at this
  omega
theorem tr_next {l : List OrV} {q : Nat} {o : OrV} (h : l[q]? = some o) : (l.take (q + 1)).countP isTr = (l.take q).countP isTr + (if o.what = 3 then 1 else 0) := by
  have hq : q < l.length := (List.getElem?_eq_some_iff.1 h).1
  have e : l[q] = o := (List.getElem?_eq_some_iff.1 h).2
  rw [List.take_succ_eq_append_getElem hq, List.countP_append, e]
  by_cases h3 : o.what = 3 <;> simp [isTr, h3]
theorem tr_le (l : List OrV) (q : Nat) : (l.take q).countP isTr ≤ q := Nat.le_trans List.countP_le_length (by rw [List.length_take]; omega)
theorem tr_most (l : List OrV) (q : Nat) : (l.take q).countP isTr ≤ l.countP isTr := (List.take_sublist q l).countP_le
def l0 : List OrV := [⟨0, 2, 1, 5⟩, ⟨0, 1, 0, 0⟩, ⟨0, 2, 1, 6⟩]
theorem l0_last : LastSays l0 [⟨0, 1, 0, 0⟩, ⟨0, 2, 1, 6⟩] := by
  refine ⟨[(⟨0, 1, 0, 0⟩, 1), (⟨0, 2, 1, 6⟩, 2)], ?_, ?_, rfl⟩
  · have e : kp l0 l0.length = [(⟨0, 1, 0, 0⟩, 1), (⟨0, 2, 1, 6⟩, 2)] := by
      show kp l0 3 = _
      simp [kp, lf, updAt, l0]
    rw [e]
  · simp [lt, klt]
end So
end Go.Proofs.Ytghkchnfcfnejaa

namespace Go.Proofs.Ytghkchnfcfnejaa
namespace So
set_option linter.unusedVariables false
/-- x may stand ahead of y. -/
def Ro2 (x y : OrV) : Prop := ¬ klt y x ∧ (¬ x.what = 3 → ¬ y.what = 3 → x.player = y.player → ¬ x.unit = y.unit)
theorem LastSays.lo {l out : List OrV} (h : LastSays l out) : out.Pairwise Ro2 := by
  rw [List.pairwise_iff_getElem]
  intro k i hk hi hki
  refine ⟨?_, fun h3 h4 hp => h.once hki (List.getElem?_eq_getElem hk) (List.getElem?_eq_getElem hi) h3 h4 hp⟩
  obtain ⟨S, p, r, rfl⟩ := h
  simp only [List.length_map] at hk hi
  have := List.pairwise_iff_getElem.1 r k i hk hi hki
  simp only [List.getElem_map]
  rcases this with h | h
  · exact klt_asym h
  · exact h.1
theorem kp_all {out : List OrV} (h : out.Pairwise Ro2) : ∀ q, q ≤ out.length → (kp out q).map Prod.fst = out.take q
  | 0, _ => by simp [kp]
  | q + 1, hq => by
    have hl : q < out.length := by omega
    obtain ⟨o, ho⟩ : ∃ o, out[q]? = some o := ⟨_, List.getElem?_eq_getElem hl⟩
    have ih := kp_all h q (by omega)
    have hc : o.what = 3 ∨ lf out out.length o.player o.unit = (q : Nat) := by
      by_cases h3 : o.what = 3
      · exact .inl h3
      · refine .inr (lf_last ho h3 hl fun k x h1 h2 hx => ?_)
        by_cases hx3 : x.what = 3
        · exact .inl hx3
        · refine .inr ?_
          have := (List.pairwise_iff_getElem.1 h q k hl h2 h1).2
          have e1 : out[q] = o := by have := List.getElem?_eq_getElem hl; rw [ho] at this; exact (Option.some.inj this).symm
          have e2 : out[k] = x := by have := List.getElem?_eq_getElem h2; rw [hx] at this; exact (Option.some.inj this).symm
          rw [e1, e2] at this
          by_cases hp : x.player = o.player
          · exact .inr (fun hu => this h3 hx3 hp.symm hu.symm)
          · exact .inl hp
    have e1 : out[q] = o := by have := List.getElem?_eq_getElem hl; rw [ho] at this; exact (Option.some.inj this).symm
    rw [kp_yes ho hc, List.map_append, ih, List.take_succ_eq_append_getElem hl, e1]
    rfl
theorem lo_last {out : List OrV} (h : out.Pairwise Ro2) : LastSays out out := by
  have e := kp_all h out.length (Nat.le_refl _)
  rw [List.take_length] at e
  refine ⟨kp out out.length, List.Perm.refl _, ?_, e.symm⟩
  have h1 := kp_tags (l := out) out.length
  have h2 : ((kp out out.length).map Prod.fst).Pairwise Ro2 := by rw [e]; exact h
  rw [List.pairwise_map] at h2
  exact (h1.and h2).imp fun ⟨a, b⟩ => .inr ⟨b.1, a⟩
theorem LastSays.again {l out : List OrV} (h : LastSays l out) : LastSays out out := lo_last h.lo
theorem LastSays.fault {l out : List OrV} (h : LastSays l out) (hf : Od.faults l = 0) : Od.faults out = 0 := by
  obtain ⟨h1, h2⟩ := Od.faults_ok hf
  exact Od.faults_of (Nat.le_trans h.len h1) fun o ho => h2 o (h.mem ho)
def l1 : List OrV := [⟨1, 7, 1, 5⟩, ⟨1, 7, 0, 0⟩]
theorem l1_last : LastSays l1 [⟨1, 7, 0, 0⟩] := by
  refine ⟨[(⟨1, 7, 0, 0⟩, 1)], ?_, by simp, rfl⟩
  have e : kp l1 l1.length = [(⟨1, 7, 0, 0⟩, 1)] := by
    show kp l1 2 = _
    simp [kp, lf, updAt, l1]
  rw [e]
theorem l1_fault : Od.faults l1 = 0 := Od.faults_of (by decide) (by intro o ho; simp [l1] at ho; rcases ho with rfl | rfl <;> (unfold Od.bad; simp only; omega))
end So
end Go.Proofs.Ytghkchnfcfnejaa

namespace Go.Proofs.Ytghkchnfcfnejaa
open Go.Proofs.Ytghkchnfcfnejaa.So
set_option linter.unusedVariables false

/-- those of the first q that are not refused. -/
def gk (ks : List KV) (Y : WV) (out : List OrV) : Nat → List OrV
  | 0 => []
  | q + 1 => match out[q]? with
    | none => gk ks Y out q
    | some o => match given1 ks (gv ks Y out q).1 o with
      | some _ => gk ks Y out q ++ [o]
      | none => gk ks Y out q
theorem gk_yes {ks : List KV} {Y Z : WV} {out : List OrV} {q : Nat} {o : OrV} (ho : out[q]? = some o) (h : given1 ks (gv ks Y out q).1 o = some Z) : gk ks Y out (q + 1) = gk ks Y out q ++ [o] := by
  rw [gk]; simp only [ho, h]
theorem gk_no {ks : List KV} {Y : WV} {out : List OrV} {q : Nat} {o : OrV} (ho : out[q]? = some o) (h : given1 ks (gv ks Y out q).1 o = none) : gk ks Y out (q + 1) = gk ks Y out q := by
  rw [gk]; simp only [ho, h]
/-- some of the first q. -/
theorem gk_sub {ks : List KV} {Y : WV} {out : List OrV} : ∀ q, q ≤ out.length → (gk ks Y out q).Sublist (out.take q)
  | 0, _ => by simp [gk]
  | q + 1, hq => by
    have hl : q < out.length := by omega
    have ih := gk_sub (ks := ks) (Y := Y) (out := out) q (by omega)
    have ho := List.getElem?_eq_getElem hl
    rw [List.take_succ_eq_append_getElem hl]
    cases h : given1 ks (gv ks Y out q).1 out[q] with
    | none => rw [gk_no ho h]; exact ih.trans (List.sublist_append_left _ _)
    | some Z => rw [gk_yes ho h]; exact ih.append (List.Sublist.refl _)
theorem gv_front {ks : List KV} {Y : WV} {a b : List OrV} : ∀ q, q ≤ a.length → gv ks Y (a ++ b) q = gv ks Y a q
  | 0, _ => rfl
  | q + 1, hq => by
    have e : (a ++ b)[q]? = a[q]? := List.getElem?_append_left (by omega)
    rw [gv, gv, e, gv_front q (by omega)]
/-- they bring the same, and none of them is refused. -/
theorem gk_same {ks : List KV} {Y : WV} {out : List OrV} : ∀ q, q ≤ out.length → gv ks Y (gk ks Y out q) (gk ks Y out q).length = ((gv ks Y out q).1, [])
  | 0, _ => by simp [gk, gv]
  | q + 1, hq => by
    have hl : q < out.length := by omega
    have ih := gk_same (ks := ks) (Y := Y) (out := out) q (by omega)
    have ho := List.getElem?_eq_getElem hl
    cases h : given1 ks (gv ks Y out q).1 out[q] with
    | none => rw [gk_no ho h, gv_no ho h, ih]
    | some Z =>
      rw [gk_yes ho h, gv_yes ho h, List.length_append, List.length_singleton]
      have e1 : gv ks Y (gk ks Y out q ++ [out[q]]) (gk ks Y out q).length = ((gv ks Y out q).1, []) := by rw [gv_front _ (Nat.le_refl _), ih]
      have e2 : (gk ks Y out q ++ [out[q]])[(gk ks Y out q).length]? = some out[q] := by simp
      rw [gv_yes e2 (Z := Z) (by rw [e1]; exact h), e1]
theorem gk_lo {ks : List KV} {Y : WV} {l out : List OrV} (h : LastSays l out) : LastSays (gk ks Y out out.length) (gk ks Y out out.length) := by
  refine lo_last (h.lo.sublist ?_)
  have := gk_sub (ks := ks) (Y := Y) (out := out) out.length (Nat.le_refl _)
  rwa [List.take_length] at this
theorem gk_fault {ks : List KV} {Y : WV} {l out : List OrV} (h : LastSays l out) (hf : Od.faults l = 0) : Od.faults (gk ks Y out out.length) = 0 := by
  have hs := gk_sub (ks := ks) (Y := Y) (out := out) out.length (Nat.le_refl _)
  rw [List.take_length] at hs
  obtain ⟨h1, h2⟩ := Od.faults_ok (h.fault hf)
  exact Od.faults_of (Nat.le_trans hs.length_le h1) fun o ho => h2 o (hs.subset ho)
/-- the numbers of the refused rise; where the next one stands. -/
theorem gv_bound {ks : List KV} {Y : WV} {out : List OrV} : ∀ q, ∀ r ∈ (gv ks Y out q).2, 0 ≤ r ∧ r < (q : Int)
  | 0, r, hr => by simp [gv] at hr
  | q + 1, r, hr => by
    have ih := gv_bound (ks := ks) (Y := Y) (out := out) q
    cases ho : out[q]? with
    | none => rw [gv] at hr; simp only [ho] at hr; have := ih r hr; omega
    | some o =>
      cases h : given1 ks (gv ks Y out q).1 o with
      | none =>
        rw [gv_no ho h] at hr
        rcases List.mem_append.1 hr with hr | hr
        · have := ih r hr; omega
        · simp at hr; omega
      | some Z => rw [gv_yes ho h] at hr; have := ih r hr; omega
theorem gv_grow {ks : List KV} {Y : WV} {out : List OrV} {q : Nat} : ∀ d, ∃ t, (gv ks Y out (q + d)).2 = (gv ks Y out q).2 ++ t ∧ ∀ r ∈ t, (q : Int) ≤ r
  | 0 => ⟨[], by simp, by simp⟩
  | d + 1 => by
    obtain ⟨t, e, ht⟩ := gv_grow (ks := ks) (Y := Y) (out := out) (q := q) d
    rw [show q + (d + 1) = (q + d) + 1 from rfl]
    cases ho : out[q + d]? with
    | none => exact ⟨t, by rw [gv]; simp only [ho]; exact e, ht⟩
    | some o =>
      cases h : given1 ks (gv ks Y out (q + d)).1 o with
      | some Z => rw [gv_yes ho h]; exact ⟨t, e, ht⟩
      | none =>
        rw [gv_no ho h]
        refine ⟨t ++ [((q + d : Nat) : Int)], by rw [e, List.append_assoc], fun r hr => ?_⟩
        rcases List.mem_append.1 hr with hr | hr
        · exact ht r hr
        · simp at hr; omega
/-- is the next that was refused this one? -/
theorem next_no {ks : List KV} {Y : WV} {out : List OrV} {q : Nat} {o : OrV} (hq : q < out.length) (ho : out[q]? = some o) (h : given1 ks (gv ks Y out q).1 o = none) : (gv ks Y out out.length).2[(gv ks Y out q).2.length]? = some (q : Int) := by
  obtain ⟨d, hd⟩ : ∃ d, out.length = (q + 1) + d := ⟨out.length - (q + 1), by omega⟩
  obtain ⟨t, e, ht⟩ := gv_grow (ks := ks) (Y := Y) (out := out) (q := q + 1) d
  rw [hd, e, gv_no ho h]
  simp
theorem next_yes {ks : List KV} {Y Z : WV} {out : List OrV} {q : Nat} {o : OrV} (hq : q < out.length) (ho : out[q]? = some o) (h : given1 ks (gv ks Y out q).1 o = some Z) (r : Int) (hr : (gv ks Y out out.length).2[(gv ks Y out q).2.length]? = some r) : r ≠ (q : Int) := by
  obtain ⟨d, hd⟩ : ∃ d, out.length = (q + 1) + d := ⟨out.length - (q + 1), by omega⟩
  obtain ⟨t, e, ht⟩ := gv_grow (ks := ks) (Y := Y) (out := out) (q := q + 1) d
  have e2 : (gv ks Y out (q + 1)).2 = (gv ks Y out q).2 := by rw [gv_yes ho h]
  rw [hd, e, e2, List.getElem?_append_right (Nat.le_refl _)] at hr
  have := ht r (List.mem_of_getElem? hr)
  omega
theorem gv_len {ks : List KV} {Y : WV} {out : List OrV} {q : Nat} (hq : q ≤ out.length) : (gv ks Y out q).2.length ≤ (gv ks Y out out.length).2.length := by
  obtain ⟨d, hd⟩ : ∃ d, out.length = q + d := ⟨out.length - q, by omega⟩
  obtain ⟨t, e, ht⟩ := gv_grow (ks := ks) (Y := Y) (out := out) (q := q) d
  have : (gv ks Y out out.length).2 = (gv ks Y out q).2 ++ t := by rw [hd]; exact e
  rw [this, List.length_append]
  omega
theorem gv_short {ks : List KV} {Y : WV} {out : List OrV} : ∀ q, (gv ks Y out q).2.length ≤ q
  | 0 => by simp [gv]
  | q + 1 => by
    have ih := gv_short (ks := ks) (Y := Y) (out := out) q
    cases ho : out[q]? with
    | none => rw [gv]; simp only [ho]; omega
    | some o =>
      cases h : given1 ks (gv ks Y out q).1 o with
      | none => rw [gv_no ho h]; simp; omega
      | some Z => rw [gv_yes ho h]; simp; omega
/-- nobody is anywhere else. -/
def Still (Y Z : WV) : Prop := Z.us.length = Y.us.length ∧ ∀ (i : Nat) a b, Y.us[i]? = some a → Z.us[i]? = some b → b.at_ = a.at_ ∧ b.life = a.life
theorem Still.refl (Y : WV) : Still Y Y := ⟨rfl, fun i a b h1 h2 => by rw [h1] at h2; cases h2; exact ⟨rfl, rfl⟩⟩
theorem Still.trans {A B C : WV} (h : Still A B) (k : Still B C) : Still A C := by
  refine ⟨k.1.trans h.1, fun i a c h1 h2 => ?_⟩
  have hi := (List.getElem?_eq_some_iff.1 h1).1
  have hb := List.getElem?_eq_getElem (l := B.us) (i := i) (by rw [h.1]; exact hi)
  obtain ⟨x1, x2⟩ := h.2 i a _ h1 hb
  obtain ⟨y1, y2⟩ := k.2 i _ c hb h2
  exact ⟨y1.trans x1, y2.trans x2⟩
theorem given_still {ks : List KV} {Y Z : WV} {o : OrV} (h : given1 ks Y o = some Z) : Still Y Z := by
  unfold given1 at h
  split at h
  · cases h
  · split at h
    · cases h
    · rename_i i hf u hu
      split at h
      · cases h
      · split at h
        · injection h with h
          subst h
          split
          · exact Still.refl Y
          · refine ⟨by simp [sentW], fun j a b h1 h2 => ?_⟩
            unfold sentW at h2
            simp only at h2
            rw [List.getElem?_set] at h2
            split at h2
            · rename_i e
              subst e
              rw [hu] at h1
              injection h1 with h1
              subst h1
              split at h2
              · injection h2 with h2
                subst h2
                exact ⟨rfl, rfl⟩
              · cases h2
            · rw [h1] at h2
              injection h2 with h2
              subst h2
              exact ⟨rfl, rfl⟩
        · cases h
theorem gv_still {ks : List KV} {Y : WV} {out : List OrV} : ∀ q, Still Y (gv ks Y out q).1
  | 0 => Still.refl Y
  | q + 1 => by
    have ih := gv_still (ks := ks) (Y := Y) (out := out) q
    cases ho : out[q]? with
    | none => rw [gv]; simp only [ho]; exact ih
    | some o =>
      cases h : given1 ks (gv ks Y out q).1 o with
      | none => rw [gv_no ho h]; exact ih
      | some Z => rw [gv_yes ho h]; exact ih.trans (given_still h)
end Go.Proofs.Ytghkchnfcfnejaa

namespace Go.Proofs.Ytghkchnfcfnejaa
open Go.RowKit
set_option linter.unusedVariables false

set_option maxRecDepth 100000 in
set_option maxHeartbeats 4000000 in
theorem cplace_any (vk vw : Value) (ks : List KV) (W : WV) (pl kd at_ : Int) (w : World) (hk : Kl w vk ks) (hw : Wl w vw W) (hr : WRight ks W) :
    Calls Try.prog 26 #[vk, vw, .int .i64 pl, .int .i64 kd, .int .i64 at_] w fun e w' => ∃ r, e = .returned r ∧ Er r (Wd.placeFault ks W pl kd at_) ∧ Below w.heap.size w w' := by
  have K : Hid (Kl w vk ks) := hk
  have H : Hid (Wl w vw W) := hw
  have R : Hid (WRight ks W) := hr
  obtain ⟨u1, u2, u3, u4, u5, rfl, r1, r2, r3, r4, r5⟩ := hw
  obtain ⟨p1, q1, rfl, -⟩ := r1
  obtain ⟨p2, q2, rfl, -⟩ := r2
  obtain ⟨p3, q3, rfl, -⟩ := r3
  obtain ⟨p4, q4, rfl, -⟩ := r4
  obtain ⟨p5, q5, rfl, -⟩ := r5
  obtain ⟨pk, qk, rfl, -, -, kc⟩ := hk
  have KC : Hid (ks ≠ [] → ∃ x, pk = some x ∧ x.block < w.heap.size ∧ ∀ (i : Nat) k, ks[i]? = some k → Kc w (x.add (i * 11)) k) := kc
  have lk : ks.length ≤ 8 := kinds_len hr.kinds
  have lg : W.gold.length ≤ 4 := (nums_ok hr.nums).2
  have lu : W.us.length ≤ 40 := hr.ul
  have lc : W.gs.length ≤ 144 := by
    obtain ⟨Wn, Hn, -, -, G⟩ := hr.good
    have h1 := G.pos
    have h2 := G.gl
    omega
  clear hr kc
  go_enter Try.func26, Try.ntmps26
  go_upto_region 1 with fail
  have B0 : Hid (Below w.heap.size w (w.alloc (Obj.cells #[.int .i64 W.turn, .int .i64 W.next, .int .i64 W.wide, .int .i64 W.high, .slice p1 W.gs.length q1, .slice p2 W.os.length q2, .slice p3 W.gold.length q3, .slice p4 W.us.length q4, .slice p5 W.qs.length q5] 29))) := (Below.refl _ _).alloc (Nat.le_refl _) _
  have X0 : Hid (Bw (w.alloc (Obj.cells #[.int .i64 W.turn, .int .i64 W.next, .int .i64 W.wide, .int .i64 W.high, .slice p1 W.gs.length q1, .slice p2 W.os.length q2, .slice p3 W.gold.length q3, .slice p4 W.us.length q4, .slice p5 W.qs.length q5] 29)) w.heap.size W (.slice p1 W.gs.length q1) (.slice p2 W.os.length q2) (.slice p3 W.gold.length q3) (.slice p4 W.us.length q4) (.slice p5 W.qs.length q5)) := Bw.mk' W _ _ _ _ _ rfl
  generalize (w.alloc (Obj.cells #[.int .i64 W.turn, .int .i64 W.next, .int .i64 W.wide, .int .i64 W.high, .slice p1 W.gs.length q1, .slice p2 W.os.length q2, .slice p3 W.gold.length q3, .slice p4 W.us.length q4, .slice p5 W.qs.length q5] 29)) = w0 at *
  obtain ⟨x0, x1, x2, x3, x4, x5, x6, x7, x8⟩ := X0.out
  by_cases h40 : (40 : Int) ≤ (W.us.length : Int)
  · go_wp2
    go_ret
    exact ⟨_, rfl, by rw [Wd.pf4 (.inl h40)]; exact Er.no (by decide), B0.out⟩
  by_cases hnx : (1000000 : Int) ≤ W.next
  · go_wp2
    go_ret
    exact ⟨_, rfl, by rw [Wd.pf4 (.inr hnx)]; exact Er.no (by decide), B0.out⟩
  have HF : Hid (¬ (40 ≤ (W.us.length : Int) ∨ 1000000 ≤ W.next)) := fun h => h.elim h40 hnx
  by_cases h1 : 0 ≤ pl ∧ pl < (W.gold.length : Int)
  case neg =>
    have t1 : decide (0 ≤ pl ∧ pl < (W.gold.length : Int)) = false := decide_eq_false h1
    have F : Hid (Wd.placeFault ks W pl kd at_ = 1) := Wd.pf1 HF.out (.inl h1)
    clear h1
    go_wp2_with fail
    refine (isone_ints _ _ _ _ _ (by omega)).mono ?_
    rintro e w1 ⟨rfl, hww⟩
    obtain rfl := hww.symm
    rw [t1]
    clear t1
    go_wp2
    go_ret
    exact ⟨_, rfl, by rw [F.out]; exact Er.no (by decide), B0.out⟩
  have t1 : decide (0 ≤ pl ∧ pl < (W.gold.length : Int)) = true := decide_eq_true h1
  have H1 : Hid (0 ≤ pl ∧ pl < (W.gold.length : Int)) := h1
  clear h1
  go_wp2_with fail
  refine (isone_ints _ _ _ _ _ (by omega)).mono ?_
  rintro e w1 ⟨rfl, hww⟩
  obtain rfl := hww.symm
  rw [t1]
  clear t1
  by_cases h2 : 0 ≤ kd ∧ kd < (ks.length : Int)
  case neg =>
    have t1 : decide (0 ≤ kd ∧ kd < (ks.length : Int)) = false := decide_eq_false h2
    have F : Hid (Wd.placeFault ks W pl kd at_ = 1) := Wd.pf1 HF.out (.inr h2)
    clear h2
    go_wp2_with fail
    refine (isone_kinds _ _ _ _ _ (by omega)).mono ?_
    rintro e w1 ⟨rfl, hww⟩
    obtain rfl := hww.symm
    rw [t1]
    clear t1
    go_wp2
    go_ret
    exact ⟨_, rfl, by rw [F.out]; exact Er.no (by decide), B0.out⟩
  have t1 : decide (0 ≤ kd ∧ kd < (ks.length : Int)) = true := decide_eq_true h2
  have H2 : Hid (0 ≤ kd ∧ kd < (ks.length : Int)) := h2
  clear h2
  go_wp2_with fail
  refine (isone_kinds _ _ _ _ _ (by omega)).mono ?_
  rintro e w1 ⟨rfl, hww⟩
  obtain rfl := hww.symm
  rw [t1]
  clear t1
  by_cases h3 : 0 ≤ at_ ∧ at_ < (W.gs.length : Int)
  case neg =>
    have t1 : decide (0 ≤ at_ ∧ at_ < (W.gs.length : Int)) = false := decide_eq_false h3
    have F : Hid (Wd.placeFault ks W pl kd at_ = 6) := Wd.pf6 HF.out H1.out H2.out h3
    clear h3
    go_wp2_with fail
    refine (isone_ints _ _ _ _ _ (by omega)).mono ?_
    rintro e w1 ⟨rfl, hww⟩
    obtain rfl := hww.symm
    rw [t1]
    clear t1
    go_wp2
    go_ret
    exact ⟨_, rfl, by rw [F.out]; exact Er.no (by decide), B0.out⟩
  have t1 : decide (0 ≤ at_ ∧ at_ < (W.gs.length : Int)) = true := decide_eq_true h3
  have H3 : Hid (0 ≤ at_ ∧ at_ < (W.gs.length : Int)) := h3
  go_wp2_with fail
  refine (isone_ints _ _ _ _ _ (by omega)).mono ?_
  rintro e w1 ⟨rfl, hww⟩
  obtain rfl := hww.symm
  rw [t1]
  clear t1
  obtain ⟨an, ea⟩ : ∃ an : Nat, at_ = an := ⟨at_.toNat, by omega⟩
  obtain ⟨kn, ek⟩ : ∃ kn : Nat, kd = kn := ⟨kd.toNat, by have := H2.out; omega⟩
  subst ea
  subst ek
  have hkl : kn < ks.length := by have := H2.out; omega
  have hki : (kn : Int) < (ks.length : Int) := by omega
  obtain ⟨k, hk⟩ : ∃ k, ks[kn]? = some k := ⟨_, List.getElem?_eq_getElem hkl⟩
  obtain ⟨g, hg0⟩ : ∃ g, W.gs[an]? = some g := ⟨_, List.getElem?_eq_getElem (by omega)⟩
  have FK : Hid (Wd.placeFault ks W pl (kn : Nat) (an : Nat) = if Wd.open_ W.gs W.us (an : Nat) k.f = false then 7 else 0) := Wd.pfk HF.out H1.out H2.out H3.out (by simpa using hk)
  have hgan : Hid (W.gs[an]? = some g) := hg0
  obtain ⟨xk, rfl, hxl, hxc⟩ := KC.out (by intro e; rw [e] at hkl; simp at hkl)
  have hkc : Hid (Kc w0 (xk.add (kn * 11)) k) := (hxc kn k hk).below B0.out (by rw [add_block]; exact hxl)
  have FC : Hid (∀ V, Below w0.heap.size w0 V → V.cell? ⟨w.heap.size, 2, none⟩ = some (.int .i64 W.wide) ∧ V.cell? ⟨w.heap.size, 3, none⟩ = some (.int .i64 W.high) ∧ V.cell? ⟨w.heap.size, 4, none⟩ = some (.slice p1 W.gs.length q1) ∧ V.cell? ⟨w.heap.size, 5, none⟩ = some (.slice p2 W.os.length q2) ∧ V.cell? ⟨w.heap.size, 7, none⟩ = some (.slice p4 W.us.length q4) ∧ V.cell? ⟨(xk.add (kn * 11)).block, (xk.add (kn * 11)).off + 9, none⟩ = some (.bool k.f)) := fun V hV => by
    obtain ⟨-, -, z2, z3, z4, z5, -, z7, -⟩ := X0.out.below hV X0.out.lt
    obtain ⟨-, -, -, -, -, -, -, -, -, m9, -⟩ := hkc.out.below hV hkc.out.lt
    exact ⟨z2, z3, z4, z5, z7, m9⟩
  have OPN : Hid (∀ V, Below w0.heap.size w0 V → Calls Try.prog 50 #[.agg #[.int .i64 W.wide, .int .i64 W.high, .slice p1 W.gs.length q1, .slice p2 W.os.length q2], .slice p4 W.us.length q4, .int .i64 (an : Nat), .bool k.f] V fun e w' => e = .returned (.bool (Wd.open_ W.gs W.us (an : Nat) k.f)) ∧ Below w0.heap.size w0 w') := fun V hV => by
    have BV : Below w.heap.size w V := B0.out.trans (hV.mono B0.out.size)
    obtain ⟨r1, r2, -, r4, -⟩ := (H.out.below BV).slices
    obtain ⟨Wn, Hn, hWn, hHn, hGood⟩ := R.out.good
    rw [hWn, hHn]
    exact (isopen_any _ _ Wn Hn W.gs W.os W.us an g k.f V ⟨_, _, rfl, r1, r2⟩ hGood r4 (by have := hGood.gl; omega) hgan.out).mono fun e w' ⟨h1, h2⟩ => ⟨h1, hV.trans (h2.mono hV.size)⟩
  have eo : ∀ args w, (callFunc 50 args).run Try.prog w = .ok (.enter 50 args) w := by intro args w; go_simp
  clear hxc hk hg0 h3 x0 x1 x2 x3 x4 x5 x6 x7 x8
  go_upto_region 9 with fail
  refine wp_region_class 11 (fun V => Below w0.heap.size w0 V) (by kernel_rfl) (by kernel_rfl) (Below.refl _ _).drew ?_
  simp only [List.take_succ_cons, List.take_zero, List.drop_succ_cons, List.drop_zero]
  refine head_step (.pointer (some ⟨w.heap.size, 2, none⟩)) (by go_simp) (fun V hV => by go_simp) ?_
  go_simp
  refine head_step (.agg #[.int .i64 W.wide, .int .i64 W.high, .slice p1 W.gs.length q1, .slice p2 W.os.length q2]) (by go_simp) (fun V hV => by obtain ⟨f2, f3, f4, f5, -⟩ := FC.out V hV; go_simp) ?_
  go_simp
  refine head_step (.pointer (some ⟨w.heap.size, 7, none⟩)) (by go_simp) (fun V hV => by go_simp) ?_
  go_simp
  refine head_step (.slice p4 W.us.length q4) (by go_simp) (fun V hV => by obtain ⟨-, -, -, -, f7, -⟩ := FC.out V hV; go_simp) ?_
  go_simp
  refine head_step (.int .i64 (an : Nat)) (by go_simp) (fun V hV => by go_simp) ?_
  go_simp
  refine head_step (.slice (some xk) ks.length qk) (by go_simp) (fun V hV => by go_simp) ?_
  go_simp
  refine head_step (.int .i64 (kn : Nat)) (by go_simp) (fun V hV => by go_simp) ?_
  go_simp
  refine head_step (.pointer (some (xk.add (kn * 11)))) (by go_simp) (fun V hV => by go_simp) ?_
  go_simp
  refine head_step (.pointer (some ⟨(xk.add (kn * 11)).block, (xk.add (kn * 11)).off + 9, none⟩)) (by go_simp) (fun V hV => by go_simp) ?_
  go_simp
  refine head_step (.bool k.f) (by go_simp) (fun V hV => by obtain ⟨-, -, -, -, -, f10⟩ := FC.out V hV; go_simp) ?_
  go_simp
  refine head_call (.bool (Wd.open_ W.gs W.us (an : Nat) k.f)) 50 #[.agg #[.int .i64 W.wide, .int .i64 W.high, .slice p1 W.gs.length q1, .slice p2 W.os.length q2], .slice p4 W.us.length q4, .int .i64 (an : Nat), .bool k.f] (by go_simp) (fun V hV => by go_simp) (fun V hV => OPN.out V hV) ?_
  go_simp
  intro V hV
  have BV : Hid (Below w.heap.size w V) := B0.out.trans (hV.mono B0.out.size)
  obtain ⟨b9, hb9⟩ : ∃ b, Wd.open_ W.gs W.us (an : Nat) k.f = b := ⟨_, rfl⟩
  rw [hb9] at FK ⊢
  clear hV FC OPN hb9
  cases b9 with
  | false =>
    go_wp2
    go_ret
    exact ⟨_, rfl, by rw [FK.out]; exact Er.no (by decide), BV.out⟩
  | true =>
    go_wp2
    go_ret
    exact ⟨_, rfl, by rw [FK.out]; exact Er.nil, BV.out⟩
end Go.Proofs.Ytghkchnfcfnejaa

namespace Go.Proofs.Ytghkchnfcfnejaa
open Go.RowKit
set_option linter.unusedVariables false

set_option maxRecDepth 100000 in
set_option maxHeartbeats 8000000 in
theorem place_any (vk vw : Value) (ks : List KV) (W : WV) (pl kd at_ : Int) (w : World) (hk : Kl w vk ks) (hb : ∀ k ∈ ks, k.b.size ≤ 9223372036854775807) (hw : Wl w vw W) :
    Calls Try.prog 11 #[vk, vw, .int .i64 pl, .int .i64 kd, .int .i64 at_] w fun e w' => ∃ u r, e = .returned (.tuple #[u, r]) ∧ Er r (Wd.putFault ks W pl kd at_) ∧ Wo w' w.heap.size u (Wd.placed ks W pl kd at_) ∧ Below w.heap.size w w' := by
  have K : Hid (Kl w vk ks ∧ ∀ k ∈ ks, k.b.size ≤ 9223372036854775807) := ⟨hk, hb⟩
  have H : Hid (Wl w vw W) := hw
  obtain ⟨u1, u2, u3, u4, u5, rfl, r1, r2, r3, r4, r5⟩ := hw
  obtain ⟨p1, q1, rfl, -⟩ := r1
  obtain ⟨p2, q2, rfl, -⟩ := r2
  obtain ⟨p3, q3, rfl, -⟩ := r3
  obtain ⟨p4, q4, rfl, -⟩ := r4
  obtain ⟨p5, q5, rfl, -⟩ := r5
  obtain ⟨pk, qk, rfl, -, -, kc⟩ := hk
  have KC : Hid (ks ≠ [] → ∃ x, pk = some x ∧ x.block < w.heap.size ∧ ∀ (i : Nat) k, ks[i]? = some k → Kc w (x.add (i * 11)) k) := kc
  clear hb kc
  go_enter Try.func11, Try.ntmps11
  go_upto_region 1 with fail
  have B0 : Hid (Below w.heap.size w ((w.alloc (.cells #[.int .i64 W.turn, .int .i64 W.next, .int .i64 W.wide, .int .i64 W.high, .slice p1 W.gs.length q1, .slice p2 W.os.length q2, .slice p3 W.gold.length q3, .slice p4 W.us.length q4, .slice p5 W.qs.length q5] 29)).alloc (.cells #[.int .i64 0, .int .i64 0, .int .i64 0, .int .i64 0, .slice none 0 0, .slice none 0 0, .slice none 0 0, .slice none 0 0, .slice none 0 0] 29))) := ((Below.refl _ _).alloc (Nat.le_refl _) _).alloc (by simp) _
  have X0 : Hid (Wx ((w.alloc (.cells #[.int .i64 W.turn, .int .i64 W.next, .int .i64 W.wide, .int .i64 W.high, .slice p1 W.gs.length q1, .slice p2 W.os.length q2, .slice p3 W.gold.length q3, .slice p4 W.us.length q4, .slice p5 W.qs.length q5] 29)).alloc (.cells #[.int .i64 0, .int .i64 0, .int .i64 0, .int .i64 0, .slice none 0 0, .slice none 0 0, .slice none 0 0, .slice none 0 0, .slice none 0 0] 29)) w.heap.size (.int .i64 W.turn) (.int .i64 W.next) (.int .i64 W.wide) (.int .i64 W.high) (.slice p1 W.gs.length q1) (.slice p2 W.os.length q2) (.slice p3 W.gold.length q3) (.slice p4 W.us.length q4) (.slice p5 W.qs.length q5)) := (Wx.new (w := w) _ _ _ _ _ _ _ _ _ rfl).below ((Below.refl _ _).alloc (Nat.le_refl _) _) (by simp)
  have Z0 : Hid (Wx ((w.alloc (.cells #[.int .i64 W.turn, .int .i64 W.next, .int .i64 W.wide, .int .i64 W.high, .slice p1 W.gs.length q1, .slice p2 W.os.length q2, .slice p3 W.gold.length q3, .slice p4 W.us.length q4, .slice p5 W.qs.length q5] 29)).alloc (.cells #[.int .i64 0, .int .i64 0, .int .i64 0, .int .i64 0, .slice none 0 0, .slice none 0 0, .slice none 0 0, .slice none 0 0, .slice none 0 0] 29)) (w.heap.size + 1) (.int .i64 0) (.int .i64 0) (.int .i64 0) (.int .i64 0) (.slice none 0 0) (.slice none 0 0) (.slice none 0 0) (.slice none 0 0) (.slice none 0 0)) := Wx.new _ _ _ _ _ _ _ _ _ (by simp)
  have S0 : Hid (w.heap.size + 2 ≤ ((w.alloc (.cells #[.int .i64 W.turn, .int .i64 W.next, .int .i64 W.wide, .int .i64 W.high, .slice p1 W.gs.length q1, .slice p2 W.os.length q2, .slice p3 W.gold.length q3, .slice p4 W.us.length q4, .slice p5 W.qs.length q5] 29)).alloc (.cells #[.int .i64 0, .int .i64 0, .int .i64 0, .int .i64 0, .slice none 0 0, .slice none 0 0, .slice none 0 0, .slice none 0 0, .slice none 0 0] 29)).heap.size) := by unfold Hid; simp
  generalize ((w.alloc (.cells #[.int .i64 W.turn, .int .i64 W.next, .int .i64 W.wide, .int .i64 W.high, .slice p1 W.gs.length q1, .slice p2 W.os.length q2, .slice p3 W.gold.length q3, .slice p4 W.us.length q4, .slice p5 W.qs.length q5] 29)).alloc (.cells #[.int .i64 0, .int .i64 0, .int .i64 0, .int .i64 0, .slice none 0 0, .slice none 0 0, .slice none 0 0, .slice none 0 0, .slice none 0 0] 29)) = w0 at *
  obtain ⟨x0, x1, x2, x3, x4, x5, x6, x7, x8⟩ := X0.out.cells
  go_wp2_with fail
  refine (wcheck_any _ _ ks W w0 (K.out.1.below B0.out) K.out.2 (H.out.below B0.out)).mono ?_
  rintro e w1 ⟨r, rfl, hr, hb1⟩
  clear x0 x1 x2 x3 x4 x5 x6 x7 x8
  have B1 : Hid (Below w.heap.size w w1) := B0.out.trans (hb1.mono B0.out.size)
  have X1 : Hid (Wx w1 w.heap.size (.int .i64 W.turn) (.int .i64 W.next) (.int .i64 W.wide) (.int .i64 W.high) (.slice p1 W.gs.length q1) (.slice p2 W.os.length q2) (.slice p3 W.gold.length q3) (.slice p4 W.us.length q4) (.slice p5 W.qs.length q5)) := X0.out.below hb1 X0.out.lt
  have Z1 : Hid (Wx w1 (w.heap.size + 1) (.int .i64 0) (.int .i64 0) (.int .i64 0) (.int .i64 0) (.slice none 0 0) (.slice none 0 0) (.slice none 0 0) (.slice none 0 0) (.slice none 0 0)) := Z0.out.below hb1 Z0.out.lt
  have S1 : Hid (w.heap.size + 2 ≤ w1.heap.size) := Nat.le_trans S0.out hb1.size
  clear hb1 B0 X0 Z0 S0
  rcases hr with ⟨hf, rfl⟩ | ⟨hf, rfl⟩
  case inr =>
    obtain ⟨fe, hfe⟩ : ∃ f, Wd.wfault ks W = f := ⟨_, rfl⟩
    have HFE : Hid (fe ≠ 0) := by rw [← hfe]; exact hf
    have FE : Hid (Wd.putFault ks W pl kd at_ = fe) := by unfold Hid Wd.putFault; rw [if_neg hf]; exact hfe
    rw [hfe]
    clear hf hfe
    obtain ⟨z0, z1, z2, z3, z4, z5, z6, z7, z8⟩ := Z1.out.cells
    obtain ⟨t0, t1, t2, t3, t4, t5, t6, t7, t8⟩ := Z1.out.thaws
    have KZ : Hid (Kp (w.heap.size + 1) w1 (((((((((w1.setCell ⟨w.heap.size + 1, 0, none⟩ (.int .i64 0)).setCell ⟨w.heap.size + 1, 1, none⟩ (.int .i64 0)).setCell ⟨w.heap.size + 1, 2, none⟩ (.int .i64 0)).setCell ⟨w.heap.size + 1, 3, none⟩ (.int .i64 0)).setCell ⟨w.heap.size + 1, 4, none⟩ (.slice none 0 0)).setCell ⟨w.heap.size + 1, 5, none⟩ (.slice none 0 0)).setCell ⟨w.heap.size + 1, 6, none⟩ (.slice none 0 0)).setCell ⟨w.heap.size + 1, 7, none⟩ (.slice none 0 0)).setCell ⟨w.heap.size + 1, 8, none⟩ (.slice none 0 0))) := put_kp _ _ _ _ _ _ _ _ _ _ _
    obtain ⟨y0, y1, y2, y3, y4, y5, y6, y7, y8⟩ := (Z1.out.put (.int .i64 0) (.int .i64 0) (.int .i64 0) (.int .i64 0) (.slice none 0 0) (.slice none 0 0) (.slice none 0 0) (.slice none 0 0) (.slice none 0 0)).cells
    go_wp2
    clear z0 z1 z2 z3 z4 z5 z6 z7 z8 t0 t1 t2 t3 t4 t5 t6 t7 t8
    generalize (((((((((w1.setCell ⟨w.heap.size + 1, 0, none⟩ (.int .i64 0)).setCell ⟨w.heap.size + 1, 1, none⟩ (.int .i64 0)).setCell ⟨w.heap.size + 1, 2, none⟩ (.int .i64 0)).setCell ⟨w.heap.size + 1, 3, none⟩ (.int .i64 0)).setCell ⟨w.heap.size + 1, 4, none⟩ (.slice none 0 0)).setCell ⟨w.heap.size + 1, 5, none⟩ (.slice none 0 0)).setCell ⟨w.heap.size + 1, 6, none⟩ (.slice none 0 0)).setCell ⟨w.heap.size + 1, 7, none⟩ (.slice none 0 0)).setCell ⟨w.heap.size + 1, 8, none⟩ (.slice none 0 0)) = w9 at *
    refine bodyPost_ret (v := .tuple #[.agg #[.int .i64 0, .int .i64 0, .int .i64 0, .int .i64 0, .slice none 0 0, .slice none 0 0, .slice none 0 0, .slice none 0 0, .slice none 0 0], .iface 69 (.int .i64 fe)]) (by simp [results, Try.results11, go_sem, y0, y1, y2, y3, y4, y5, y6, y7, y8]) rfl ⟨_, _, rfl, by rw [FE.out]; exact Er.no HFE.out, by rw [placed_bad (by rw [FE.out]; exact HFE.out)]; exact zero_wo _ _, KZ.out.below B1.out B1.out.size (by omega)⟩
  have HF : Hid (Wd.wfault ks W = 0) := hf
  have PF : Hid (Wd.putFault ks W pl kd at_ = Wd.placeFault ks W pl kd at_) := by unfold Hid Wd.putFault; rw [if_pos hf]
  have RT : Hid (WRight ks W) := wright_of hf
  clear hf
  obtain ⟨x0, x1, x2, x3, x4, x5, x6, x7, x8⟩ := X1.out.cells
  go_wp2_with fail
  refine (cplace_any _ _ ks W pl kd at_ w1 (K.out.1.below B1.out) (H.out.below B1.out) RT.out).mono ?_
  rintro e w2 ⟨r, rfl, hr, hb2⟩
  clear x0 x1 x2 x3 x4 x5 x6 x7 x8
  have B2 : Hid (Below w.heap.size w w2) := B1.out.trans (hb2.mono B1.out.size)
  have X2 : Hid (Wx w2 w.heap.size (.int .i64 W.turn) (.int .i64 W.next) (.int .i64 W.wide) (.int .i64 W.high) (.slice p1 W.gs.length q1) (.slice p2 W.os.length q2) (.slice p3 W.gold.length q3) (.slice p4 W.us.length q4) (.slice p5 W.qs.length q5)) := X1.out.below hb2 X1.out.lt
  have Z2 : Hid (Wx w2 (w.heap.size + 1) (.int .i64 0) (.int .i64 0) (.int .i64 0) (.int .i64 0) (.slice none 0 0) (.slice none 0 0) (.slice none 0 0) (.slice none 0 0) (.slice none 0 0)) := Z1.out.below hb2 Z1.out.lt
  have S2 : Hid (w.heap.size + 2 ≤ w2.heap.size) := Nat.le_trans S1.out hb2.size
  clear hb2 B1 X1 Z1 S1
  rcases hr with ⟨hf, rfl⟩ | ⟨hf, rfl⟩
  case inr =>
    obtain ⟨fe, hfe⟩ : ∃ f, Wd.placeFault ks W pl kd at_ = f := ⟨_, rfl⟩
    have HFE : Hid (fe ≠ 0) := by rw [← hfe]; exact hf
    have FE : Hid (Wd.putFault ks W pl kd at_ = fe) := by unfold Hid; rw [PF.out]; exact hfe
    rw [hfe]
    clear hf hfe
    obtain ⟨z0, z1, z2, z3, z4, z5, z6, z7, z8⟩ := Z2.out.cells
    obtain ⟨t0, t1, t2, t3, t4, t5, t6, t7, t8⟩ := Z2.out.thaws
    have KZ : Hid (Kp (w.heap.size + 1) w2 (((((((((w2.setCell ⟨w.heap.size + 1, 0, none⟩ (.int .i64 0)).setCell ⟨w.heap.size + 1, 1, none⟩ (.int .i64 0)).setCell ⟨w.heap.size + 1, 2, none⟩ (.int .i64 0)).setCell ⟨w.heap.size + 1, 3, none⟩ (.int .i64 0)).setCell ⟨w.heap.size + 1, 4, none⟩ (.slice none 0 0)).setCell ⟨w.heap.size + 1, 5, none⟩ (.slice none 0 0)).setCell ⟨w.heap.size + 1, 6, none⟩ (.slice none 0 0)).setCell ⟨w.heap.size + 1, 7, none⟩ (.slice none 0 0)).setCell ⟨w.heap.size + 1, 8, none⟩ (.slice none 0 0))) := put_kp _ _ _ _ _ _ _ _ _ _ _
    obtain ⟨y0, y1, y2, y3, y4, y5, y6, y7, y8⟩ := (Z2.out.put (.int .i64 0) (.int .i64 0) (.int .i64 0) (.int .i64 0) (.slice none 0 0) (.slice none 0 0) (.slice none 0 0) (.slice none 0 0) (.slice none 0 0)).cells
    go_wp2
    clear z0 z1 z2 z3 z4 z5 z6 z7 z8 t0 t1 t2 t3 t4 t5 t6 t7 t8
    generalize (((((((((w2.setCell ⟨w.heap.size + 1, 0, none⟩ (.int .i64 0)).setCell ⟨w.heap.size + 1, 1, none⟩ (.int .i64 0)).setCell ⟨w.heap.size + 1, 2, none⟩ (.int .i64 0)).setCell ⟨w.heap.size + 1, 3, none⟩ (.int .i64 0)).setCell ⟨w.heap.size + 1, 4, none⟩ (.slice none 0 0)).setCell ⟨w.heap.size + 1, 5, none⟩ (.slice none 0 0)).setCell ⟨w.heap.size + 1, 6, none⟩ (.slice none 0 0)).setCell ⟨w.heap.size + 1, 7, none⟩ (.slice none 0 0)).setCell ⟨w.heap.size + 1, 8, none⟩ (.slice none 0 0)) = w9 at *
    refine bodyPost_ret (v := .tuple #[.agg #[.int .i64 0, .int .i64 0, .int .i64 0, .int .i64 0, .slice none 0 0, .slice none 0 0, .slice none 0 0, .slice none 0 0, .slice none 0 0], .iface 69 (.int .i64 fe)]) (by simp [results, Try.results11, go_sem, y0, y1, y2, y3, y4, y5, y6, y7, y8]) rfl ⟨_, _, rfl, by rw [FE.out]; exact Er.no HFE.out, by rw [placed_bad (by rw [FE.out]; exact HFE.out)]; exact zero_wo _ _, KZ.out.below B2.out B2.out.size (by omega)⟩
  obtain ⟨h40, hpl, hat, kn, k, rfl, hkn, hkk, hop⟩ := pf_zero hf
  have P0 : Hid (Wd.putFault ks W pl (kn : Nat) at_ = 0) := by unfold Hid; rw [PF.out]; exact hf
  have NU : Hid (Wd.newUnit ks W pl (kn : Nat) at_ = ⟨W.next, pl, (kn : Nat), at_, k.n0, 0, 0, 0⟩) := by unfold Hid Wd.newUnit; rw [Int.toNat_natCast, hkk]
  have L40 : Hid (W.us.length < 40) := by unfold Hid; omega
  have hnx : W.next < 1000000 := by omega
  have hn1 : 1 ≤ W.next := by
    have := (nums_ok RT.out.nums).1
    unfold Wd.off at this
    simp at this
    omega
  obtain ⟨xk, rfl, hxl, hxc⟩ := KC.out (by intro e; rw [e] at hkn; simp at hkn)
  have HK : Hid (Kc w (xk.add (kn * 11)) k ∧ (xk.add (kn * 11)).block < w.heap.size) := ⟨hxc kn k hkk, by rw [add_block]; exact hxl⟩
  have hki : (kn : Int) < (ks.length : Int) := by omega
  clear hf h40 hpl hat hkn hkk hop hxc hxl
  obtain ⟨x0, x1, x2, x3, x4, x5, x6, x7, x8⟩ := X2.out.cells
  go_wp2_with fail
  refine (copy_any _ W w2 (H.out.below B2.out) RT.out.len).mono ?_
  rintro e w3 ⟨u, rfl, ho, hb3⟩
  clear x0 x1 x2 x3 x4 x5 x6 x7 x8
  have B3 : Hid (Below w.heap.size w w3) := B2.out.trans (hb3.mono B2.out.size)
  have X3 : Hid (Wx w3 w.heap.size (.int .i64 W.turn) (.int .i64 W.next) (.int .i64 W.wide) (.int .i64 W.high) (.slice p1 W.gs.length q1) (.slice p2 W.os.length q2) (.slice p3 W.gold.length q3) (.slice p4 W.us.length q4) (.slice p5 W.qs.length q5)) := X2.out.below hb3 X2.out.lt
  have Z3 : Hid (Wx w3 (w.heap.size + 1) (.int .i64 0) (.int .i64 0) (.int .i64 0) (.int .i64 0) (.slice none 0 0) (.slice none 0 0) (.slice none 0 0) (.slice none 0 0) (.slice none 0 0)) := Z2.out.below hb3 Z2.out.lt
  have S3 : Hid (w.heap.size + 2 ≤ w3.heap.size) := Nat.le_trans S2.out hb3.size
  obtain ⟨v1, v2, v3, v4, v5, rfl, ⟨o1, o2, o3, o4, o5⟩, -, -, d14, -, -, d24, -, d34, -, d45⟩ := ho.mono S2.out
  have O1 : Hid (Ow w3 (w.heap.size + 2) v1 W.gs ∧ Ow w3 (w.heap.size + 2) v2 W.os ∧ Ow w3 (w.heap.size + 2) v3 W.gold ∧ Uno w3 (w.heap.size + 2) v4 W.us ∧ Jbo w3 (w.heap.size + 2) v5 W.qs) := ⟨o1, o2, o3, o4, o5⟩
  have DD : Hid (Dif v1 v4 ∧ Dif v2 v4 ∧ Dif v3 v4 ∧ Dif v5 v4) := ⟨d14, d24, d34, d45.symm⟩
  clear d14 d24 d34 d45
  obtain ⟨a1, b1, rfl⟩ := o1.len
  obtain ⟨a2, b2, rfl⟩ := o2.len
  obtain ⟨a3, b3, rfl⟩ := o3.len
  obtain ⟨a4, b4, rfl⟩ := o4.len
  obtain ⟨a5, b5, rfl⟩ := o5.len
  clear ho hb3 B2 X2 Z2 S2 o1 o2 o3 o4 o5
  obtain ⟨x0, x1, x2, x3, x4, x5, x6, x7, x8⟩ := X3.out.cells
  obtain ⟨t0, t1, t2, t3, t4, t5, t6, t7, t8⟩ := X3.out.thaws
  have K4 : Hid (Kp w.heap.size w3 (((((((((w3.setCell ⟨w.heap.size, 0, none⟩ (.int .i64 W.turn)).setCell ⟨w.heap.size, 1, none⟩ (.int .i64 W.next)).setCell ⟨w.heap.size, 2, none⟩ (.int .i64 W.wide)).setCell ⟨w.heap.size, 3, none⟩ (.int .i64 W.high)).setCell ⟨w.heap.size, 4, none⟩ (.slice a1 W.gs.length b1)).setCell ⟨w.heap.size, 5, none⟩ (.slice a2 W.os.length b2)).setCell ⟨w.heap.size, 6, none⟩ (.slice a3 W.gold.length b3)).setCell ⟨w.heap.size, 7, none⟩ (.slice a4 W.us.length b4)).setCell ⟨w.heap.size, 8, none⟩ (.slice a5 W.qs.length b5))) := put_kp _ _ _ _ _ _ _ _ _ _ _
  have X4 : Hid (Wx (((((((((w3.setCell ⟨w.heap.size, 0, none⟩ (.int .i64 W.turn)).setCell ⟨w.heap.size, 1, none⟩ (.int .i64 W.next)).setCell ⟨w.heap.size, 2, none⟩ (.int .i64 W.wide)).setCell ⟨w.heap.size, 3, none⟩ (.int .i64 W.high)).setCell ⟨w.heap.size, 4, none⟩ (.slice a1 W.gs.length b1)).setCell ⟨w.heap.size, 5, none⟩ (.slice a2 W.os.length b2)).setCell ⟨w.heap.size, 6, none⟩ (.slice a3 W.gold.length b3)).setCell ⟨w.heap.size, 7, none⟩ (.slice a4 W.us.length b4)).setCell ⟨w.heap.size, 8, none⟩ (.slice a5 W.qs.length b5)) w.heap.size (.int .i64 W.turn) (.int .i64 W.next) (.int .i64 W.wide) (.int .i64 W.high) (.slice a1 W.gs.length b1) (.slice a2 W.os.length b2) (.slice a3 W.gold.length b3) (.slice a4 W.us.length b4) (.slice a5 W.qs.length b5)) := X3.out.put (.int .i64 W.turn) (.int .i64 W.next) (.int .i64 W.wide) (.int .i64 W.high) (.slice a1 W.gs.length b1) (.slice a2 W.os.length b2) (.slice a3 W.gold.length b3) (.slice a4 W.us.length b4) (.slice a5 W.qs.length b5)
  go_upto_region 8 with fail
  clear x0 x1 x2 x3 x4 x5 x6 x7 x8 t0 t1 t2 t3 t4 t5 t6 t7 t8
  generalize (((((((((w3.setCell ⟨w.heap.size, 0, none⟩ (.int .i64 W.turn)).setCell ⟨w.heap.size, 1, none⟩ (.int .i64 W.next)).setCell ⟨w.heap.size, 2, none⟩ (.int .i64 W.wide)).setCell ⟨w.heap.size, 3, none⟩ (.int .i64 W.high)).setCell ⟨w.heap.size, 4, none⟩ (.slice a1 W.gs.length b1)).setCell ⟨w.heap.size, 5, none⟩ (.slice a2 W.os.length b2)).setCell ⟨w.heap.size, 6, none⟩ (.slice a3 W.gold.length b3)).setCell ⟨w.heap.size, 7, none⟩ (.slice a4 W.us.length b4)).setCell ⟨w.heap.size, 8, none⟩ (.slice a5 W.qs.length b5)) = w4 at *
  have B4 : Hid (Below w.heap.size w w4) := K4.out.below B3.out B3.out.size (Nat.le_refl _)
  have Z4 : Hid (Wx w4 (w.heap.size + 1) (.int .i64 0) (.int .i64 0) (.int .i64 0) (.int .i64 0) (.slice none 0 0) (.slice none 0 0) (.slice none 0 0) (.slice none 0 0) (.slice none 0 0)) := Z3.out.kp K4.out (by omega)
  have S4 : Hid (w.heap.size + 2 ≤ w4.heap.size) := Nat.le_trans S3.out K4.out.size
  have O4 : Hid (Ow w4 (w.heap.size + 2) (.slice a1 W.gs.length b1) W.gs ∧ Ow w4 (w.heap.size + 2) (.slice a2 W.os.length b2) W.os ∧ Ow w4 (w.heap.size + 2) (.slice a3 W.gold.length b3) W.gold ∧ Uno w4 (w.heap.size + 2) (.slice a4 W.us.length b4) W.us ∧ Jbo w4 (w.heap.size + 2) (.slice a5 W.qs.length b5) W.qs) :=
    ⟨O1.out.1.kp K4.out (by omega), O1.out.2.1.kp K4.out (by omega), O1.out.2.2.1.kp K4.out (by omega), O1.out.2.2.2.1.kp K4.out (by omega), O1.out.2.2.2.2.kp K4.out (by omega)⟩
  clear K4 B3 X3 Z3 S3 O1
  -- the region that draws
  refine wp_region_two [(true, 0), (true, 1), (true, 2), (true, 3), (true, 4), (true, 5), (true, 6), (true, 7), (true, 8), (true, 9), (true, 10), (true, 11), (true, 12), (false, 13), (false, 14)] [(false, 15), (false, 16)] (fun V => V.cell? ⟨w.heap.size, 7, none⟩ = some (.slice a4 W.us.length b4) ∧ V.cell? ⟨w.heap.size, 1, none⟩ = some (.int .i64 W.next) ∧ V.cell? ⟨(xk.add (kn * 11)).block, (xk.add (kn * 11)).off + 1, none⟩ = some (.int .i64 k.n0)) (by kernel_rfl) (by kernel_rfl) (by kernel_rfl) (by kernel_rfl) (by kernel_rfl) ?_ ?_
  · obtain ⟨-, x1, -, -, -, -, -, x7, -⟩ := X4.out.cells
    exact ⟨x7, x1, (HK.out.1.below B4.out HK.out.2).c1⟩
  have X5 : Hid (Wx { w4 with drawn := w4.drawn + 1 } w.heap.size (.int .i64 W.turn) (.int .i64 W.next) (.int .i64 W.wide) (.int .i64 W.high) (.slice a1 W.gs.length b1) (.slice a2 W.os.length b2) (.slice a3 W.gold.length b3) (.slice a4 W.us.length b4) (.slice a5 W.qs.length b5)) := X4.out
  have B5 : Hid (Below w.heap.size w { w4 with drawn := w4.drawn + 1 }) := B4.out.drew
  have Z5 : Hid (Wx { w4 with drawn := w4.drawn + 1 } (w.heap.size + 1) (.int .i64 0) (.int .i64 0) (.int .i64 0) (.int .i64 0) (.slice none 0 0) (.slice none 0 0) (.slice none 0 0) (.slice none 0 0) (.slice none 0 0)) := Z4.out
  have S5 : Hid (w.heap.size + 2 ≤ ({ w4 with drawn := w4.drawn + 1 } : World).heap.size) := S4.out
  have D5 : Hid (Below w4.heap.size w4 { w4 with drawn := w4.drawn + 1 }) := (Below.refl _ _).drew
  generalize ({ w4 with drawn := w4.drawn + 1 } : World) = w5 at *
  have O5 : Hid (Ow w5 (w.heap.size + 2) (.slice a1 W.gs.length b1) W.gs ∧ Ow w5 (w.heap.size + 2) (.slice a2 W.os.length b2) W.os ∧ Ow w5 (w.heap.size + 2) (.slice a3 W.gold.length b3) W.gold ∧ Uno w5 (w.heap.size + 2) (.slice a4 W.us.length b4) W.us ∧ Jbo w5 (w.heap.size + 2) (.slice a5 W.qs.length b5) W.qs) :=
    ⟨O4.out.1.below D5.out, O4.out.2.1.below D5.out, O4.out.2.2.1.below D5.out, O4.out.2.2.2.1.below D5.out, O4.out.2.2.2.2.below D5.out⟩
  clear X4 B4 Z4 S4 O4 D5
  refine headT_read rfl (.pointer (some ⟨w.heap.size, 7, none⟩)) (by go_simp) (fun V hV => by go_simp) ?_
  go_simp
  refine headT_read rfl (.slice a4 W.us.length b4) (by go_simp) (fun V hV => by obtain ⟨f7, f1, fk⟩ := hV; go_simp) ?_
  go_simp
  refine headT_read rfl (.pointer (some ⟨w.heap.size, 1, none⟩)) (by go_simp) (fun V hV => by go_simp) ?_
  go_simp
  refine headT_read rfl (.int .i64 W.next) (by go_simp) (fun V hV => by obtain ⟨f7, f1, fk⟩ := hV; go_simp) ?_
  go_simp
  refine headT_read rfl (.int .i64 pl) (by go_simp) (fun V hV => by go_simp) ?_
  go_simp
  refine headT_read rfl (.int .i64 (kn : Nat)) (by go_simp) (fun V hV => by go_simp) ?_
  go_simp
  refine headT_read rfl (.int .i64 at_) (by go_simp) (fun V hV => by go_simp) ?_
  go_simp
  refine headT_read rfl (.slice (some xk) ks.length qk) (by go_simp) (fun V hV => by go_simp) ?_
  go_simp
  refine headT_read rfl (.int .i64 (kn : Nat)) (by go_simp) (fun V hV => by go_simp) ?_
  go_simp
  refine headT_read rfl (.pointer (some (xk.add (kn * 11)))) (by go_simp) (fun V hV => by go_simp) ?_
  go_simp
  refine headT_read rfl (.pointer (some ⟨(xk.add (kn * 11)).block, (xk.add (kn * 11)).off + 1, none⟩)) (by go_simp) (fun V hV => by go_simp) ?_
  go_simp
  refine headT_read rfl (.int .i64 k.n0) (by go_simp) (fun V hV => by obtain ⟨f7, f1, fk⟩ := hV; go_simp) ?_
  go_simp
  refine headT_read rfl (.agg #[.int .i64 W.next, .int .i64 pl, .int .i64 (kn : Nat), .int .i64 at_, .int .i64 k.n0, .int .i64 0, .int .i64 0, .int .i64 0]) (by go_simp) (fun V hV => by go_simp) ?_
  go_simp
  have CL : Hid (∀ V, Wx V w.heap.size (.int .i64 W.turn) (.int .i64 W.next) (.int .i64 W.wide) (.int .i64 W.high) (.slice a1 W.gs.length b1) (.slice a2 W.os.length b2) (.slice a3 W.gold.length b3) (.slice a4 W.us.length b4) (.slice a5 W.qs.length b5) → Below w.heap.size w V → V.cell? ⟨w.heap.size, 7, none⟩ = some (.slice a4 W.us.length b4) ∧ V.cell? ⟨w.heap.size, 1, none⟩ = some (.int .i64 W.next) ∧ V.cell? ⟨(xk.add (kn * 11)).block, (xk.add (kn * 11)).off + 1, none⟩ = some (.int .i64 k.n0)) := fun V hX hB => by
    obtain ⟨-, x1, -, -, -, -, -, x7, -⟩ := hX.cells
    exact ⟨x7, x1, (HK.out.1.below hB HK.out.2).c1⟩
  have BA : Hid (Below w5.heap.size w5 (w5.alloc (.cells #[.int .i64 W.next, .int .i64 pl, .int .i64 (kn : Nat), .int .i64 at_, .int .i64 k.n0, .int .i64 0, .int .i64 0, .int .i64 0] 44))) := (Below.refl _ _).alloc (Nat.le_refl _) _
  have SA : Hid ((w5.alloc (.cells #[.int .i64 W.next, .int .i64 pl, .int .i64 (kn : Nat), .int .i64 at_, .int .i64 k.n0, .int .i64 0, .int .i64 0, .int .i64 0] 44)).heap.size = w5.heap.size + 1) := by unfold Hid; simp
  have UA : Hid (Unc (w5.alloc (.cells #[.int .i64 W.next, .int .i64 pl, .int .i64 (kn : Nat), .int .i64 at_, .int .i64 k.n0, .int .i64 0, .int .i64 0, .int .i64 0] 44)) ⟨w5.heap.size, 0, none⟩ (⟨W.next, pl, (kn : Nat), at_, k.n0, 0, 0, 0⟩ : UnV)) := Unc.mk' (w := w5) (⟨W.next, pl, (kn : Nat), at_, k.n0, 0, 0, 0⟩ : UnV) rfl
  have OA : Hid (Uno (w5.alloc (.cells #[.int .i64 W.next, .int .i64 pl, .int .i64 (kn : Nat), .int .i64 at_, .int .i64 k.n0, .int .i64 0, .int .i64 0, .int .i64 0] 44)) (w.heap.size + 2) (.slice a4 W.us.length b4) W.us) := O5.out.2.2.2.1.alloc _
  have XA : Hid (Wx (w5.alloc (.cells #[.int .i64 W.next, .int .i64 pl, .int .i64 (kn : Nat), .int .i64 at_, .int .i64 k.n0, .int .i64 0, .int .i64 0, .int .i64 0] 44)) w.heap.size (.int .i64 W.turn) (.int .i64 W.next) (.int .i64 W.wide) (.int .i64 W.high) (.slice a1 W.gs.length b1) (.slice a2 W.os.length b2) (.slice a3 W.gold.length b3) (.slice a4 W.us.length b4) (.slice a5 W.qs.length b5)) := X5.out.below BA.out X5.out.lt
  have BB : Hid (Below w.heap.size w (w5.alloc (.cells #[.int .i64 W.next, .int .i64 pl, .int .i64 (kn : Nat), .int .i64 at_, .int .i64 k.n0, .int .i64 0, .int .i64 0, .int .i64 0] 44))) := B5.out.trans (BA.out.mono B5.out.size)
  refine headT_value rfl (.slice (some ⟨w5.heap.size, 0, none⟩) 1 1) (w5.alloc (.cells #[.int .i64 W.next, .int .i64 pl, .int .i64 (kn : Nat), .int .i64 at_, .int .i64 k.n0, .int .i64 0, .int .i64 0, .int .i64 0] 44)) (by go_simp) (by go_simp) (CL.out _ XA.out BB.out) ?_
  go_simp
  generalize (w5.alloc (.cells #[.int .i64 W.next, .int .i64 pl, .int .i64 (kn : Nat), .int .i64 at_, .int .i64 k.n0, .int .i64 0, .int .i64 0, .int .i64 0] 44)) = wa at *
  obtain ⟨i0, hi, hz0, hz1, hz2⟩ := info_parts info_un
  obtain ⟨g, cap, w6, hr, ho6, hg6, ha6, hl6⟩ := run_append_lies (P := Try.prog) wa 26 26 (w.heap.size + 2) 44 i0 _ 8 64 Try.underlying26 hi hz0 hz1 hz2 rfl (by decide) (.slice a4 W.us.length b4) W.us.length _ OA.out ⟨w5.heap.size, 0, none⟩ 1 1 (UnV.cs (⟨W.next, pl, (kn : Nat), at_, k.n0, 0, 0, 0⟩ : UnV)) rfl (fun j u hj => by
    have hd := UA.out
    have hjn : j < 8 := (List.getElem?_eq_some_iff.1 hj).1
    rw [Addr.add_lit, Nat.zero_add]
    match j, hjn, hj with
    | 0, _, hj => simp [UnV.cs] at hj; subst hj; exact hd.c0
    | 1, _, hj => simp [UnV.cs] at hj; subst hj; exact hd.c1
    | 2, _, hj => simp [UnV.cs] at hj; subst hj; exact hd.c2
    | 3, _, hj => simp [UnV.cs] at hj; subst hj; exact hd.c3
    | 4, _, hj => simp [UnV.cs] at hj; subst hj; exact hd.c4
    | 5, _, hj => simp [UnV.cs] at hj; subst hj; exact hd.c5
    | 6, _, hj => simp [UnV.cs] at hj; subst hj; exact hd.c6
    | 7, _, hj => simp [UnV.cs] at hj; subst hj; exact hd.c7) (fun u hu => by
    simp [UnV.cs] at hu
    rcases hu with rfl | rfl | rfl | rfl | rfl | rfl | rfl | rfl <;> rfl) (by decide) (by have := L40.out; unfold maxLen; omega) (by have := L40.out; omega) (by have := S5.out; have := SA.out; omega) _ rfl
  have ON : Hid (Uno w6 (w.heap.size + 2) (.slice (some ⟨g, 0, none⟩) (W.us.length + 1) cap) (W.us ++ [(⟨W.next, pl, (kn : Nat), at_, k.n0, 0, 0, 0⟩ : UnV)])) := by
    unfold Hid Uno
    rw [List.length_append, List.flatMap_append]
    simpa using ho6
  have GB : Hid (∀ b, ((.slice a4 W.us.length b4) : Value).ownBlock = some b → w.heap.size + 2 ≤ b) := fun b hb => (OA.out.block b hb).1
  have BG : Hid (Below (w.heap.size + 2) wa w6) := (Below.refl _ _).grown hg6 (by have := S5.out; have := SA.out; omega) (fun b hb => GB.out b hb)
  have X6 : Hid (Wx w6 w.heap.size (.int .i64 W.turn) (.int .i64 W.next) (.int .i64 W.wide) (.int .i64 W.high) (.slice a1 W.gs.length b1) (.slice a2 W.os.length b2) (.slice a3 W.gold.length b3) (.slice a4 W.us.length b4) (.slice a5 W.qs.length b5)) := XA.out.below BG.out (by omega)
  have Z6 : Hid (Wx w6 (w.heap.size + 1) (.int .i64 0) (.int .i64 0) (.int .i64 0) (.int .i64 0) (.slice none 0 0) (.slice none 0 0) (.slice none 0 0) (.slice none 0 0) (.slice none 0 0)) := (Z5.out.below BA.out Z5.out.lt).below BG.out (by omega)
  have B6 : Hid (Below w.heap.size w w6) := BB.out.trans (BG.out.mono (by omega))
  refine headT_value rfl (.slice (some ⟨g, 0, none⟩) (W.us.length + 1) cap) w6 (by go_simp) (exec_append _ _ _ _ rfl _ _ (by go_simp) (by go_simp) hr) (CL.out _ X6.out B6.out) ?_
  have S6 : Hid (w.heap.size + 2 ≤ w6.heap.size) := by have := S5.out; have := SA.out; have := BG.out.size; unfold Hid; omega
  have N1 : Hid (Ow w6 (w.heap.size + 2) (.slice a1 W.gs.length b1) W.gs) := ((O5.out.1).below BA.out).kept hg6 DD.out.1.ne
  have N2 : Hid (Ow w6 (w.heap.size + 2) (.slice a2 W.os.length b2) W.os) := ((O5.out.2.1).below BA.out).kept hg6 DD.out.2.1.ne
  have N3 : Hid (Ow w6 (w.heap.size + 2) (.slice a3 W.gold.length b3) W.gold) := ((O5.out.2.2.1).below BA.out).kept hg6 DD.out.2.2.1.ne
  have N5 : Hid (Jbo w6 (w.heap.size + 2) (.slice a5 W.qs.length b5) W.qs) := ((O5.out.2.2.2.2).below BA.out).kept hg6 DD.out.2.2.2.ne
  clear hr ho6 hg6 ha6 hl6 hi hz0 hz1 hz2 BG GB OA UA XA BB BA X5 Z5 S5 B5 O5 CL SA DD
  go_simp
  unfold wpHeadT
  refine sched_value rfl (.pointer (some ⟨w.heap.size, 7, none⟩)) w6 (by go_simp) (by go_simp) trivial ?_
  go_simp
  have K7 : Hid (Kp w.heap.size w6 (w6.setCell ⟨w.heap.size, 7, none⟩ (.slice (some ⟨g, 0, none⟩) (W.us.length + 1) cap))) := Kp.set _ _ _
  have X7 : Hid (Wx (w6.setCell ⟨w.heap.size, 7, none⟩ (.slice (some ⟨g, 0, none⟩) (W.us.length + 1) cap)) w.heap.size (.int .i64 W.turn) (.int .i64 W.next) (.int .i64 W.wide) (.int .i64 W.high) (.slice a1 W.gs.length b1) (.slice a2 W.os.length b2) (.slice a3 W.gold.length b3) (.slice (some ⟨g, 0, none⟩) (W.us.length + 1) cap) (.slice a5 W.qs.length b5)) := X6.out.set7 _
  have t7 := X6.out.thaw 7
  obtain ⟨-, -, -, -, -, -, -, x7, -⟩ := X6.out.cells
  refine sched_skip rfl (w6.setCell ⟨w.heap.size, 7, none⟩ (.slice (some ⟨g, 0, none⟩) (W.us.length + 1) cap)) (by go_simp) (by go_simp) trivial ?_
  go_simp
  clear t7 x7
  generalize (w6.setCell ⟨w.heap.size, 7, none⟩ (.slice (some ⟨g, 0, none⟩) (W.us.length + 1) cap)) = w7 at *
  have B7 : Hid (Below w.heap.size w w7) := K7.out.below B6.out B6.out.size (Nat.le_refl _)
  have Z7 : Hid (Wx w7 (w.heap.size + 1) (.int .i64 0) (.int .i64 0) (.int .i64 0) (.int .i64 0) (.slice none 0 0) (.slice none 0 0) (.slice none 0 0) (.slice none 0 0) (.slice none 0 0)) := Z6.out.kp K7.out (by omega)
  have S7 : Hid (w.heap.size + 2 ≤ w7.heap.size) := Nat.le_trans S6.out K7.out.size
  have M : Hid (Ow w7 (w.heap.size + 2) (.slice a1 W.gs.length b1) W.gs ∧ Ow w7 (w.heap.size + 2) (.slice a2 W.os.length b2) W.os ∧ Ow w7 (w.heap.size + 2) (.slice a3 W.gold.length b3) W.gold ∧ Uno w7 (w.heap.size + 2) (.slice (some ⟨g, 0, none⟩) (W.us.length + 1) cap) (W.us ++ [(⟨W.next, pl, (kn : Nat), at_, k.n0, 0, 0, 0⟩ : UnV)]) ∧ Jbo w7 (w.heap.size + 2) (.slice a5 W.qs.length b5) W.qs) :=
    ⟨N1.out.kp K7.out (by omega), N2.out.kp K7.out (by omega), N3.out.kp K7.out (by omega), ON.out.kp K7.out (by omega), N5.out.kp K7.out (by omega)⟩
  clear K7 B6 Z6 S6 N1 N2 N3 N5 ON X6
  unfold wpSched
  have wn : IntKind.i64.wrap (W.next + 1) = W.next + 1 := by rw [IntKind.wrap_i64]; omega
  have K8 : Hid (Kp w.heap.size w7 (w7.setCell ⟨w.heap.size, 1, none⟩ (.int .i64 (W.next + 1)))) := Kp.set _ _ _
  have X8 : Hid (Wx (w7.setCell ⟨w.heap.size, 1, none⟩ (.int .i64 (W.next + 1))) w.heap.size (.int .i64 W.turn) (.int .i64 (W.next + 1)) (.int .i64 W.wide) (.int .i64 W.high) (.slice a1 W.gs.length b1) (.slice a2 W.os.length b2) (.slice a3 W.gold.length b3) (.slice (some ⟨g, 0, none⟩) (W.us.length + 1) cap) (.slice a5 W.qs.length b5)) := X7.out.set1 _
  have t1 := X7.out.thaw 1
  obtain ⟨-, x1, -, -, -, -, -, -, -⟩ := X7.out.cells
  go_upto_region 10 with fail
  clear t1 x1 wn
  generalize (w7.setCell ⟨w.heap.size, 1, none⟩ (.int .i64 (W.next + 1))) = w8 at *
  have B8 : Hid (Below w.heap.size w w8) := K8.out.below B7.out B7.out.size (Nat.le_refl _)
  have Z8 : Hid (Wx w8 (w.heap.size + 1) (.int .i64 0) (.int .i64 0) (.int .i64 0) (.int .i64 0) (.slice none 0 0) (.slice none 0 0) (.slice none 0 0) (.slice none 0 0) (.slice none 0 0)) := Z7.out.kp K8.out (by omega)
  have S8 : Hid (w.heap.size + 2 ≤ w8.heap.size) := Nat.le_trans S7.out K8.out.size
  have M8 : Hid (Ow w8 (w.heap.size + 2) (.slice a1 W.gs.length b1) W.gs ∧ Ow w8 (w.heap.size + 2) (.slice a2 W.os.length b2) W.os ∧ Ow w8 (w.heap.size + 2) (.slice a3 W.gold.length b3) W.gold ∧ Uno w8 (w.heap.size + 2) (.slice (some ⟨g, 0, none⟩) (W.us.length + 1) cap) (W.us ++ [(⟨W.next, pl, (kn : Nat), at_, k.n0, 0, 0, 0⟩ : UnV)]) ∧ Jbo w8 (w.heap.size + 2) (.slice a5 W.qs.length b5) W.qs) :=
    ⟨M.out.1.kp K8.out (by omega), M.out.2.1.kp K8.out (by omega), M.out.2.2.1.kp K8.out (by omega), M.out.2.2.2.1.kp K8.out (by omega), M.out.2.2.2.2.kp K8.out (by omega)⟩
  clear K8 B7 Z7 S7 M X7
  obtain ⟨x0, x1, x2, x3, x4, x5, x6, x7, x8⟩ := X8.out.cells
  obtain ⟨z0, z1, z2, z3, z4, z5, z6, z7, z8⟩ := Z8.out.cells
  obtain ⟨t0, t1, t2, t3, t4, t5, t6, t7, t8⟩ := Z8.out.thaws
  have KZ : Hid (Kp (w.heap.size + 1) w8 (((((((((w8.setCell ⟨w.heap.size + 1, 0, none⟩ (.int .i64 W.turn)).setCell ⟨w.heap.size + 1, 1, none⟩ (.int .i64 (W.next + 1))).setCell ⟨w.heap.size + 1, 2, none⟩ (.int .i64 W.wide)).setCell ⟨w.heap.size + 1, 3, none⟩ (.int .i64 W.high)).setCell ⟨w.heap.size + 1, 4, none⟩ (.slice a1 W.gs.length b1)).setCell ⟨w.heap.size + 1, 5, none⟩ (.slice a2 W.os.length b2)).setCell ⟨w.heap.size + 1, 6, none⟩ (.slice a3 W.gold.length b3)).setCell ⟨w.heap.size + 1, 7, none⟩ (.slice (some ⟨g, 0, none⟩) (W.us.length + 1) cap)).setCell ⟨w.heap.size + 1, 8, none⟩ (.slice a5 W.qs.length b5))) := put_kp _ _ _ _ _ _ _ _ _ _ _
  obtain ⟨y0, y1, y2, y3, y4, y5, y6, y7, y8⟩ := (Z8.out.put (.int .i64 W.turn) (.int .i64 (W.next + 1)) (.int .i64 W.wide) (.int .i64 W.high) (.slice a1 W.gs.length b1) (.slice a2 W.os.length b2) (.slice a3 W.gold.length b3) (.slice (some ⟨g, 0, none⟩) (W.us.length + 1) cap) (.slice a5 W.qs.length b5)).cells
  go_wp2
  clear x0 x1 x2 x3 x4 x5 x6 x7 x8 z0 z1 z2 z3 z4 z5 z6 z7 z8 t0 t1 t2 t3 t4 t5 t6 t7 t8
  generalize (((((((((w8.setCell ⟨w.heap.size + 1, 0, none⟩ (.int .i64 W.turn)).setCell ⟨w.heap.size + 1, 1, none⟩ (.int .i64 (W.next + 1))).setCell ⟨w.heap.size + 1, 2, none⟩ (.int .i64 W.wide)).setCell ⟨w.heap.size + 1, 3, none⟩ (.int .i64 W.high)).setCell ⟨w.heap.size + 1, 4, none⟩ (.slice a1 W.gs.length b1)).setCell ⟨w.heap.size + 1, 5, none⟩ (.slice a2 W.os.length b2)).setCell ⟨w.heap.size + 1, 6, none⟩ (.slice a3 W.gold.length b3)).setCell ⟨w.heap.size + 1, 7, none⟩ (.slice (some ⟨g, 0, none⟩) (W.us.length + 1) cap)).setCell ⟨w.heap.size + 1, 8, none⟩ (.slice a5 W.qs.length b5)) = w9 at *
  refine bodyPost_ret (v := .tuple #[.agg #[.int .i64 W.turn, .int .i64 (W.next + 1), .int .i64 W.wide, .int .i64 W.high, .slice a1 W.gs.length b1, .slice a2 W.os.length b2, .slice a3 W.gold.length b3, .slice (some ⟨g, 0, none⟩) (W.us.length + 1) cap, .slice a5 W.qs.length b5], .nilIface]) (by simp [results, Try.results11, go_sem, y0, y1, y2, y3, y4, y5, y6, y7, y8]) rfl ⟨_, _, rfl, by rw [P0.out]; exact Er.nil, ?_, KZ.out.below B8.out B8.out.size (by omega)⟩
  rw [placed_ok P0.out]
  unfold Wd.put
  rw [NU.out]
  exact ⟨_, _, _, _, _, rfl, (M8.out.1.kp KZ.out (by omega)).mono (by omega), (M8.out.2.1.kp KZ.out (by omega)).mono (by omega), (M8.out.2.2.1.kp KZ.out (by omega)).mono (by omega), (M8.out.2.2.2.1.kp KZ.out (by omega)).mono (by omega), (M8.out.2.2.2.2.kp KZ.out (by omega)).mono (by omega)⟩
end Go.Proofs.Ytghkchnfcfnejaa

namespace Go.Proofs.Ytghkchnfcfnejaa
open Go.RowKit
set_option linter.unusedVariables false

theorem and_low (n : Nat) (h : n ≤ 144) : n &&& 4294967295 = n := by
  have := Nat.and_two_pow_sub_one_eq_mod n 32
  rw [show 2 ^ 32 - 1 = 4294967295 from rfl] at this
  rw [this]
  exact Nat.mod_eq_of_lt (by omega)

set_option maxHeartbeats 1000000 in
theorem mul64_one (n : Nat) (w : World) (h : n ≤ 144) :
    Calls Try.prog 66 #[.int .u64 1, .int .u64 (n : Nat)] w fun e w' => e = .returned (.tuple #[.int .u64 0, .int .u64 (n : Nat)]) ∧ w' = w := by
  have e1 : bits BinOp.and IntKind.u64 1 4294967295 = 1 := bits_and_u64_nat 1 4294967295 (by omega) (by omega)
  have e2 : bits BinOp.and IntKind.u64 (n : Int) 4294967295 = (n : Int) := by
    have := bits_and_u64_nat n 4294967295 (by omega) (by omega)
    rw [and_low n h] at this
    exact this
  have e3 : (n : Int) / 4294967296 = 0 := by omega
  have e4 : bits BinOp.and IntKind.u64 0 4294967295 = 0 := bits_and_u64_nat 0 4294967295 (by omega) (by omega)
  go_enter Try.func66, Try.ntmps66
  go_wp2
  go_ret2
  exact ⟨rfl, rfl⟩

set_option maxHeartbeats 1000000 in
theorem mul_one (n : Nat) (w : World) (h : n ≤ 144) :
    Calls Try.prog 44 #[.int .u64 1, .int .u64 (n : Nat)] w fun e w' => e = .returned (.tuple #[.int .u64 0, .int .u64 (n : Nat)]) ∧ w' = w := by
  go_enter Try.func44, Try.ntmps44
  go_wp2_with (go_at_call 66; refine (mul64_one _ _ h).mono ?_; rintro e w' ⟨rfl, rfl⟩)
  go_ret2
  exact ⟨rfl, rfl⟩

theorem wpList_copy_is {P : Program} (w : World) {ops : Array Oper} {rest : List Oper} {o : Oper} {a : Act} {Q : Exit → Act → World → Prop} (hgd : o.guard = none) (s x : Operand) (t tx : TypeId)
    (ho : o.op = .call { callee := .builtin .copy, args := #[s, x], argTypes := #[t, tx] }) (v xv v' : Value) (w' : World) (hv : a.eval s = v) (hx : a.eval x = xv)
    (hrun : (Builtin.copy_ #[t, tx] o.type #[v, xv]).run P w = .ok v' w') (h : wpList P ops Q rest (a.put o.dst v') w') : wpList P ops Q (o :: rest) a w :=
  wpList_plain hgd fun K hK => by
    unfold Oper.wp
    simp [execOp, ho, resolve, invoke, builtin, hv, hx, hrun, Result.andThen]
    exact hK _ _ h

/-- the first m are vv, of n. -/
def rpCells (vv : Int) (n m : Nat) : Array Value := (List.replicate m (Value.int .i64 vv) ++ List.replicate (n - m) (Value.int .i64 0)).toArray
def Rp (vv : Int) (w : World) (b n m : Nat) : Prop := w.heap[b]? = some (.cells (rpCells vv n m) 3 (0, 0))
theorem Rp.bk {vv : Int} {w : World} {b n : Nat} (h : Rp vv w b n n) : Bk w b (List.replicate n vv) #[] := by
  unfold Rp at h
  unfold Bk
  rw [h]
  simp [intCells, rpCells]
theorem Rp.cell {vv : Int} {w : World} {b n m : Nat} (h : Rp vv w b n m) {i : Nat} (hi : i < m) : w.cell? ⟨b, i, none⟩ = some (.int .i64 vv) := by
  unfold Rp at h
  simp only [World.cell?, h]
  simp [rpCells, List.getElem?_append, hi]
theorem Rp.lt {vv : Int} {w : World} {b n m : Nat} (h : Rp vv w b n m) : b < w.heap.size := lt_of_block h
theorem Rp.drewN {vv : Int} {w : World} {b n m : Nat} (h : Rp vv w b n m) (k : Nat) : Rp vv (w.drewN k) b n m := h

theorem info_int1 : (Try.prog.info? 3).map (·.size) = some 1 := by kernel_rfl

theorem rep_more (a z : Value) (n m k : Nat) (h : m + k ≤ n) : (List.replicate m a ++ List.replicate (n - m) z).take m ++ List.replicate k a ++ (List.replicate m a ++ List.replicate (n - m) z).drop (m + k) = List.replicate (m + k) a ++ List.replicate (n - (m + k)) z := by
  rw [List.take_left' (by simp), List.drop_append, List.length_replicate, List.drop_eq_nil_of_le (by simp), List.nil_append, List.drop_replicate, List.replicate_append_replicate]
  congr 2
  omega

/-- k more of them. -/
theorem rp_copy (vv : Int) (w : World) (b n m k : Nat) (dLen dCap sLen sCap : Nat) (x : Addr) (h : Rp vv w b n m) (hn : k = Nat.min sLen dLen) (hk : m + k ≤ n) (hs : ∀ j, j < k → w.cell? (x.add j) = some (.int .i64 vv)) :
    (Builtin.copy_ #[23, 23] 3 #[.slice (some ⟨b, m, none⟩) dLen dCap, .slice (some x) sLen sCap]).run Try.prog w = .ok (.int .i64 (k : Nat)) (w.setRow b (rpCells vv n (m + k))) ∧ Rp vv (w.setRow b (rpCells vv n (m + k))) b n (m + k) ∧ Kp b w (w.setRow b (rpCells vv n (m + k))) := by
  unfold Rp at h
  have r := run_copy_row (P := Try.prog) w 23 23 3 3 b m dLen dCap x sLen sCap _ 3 (List.replicate k (.int .i64 vv)) Try.underlying23 info_int1 h (by simp [hn]) (fun j v hv => by
    rw [List.getElem?_replicate] at hv
    split at hv
    · injection hv with hv
      rw [← hv]
      exact hs j (by assumption)
    · cases hv) (by simp [rpCells]; omega) (fun v hv => by rw [List.eq_of_mem_replicate hv]; rfl)
  rw [List.length_replicate, show (rpCells vv n m).toList = List.replicate m (Value.int .i64 vv) ++ List.replicate (n - m) (Value.int .i64 0) from rfl, rep_more _ _ n m k hk] at r
  exact ⟨r, setRow_heap w b _ _ _ _ h, ⟨rfl, rfl, rfl, by simp, fun i _ hi => setRow_other w b i _ hi⟩⟩

set_option maxRecDepth 100000 in
set_option maxHeartbeats 2000000 in
theorem repeat_ok (vv : Int) (u : Value) (n : Nat) (w : World) (hu : Ro w u [vv]) (n0 : 0 < n) (n1 : n ≤ 144) :
    Calls Try.prog 24 #[u, .int .i64 (n : Nat)] w fun e w' => ∃ b, e = .returned (.slice (some ⟨b, 0, none⟩) n n) ∧ w.heap.size ≤ b ∧ Bk w' b (List.replicate n vv) #[] ∧ Below w.heap.size w w' := by
  obtain ⟨a, c, rfl, c1, c2, ca⟩ := hu
  obtain ⟨x, rfl, xl, hx⟩ := ca (by simp)
  have cx : Hid (w.cell? (x.add 0) = some (.int .i64 vv) ∧ x.block < w.heap.size) := ⟨hx 0 _ rfl, xl⟩
  clear ca hx xl
  simp only [List.length_cons, List.length_nil, Nat.zero_add] at c1 ⊢
  go_enter Try.func24, Try.ntmps24
  go_wp2_with fail
  refine (mul_one _ _ n1).mono ?_
  rintro e w' ⟨rfl, rfl⟩
  have h9 : ¬ (9223372036854775807 : Int) < (n : Int) := by omega
  go_wp2_with (at_make; obtain ⟨i0, hi, hz0, hz1, hz2⟩ := info_parts info_int; refine wpList_make_full _ rfl _ _ 23 rfl w'.heap.size 3 i0 (.int .i64 0) 1 Try.underlying23 hi hz0 hz1 _ _ _ _ n rfl rfl rfl rfl (by rw [hz2]; omega) (by unfold maxLen; omega) (Nat.le_refl _) ?_)
  intro w1 o1 g1
  clear hi hz0 hz1 hz2 h9
  have P1 : Hid (Rp vv w1 w'.heap.size n 0) := by
    rcases o1.2 with ⟨h, _⟩ | ⟨g, cap, cur, hv, hb, hg, h1, h2, h3, h4⟩
    · cases h
    · cases hv
      unfold Hid Rp rpCells
      rw [hg]
      congr 1
      have e : cur.toList = List.replicate n (Value.int .i64 0) := by
        have := toList_madeCells_one (.int .i64 0) n
        rw [List.take_of_length_le (by simp; omega)] at h4
        rw [h4]
        exact this
      simp only [List.replicate_zero, List.nil_append, Nat.sub_zero]
      rw [← e]
  have B1 : Hid (Below w'.heap.size w' w1) := (Below.refl _ _).grown g1 (Nat.le_refl _) (fun k hk => by cases hk)
  clear o1 g1
  obtain ⟨r2, p2, k2⟩ := rp_copy vv w1 w'.heap.size n 0 1 n n 1 c x P1.out (by show 1 = min 1 n; omega) (by omega) (fun j hj => by
    rw [show j = 0 by omega, B1.out.cell (p := x.add 0) (by rw [add_block]; exact cx.out.2)]
    exact cx.out.1)
  simp only [Nat.zero_add] at r2 p2 k2
  generalize w1.setRow w'.heap.size (rpCells vv n 1) = w2 at *
  have P2 : Hid (Rp vv w2 w'.heap.size n 1) := p2
  have B2 : Hid (Below w'.heap.size w' w2) := k2.below B1.out B1.out.size (Nat.le_refl _)
  clear p2 k2 P1 B1
  go_wp2
  clear r2
  obtain ⟨z, hz⟩ : ∃ z, w'.heap.size = z := ⟨_, rfl⟩
  rw [hz] at P2 B2
  simp only [hz]
  have Hz : Hid (w'.heap.size = z) := hz
  clear hz
  go_loopw [8] (fun i W' => ∃ m : Nat, 1 ≤ m ∧ m ≤ n ∧ i = .int .i64 (m : Nat) ∧ Rp vv W' z n m ∧ Below z w' W') (fun i _ => n - (intOf i).toNat)
  case atStart => exact ⟨1, Nat.le_refl _, n0, rfl, P2, B2⟩
  case round =>
    obtain ⟨m, m1, m2, rfl, hp, hb⟩ := hrel
    have P : Hid (Rp vv wr z n m) := hp
    have B : Hid (Below z w' wr) := hb
    clear hp hb P2 B2
    by_cases h0 : m = n
    · subst h0
      go_wp2
      go_ret
      exact ⟨z, rfl, by rw [Hz.out]; exact Nat.le_refl _, P.out.bk, by rw [Hz.out]; exact B⟩
    · have hm : m < n := by omega
      obtain ⟨k, hk⟩ : ∃ k, k = Nat.min m (n - m) := ⟨_, rfl⟩
      have hk' : k ≤ m ∧ k ≤ n - m ∧ 0 < k := by
        have : k = min m (n - m) := hk
        omega
      have rr : (Builtin.copy_ #[23, 23] 3 #[.slice (some ⟨z, m, none⟩) (n - m) (n - m), .slice (some ⟨z, 0, none⟩) m n]).run Try.prog wr.drew = .ok (.int .i64 (k : Nat)) (wr.drew.setRow z (rpCells vv n (m + k))) ∧ _ :=
        rp_copy vv wr.drew z n m k (n - m) (n - m) m n ⟨z, 0, none⟩ P.out hk (by omega) (fun j hj => by
          rw [Addr.add_lit, Nat.zero_add]
          exact Rp.cell (w := wr) P.out (by omega))
      obtain ⟨r1, p1, q1⟩ := rr
      have P1 : Hid (Rp vv (wr.drew.setRow z (rpCells vv n (m + k))) z n (m + k)) := p1
      have B1 : Hid (Below z w' (wr.drew.setRow z (rpCells vv n (m + k)))) := q1.below B.out.drew (by have := P.out.lt; show z ≤ wr.heap.size; omega) (Nat.le_refl _)
      obtain ⟨k1, k2, k3⟩ := hk'
      clear hk p1 q1
      generalize wr.drew.setRow z (rpCells vv n (m + k)) = w3 at *
      go_wp2
      go_region
      clear r1
      go_wp2
      go_round
      case rel => exact ⟨m + k, by omega, by omega, by go_num, P1, B1⟩
      case measure => simp [intOf]; omega
end Go.Proofs.Ytghkchnfcfnejaa

namespace Go.Proofs.Ytghkchnfcfnejaa
open Go.RowKit
set_option linter.unusedVariables false

namespace Wd
def bare (wd hg : Int) (gs os : List Int) : WV := ⟨0, 1, wd, hg, gs, os, [], [], []⟩
/-- what is told where a world is to begin. -/
def newFault (ks : List KV) (wd hg : Int) (gs os : List Int) (pls gold : Int) : Int := if ground ks (bare wd hg gs os) = 0 then (if (1 ≤ pls ∧ pls ≤ 4) ∧ 0 ≤ gold ∧ gold ≤ 1000000 then 0 else 1) else ground ks (bare wd hg gs os)
/-- the world that begins. -/
def begun (ks : List KV) (wd hg : Int) (gs os : List Int) (pls gold : Int) : WV := if newFault ks wd hg gs os pls gold = 0 then ⟨0, 1, wd, hg, gs, os, List.replicate pls.toNat gold, [], []⟩ else WV.zero
end Wd
theorem begun_bad {ks : List KV} {wd hg : Int} {gs os : List Int} {pls gold : Int} (h : Wd.newFault ks wd hg gs os pls gold ≠ 0) : Wd.begun ks wd hg gs os pls gold = WV.zero := by unfold Wd.begun; rw [if_neg h]
theorem begun_ok {ks : List KV} {wd hg : Int} {gs os : List Int} {pls gold : Int} (h : Wd.newFault ks wd hg gs os pls gold = 0) : Wd.begun ks wd hg gs os pls gold = ⟨0, 1, wd, hg, gs, os, List.replicate pls.toNat gold, [], []⟩ := by unfold Wd.begun; rw [if_pos h]
/-- a field in a box. -/
structure Bx (w : World) (z : Nat) (wd hg : Int) (u1 u2 : Value) : Prop where
  c0 : w.cell? ⟨z, 0, none⟩ = some (.int .i64 wd)
  c1 : w.cell? ⟨z, 1, none⟩ = some (.int .i64 hg)
  c2 : w.cell? ⟨z, 2, none⟩ = some u1
  c3 : w.cell? ⟨z, 3, none⟩ = some u2
theorem Bx.lt {w : World} {z : Nat} {wd hg : Int} {u1 u2 : Value} (h : Bx w z wd hg u1 u2) : z < w.heap.size := cell_lt h.c0
theorem Bx.below {w w' : World} {z n : Nat} {wd hg : Int} {u1 u2 : Value} (h : Bx w z wd hg u1 u2) (hb : Below n w w') (hn : z < n) : Bx w' z wd hg u1 u2 :=
  ⟨by rw [hb.cell (p := ⟨z, 0, none⟩) hn]; exact h.c0, by rw [hb.cell (p := ⟨z, 1, none⟩) hn]; exact h.c1, by rw [hb.cell (p := ⟨z, 2, none⟩) hn]; exact h.c2, by rw [hb.cell (p := ⟨z, 3, none⟩) hn]; exact h.c3⟩
theorem Bx.mk' {w : World} {z : Nat} (wd hg : Int) (u1 u2 : Value) (hz : w.heap.size = z) : Bx (w.alloc (.cells #[.int .i64 wd, .int .i64 hg, u1, u2] 25)) z wd hg u1 u2 := by
  subst hz
  constructor <;> simp
set_option maxRecDepth 100000 in
set_option maxHeartbeats 8000000 in
theorem new_any (vk vf : Value) (ks : List KV) (wd hg : Int) (gs os : List Int) (pls gold : Int) (w : World) (hk : Kl w vk ks) (hb : ∀ k ∈ ks, k.b.size ≤ 9223372036854775807) (hf : Fl w vf wd hg gs os) :
    Calls Try.prog 10 #[vk, vf, .int .i64 pls, .int .i64 gold] w fun e w' => ∃ u r, e = .returned (.tuple #[u, r]) ∧ Er r (Wd.newFault ks wd hg gs os pls gold) ∧ Wo w' w.heap.size u (Wd.begun ks wd hg gs os pls gold) ∧ Below w.heap.size w w' := by
  have K : Hid (Kl w vk ks ∧ ∀ k ∈ ks, k.b.size ≤ 9223372036854775807) := ⟨hk, hb⟩
  have F : Hid (Fl w vf wd hg gs os) := hf
  obtain ⟨u1, u2, rfl, r1, r2⟩ := hf
  obtain ⟨p1, q1, rfl, -⟩ := r1
  obtain ⟨p2, q2, rfl, -⟩ := r2
  clear hb hk
  go_enter Try.func10, Try.ntmps10
  go_upto_region 1 with fail
  have B0 : Hid (Below w.heap.size w ((w.alloc (.cells #[.int .i64 wd, .int .i64 hg, .slice p1 gs.length q1, .slice p2 os.length q2] 25)).alloc (.cells #[.int .i64 0, .int .i64 0, .int .i64 0, .int .i64 0, .slice none 0 0, .slice none 0 0, .slice none 0 0, .slice none 0 0, .slice none 0 0] 29))) := ((Below.refl _ _).alloc (Nat.le_refl _) _).alloc (by simp) _
  have X0 : Hid (Bx ((w.alloc (.cells #[.int .i64 wd, .int .i64 hg, .slice p1 gs.length q1, .slice p2 os.length q2] 25)).alloc (.cells #[.int .i64 0, .int .i64 0, .int .i64 0, .int .i64 0, .slice none 0 0, .slice none 0 0, .slice none 0 0, .slice none 0 0, .slice none 0 0] 29)) w.heap.size wd hg (.slice p1 gs.length q1) (.slice p2 os.length q2)) := (Bx.mk' (w := w) _ _ _ _ rfl).below ((Below.refl _ _).alloc (Nat.le_refl _) _) (by simp)
  have Z0 : Hid (Wx ((w.alloc (.cells #[.int .i64 wd, .int .i64 hg, .slice p1 gs.length q1, .slice p2 os.length q2] 25)).alloc (.cells #[.int .i64 0, .int .i64 0, .int .i64 0, .int .i64 0, .slice none 0 0, .slice none 0 0, .slice none 0 0, .slice none 0 0, .slice none 0 0] 29)) (w.heap.size + 1) (.int .i64 0) (.int .i64 0) (.int .i64 0) (.int .i64 0) (.slice none 0 0) (.slice none 0 0) (.slice none 0 0) (.slice none 0 0) (.slice none 0 0)) := Wx.new _ _ _ _ _ _ _ _ _ (by simp)
  have S0 : Hid (w.heap.size + 2 ≤ ((w.alloc (.cells #[.int .i64 wd, .int .i64 hg, .slice p1 gs.length q1, .slice p2 os.length q2] 25)).alloc (.cells #[.int .i64 0, .int .i64 0, .int .i64 0, .int .i64 0, .slice none 0 0, .slice none 0 0, .slice none 0 0, .slice none 0 0, .slice none 0 0] 29)).heap.size) := by unfold Hid; simp
  generalize ((w.alloc (.cells #[.int .i64 wd, .int .i64 hg, .slice p1 gs.length q1, .slice p2 os.length q2] 25)).alloc (.cells #[.int .i64 0, .int .i64 0, .int .i64 0, .int .i64 0, .slice none 0 0, .slice none 0 0, .slice none 0 0, .slice none 0 0, .slice none 0 0] 29)) = w0 at *
  obtain ⟨x0, x1, x2, x3⟩ := X0.out
  go_wp2_with fail
  refine (ground_any _ _ ks (Wd.bare wd hg gs os) w0 (K.out.1.below B0.out) K.out.2 (F.out.below B0.out)).mono ?_
  rintro e w1 ⟨r, rfl, hr, hb1⟩
  clear x0 x1 x2 x3
  have B1 : Hid (Below w.heap.size w w1) := B0.out.trans (hb1.mono B0.out.size)
  have X1 : Hid (Bx w1 w.heap.size wd hg (.slice p1 gs.length q1) (.slice p2 os.length q2)) := X0.out.below hb1 X0.out.lt
  have Z1 : Hid (Wx w1 (w.heap.size + 1) (.int .i64 0) (.int .i64 0) (.int .i64 0) (.int .i64 0) (.slice none 0 0) (.slice none 0 0) (.slice none 0 0) (.slice none 0 0) (.slice none 0 0)) := Z0.out.below hb1 Z0.out.lt
  have S1 : Hid (w.heap.size + 2 ≤ w1.heap.size) := Nat.le_trans S0.out hb1.size
  clear hb1 B0 X0 Z0 S0
  rcases hr with ⟨hf, rfl⟩ | ⟨hf, rfl⟩
  case inr =>
    obtain ⟨fe, hfe⟩ : ∃ f, Wd.ground ks (Wd.bare wd hg gs os) = f := ⟨_, rfl⟩
    have HFE : Hid (fe ≠ 0) := by rw [← hfe]; exact hf
    have FE : Hid (Wd.newFault ks wd hg gs os pls gold = fe) := by unfold Hid Wd.newFault; rw [if_neg hf]; exact hfe
    rw [hfe]
    clear hf hfe
    obtain ⟨z0, z1, z2, z3, z4, z5, z6, z7, z8⟩ := Z1.out.cells
    obtain ⟨t0, t1, t2, t3, t4, t5, t6, t7, t8⟩ := Z1.out.thaws
    have KZ : Hid (Kp (w.heap.size + 1) w1 (((((((((w1.setCell ⟨w.heap.size + 1, 0, none⟩ (.int .i64 0)).setCell ⟨w.heap.size + 1, 1, none⟩ (.int .i64 0)).setCell ⟨w.heap.size + 1, 2, none⟩ (.int .i64 0)).setCell ⟨w.heap.size + 1, 3, none⟩ (.int .i64 0)).setCell ⟨w.heap.size + 1, 4, none⟩ (.slice none 0 0)).setCell ⟨w.heap.size + 1, 5, none⟩ (.slice none 0 0)).setCell ⟨w.heap.size + 1, 6, none⟩ (.slice none 0 0)).setCell ⟨w.heap.size + 1, 7, none⟩ (.slice none 0 0)).setCell ⟨w.heap.size + 1, 8, none⟩ (.slice none 0 0))) := put_kp _ _ _ _ _ _ _ _ _ _ _
    obtain ⟨y0, y1, y2, y3, y4, y5, y6, y7, y8⟩ := (Z1.out.put (.int .i64 0) (.int .i64 0) (.int .i64 0) (.int .i64 0) (.slice none 0 0) (.slice none 0 0) (.slice none 0 0) (.slice none 0 0) (.slice none 0 0)).cells
    go_wp2
    clear z0 z1 z2 z3 z4 z5 z6 z7 z8 t0 t1 t2 t3 t4 t5 t6 t7 t8
    generalize (((((((((w1.setCell ⟨w.heap.size + 1, 0, none⟩ (.int .i64 0)).setCell ⟨w.heap.size + 1, 1, none⟩ (.int .i64 0)).setCell ⟨w.heap.size + 1, 2, none⟩ (.int .i64 0)).setCell ⟨w.heap.size + 1, 3, none⟩ (.int .i64 0)).setCell ⟨w.heap.size + 1, 4, none⟩ (.slice none 0 0)).setCell ⟨w.heap.size + 1, 5, none⟩ (.slice none 0 0)).setCell ⟨w.heap.size + 1, 6, none⟩ (.slice none 0 0)).setCell ⟨w.heap.size + 1, 7, none⟩ (.slice none 0 0)).setCell ⟨w.heap.size + 1, 8, none⟩ (.slice none 0 0)) = w9 at *
    refine bodyPost_ret (v := .tuple #[.agg #[.int .i64 0, .int .i64 0, .int .i64 0, .int .i64 0, .slice none 0 0, .slice none 0 0, .slice none 0 0, .slice none 0 0, .slice none 0 0], .iface 69 (.int .i64 fe)]) (by simp [results, Try.results10, go_sem, y0, y1, y2, y3, y4, y5, y6, y7, y8]) rfl ⟨_, _, rfl, by rw [FE.out]; exact Er.no HFE.out, by rw [begun_bad (by rw [FE.out]; exact HFE.out)]; exact zero_wo _ _, KZ.out.below B1.out B1.out.size (by omega)⟩
  have HF : Hid (Wd.ground ks (Wd.bare wd hg gs os) = 0) := hf
  have NF : Hid (Wd.newFault ks wd hg gs os pls gold = if (1 ≤ pls ∧ pls ≤ 4) ∧ 0 ≤ gold ∧ gold ≤ 1000000 then 0 else 1) := by unfold Hid Wd.newFault; rw [if_pos hf]
  have GL : Hid (gs.length ≤ 144 ∧ os.length ≤ 144) := by
    unfold Wd.ground at hf
    split at hf
    · obtain ⟨Wn, Hn, -, -, G⟩ := Fd.fault_zero hf
      have h1 := G.pos
      have h2 := G.gl
      have h3 := G.ol
      unfold Wd.bare at h2 h3
      exact ⟨by simp only at h2; omega, by simp only at h3; omega⟩
    · rename_i h0
      exact absurd hf h0
  clear hf
  by_cases hp : 1 ≤ pls ∧ pls ≤ 4
  case neg =>
    have t : decide (1 ≤ pls ∧ pls ≤ 4) = false := decide_eq_false hp
    have HFE : Hid ((1 : Int) ≠ 0) := by unfold Hid; decide
    have FE : Hid (Wd.newFault ks wd hg gs os pls gold = 1) := by unfold Hid; rw [NF.out, if_neg (fun h => hp h.1)]
    clear hp
    go_wp2_with fail
    refine (wwithin_any pls 1 4 w1).mono ?_
    rintro e w2 ⟨rfl, hww⟩
    obtain rfl := hww.symm
    rw [t]
    clear t
    obtain ⟨z0, z1, z2, z3, z4, z5, z6, z7, z8⟩ := Z1.out.cells
    obtain ⟨t0, t1, t2, t3, t4, t5, t6, t7, t8⟩ := Z1.out.thaws
    have KZ : Hid (Kp (w.heap.size + 1) w1 (((((((((w1.setCell ⟨w.heap.size + 1, 0, none⟩ (.int .i64 0)).setCell ⟨w.heap.size + 1, 1, none⟩ (.int .i64 0)).setCell ⟨w.heap.size + 1, 2, none⟩ (.int .i64 0)).setCell ⟨w.heap.size + 1, 3, none⟩ (.int .i64 0)).setCell ⟨w.heap.size + 1, 4, none⟩ (.slice none 0 0)).setCell ⟨w.heap.size + 1, 5, none⟩ (.slice none 0 0)).setCell ⟨w.heap.size + 1, 6, none⟩ (.slice none 0 0)).setCell ⟨w.heap.size + 1, 7, none⟩ (.slice none 0 0)).setCell ⟨w.heap.size + 1, 8, none⟩ (.slice none 0 0))) := put_kp _ _ _ _ _ _ _ _ _ _ _
    obtain ⟨y0, y1, y2, y3, y4, y5, y6, y7, y8⟩ := (Z1.out.put (.int .i64 0) (.int .i64 0) (.int .i64 0) (.int .i64 0) (.slice none 0 0) (.slice none 0 0) (.slice none 0 0) (.slice none 0 0) (.slice none 0 0)).cells
    go_wp2
    clear z0 z1 z2 z3 z4 z5 z6 z7 z8 t0 t1 t2 t3 t4 t5 t6 t7 t8
    generalize (((((((((w1.setCell ⟨w.heap.size + 1, 0, none⟩ (.int .i64 0)).setCell ⟨w.heap.size + 1, 1, none⟩ (.int .i64 0)).setCell ⟨w.heap.size + 1, 2, none⟩ (.int .i64 0)).setCell ⟨w.heap.size + 1, 3, none⟩ (.int .i64 0)).setCell ⟨w.heap.size + 1, 4, none⟩ (.slice none 0 0)).setCell ⟨w.heap.size + 1, 5, none⟩ (.slice none 0 0)).setCell ⟨w.heap.size + 1, 6, none⟩ (.slice none 0 0)).setCell ⟨w.heap.size + 1, 7, none⟩ (.slice none 0 0)).setCell ⟨w.heap.size + 1, 8, none⟩ (.slice none 0 0)) = w9 at *
    refine bodyPost_ret (v := .tuple #[.agg #[.int .i64 0, .int .i64 0, .int .i64 0, .int .i64 0, .slice none 0 0, .slice none 0 0, .slice none 0 0, .slice none 0 0, .slice none 0 0], .iface 69 (.int .i64 1)]) (by simp [results, Try.results10, go_sem, y0, y1, y2, y3, y4, y5, y6, y7, y8]) rfl ⟨_, _, rfl, by rw [FE.out]; exact Er.no HFE.out, by rw [begun_bad (by rw [FE.out]; exact HFE.out)]; exact zero_wo _ _, KZ.out.below B1.out B1.out.size (by omega)⟩
  have t : decide (1 ≤ pls ∧ pls ≤ 4) = true := decide_eq_true hp
  go_wp2_with fail
  refine (wwithin_any pls 1 4 w1).mono ?_
  rintro e w2 ⟨rfl, hww⟩
  obtain rfl := hww.symm
  rw [t]
  clear t
  by_cases hgd : 0 ≤ gold ∧ gold ≤ 1000000
  case neg =>
    have t : decide (0 ≤ gold ∧ gold ≤ 1000000) = false := decide_eq_false hgd
    have HFE : Hid ((1 : Int) ≠ 0) := by unfold Hid; decide
    have FE : Hid (Wd.newFault ks wd hg gs os pls gold = 1) := by unfold Hid; rw [NF.out, if_neg (fun h => hgd h.2)]
    clear hgd hp
    go_wp2_with fail
    refine (wwithin_any gold 0 1000000 w1).mono ?_
    rintro e w2 ⟨rfl, hww⟩
    obtain rfl := hww.symm
    rw [t]
    clear t
    obtain ⟨z0, z1, z2, z3, z4, z5, z6, z7, z8⟩ := Z1.out.cells
    obtain ⟨t0, t1, t2, t3, t4, t5, t6, t7, t8⟩ := Z1.out.thaws
    have KZ : Hid (Kp (w.heap.size + 1) w1 (((((((((w1.setCell ⟨w.heap.size + 1, 0, none⟩ (.int .i64 0)).setCell ⟨w.heap.size + 1, 1, none⟩ (.int .i64 0)).setCell ⟨w.heap.size + 1, 2, none⟩ (.int .i64 0)).setCell ⟨w.heap.size + 1, 3, none⟩ (.int .i64 0)).setCell ⟨w.heap.size + 1, 4, none⟩ (.slice none 0 0)).setCell ⟨w.heap.size + 1, 5, none⟩ (.slice none 0 0)).setCell ⟨w.heap.size + 1, 6, none⟩ (.slice none 0 0)).setCell ⟨w.heap.size + 1, 7, none⟩ (.slice none 0 0)).setCell ⟨w.heap.size + 1, 8, none⟩ (.slice none 0 0))) := put_kp _ _ _ _ _ _ _ _ _ _ _
    obtain ⟨y0, y1, y2, y3, y4, y5, y6, y7, y8⟩ := (Z1.out.put (.int .i64 0) (.int .i64 0) (.int .i64 0) (.int .i64 0) (.slice none 0 0) (.slice none 0 0) (.slice none 0 0) (.slice none 0 0) (.slice none 0 0)).cells
    go_wp2
    clear z0 z1 z2 z3 z4 z5 z6 z7 z8 t0 t1 t2 t3 t4 t5 t6 t7 t8
    generalize (((((((((w1.setCell ⟨w.heap.size + 1, 0, none⟩ (.int .i64 0)).setCell ⟨w.heap.size + 1, 1, none⟩ (.int .i64 0)).setCell ⟨w.heap.size + 1, 2, none⟩ (.int .i64 0)).setCell ⟨w.heap.size + 1, 3, none⟩ (.int .i64 0)).setCell ⟨w.heap.size + 1, 4, none⟩ (.slice none 0 0)).setCell ⟨w.heap.size + 1, 5, none⟩ (.slice none 0 0)).setCell ⟨w.heap.size + 1, 6, none⟩ (.slice none 0 0)).setCell ⟨w.heap.size + 1, 7, none⟩ (.slice none 0 0)).setCell ⟨w.heap.size + 1, 8, none⟩ (.slice none 0 0)) = w9 at *
    refine bodyPost_ret (v := .tuple #[.agg #[.int .i64 0, .int .i64 0, .int .i64 0, .int .i64 0, .slice none 0 0, .slice none 0 0, .slice none 0 0, .slice none 0 0, .slice none 0 0], .iface 69 (.int .i64 1)]) (by simp [results, Try.results10, go_sem, y0, y1, y2, y3, y4, y5, y6, y7, y8]) rfl ⟨_, _, rfl, by rw [FE.out]; exact Er.no HFE.out, by rw [begun_bad (by rw [FE.out]; exact HFE.out)]; exact zero_wo _ _, KZ.out.below B1.out B1.out.size (by omega)⟩
  have t : decide (0 ≤ gold ∧ gold ≤ 1000000) = true := decide_eq_true hgd
  have F0 : Hid (Wd.newFault ks wd hg gs os pls gold = 0) := by unfold Hid; rw [NF.out, if_pos ⟨hp, hgd⟩]
  go_wp2_with fail
  refine (wwithin_any gold 0 1000000 w1).mono ?_
  rintro e w2 ⟨rfl, hww⟩
  obtain rfl := hww.symm
  rw [t]
  clear t
  obtain ⟨n, rfl⟩ : ∃ n : Nat, pls = n := ⟨pls.toNat, by omega⟩
  have hn : 0 < n ∧ n ≤ 4 := by omega
  have HN : Hid (0 < n ∧ n ≤ 4) := hn
  clear hp hgd hn
  go_wp2_with fail
  have BA : Hid (Below w1.heap.size w1 (w1.alloc (Obj.cells #[.int .i64 gold] 3))) := (Below.refl _ _).alloc (Nat.le_refl _) _
  have RA : Hid (Ro (w1.alloc (Obj.cells #[.int .i64 gold] 3)) (.slice (some ⟨w1.heap.size, 0, none⟩) 1 1) [gold]) := Ro.lit1 gold rfl
  generalize (w1.alloc (Obj.cells #[.int .i64 gold] 3)) = wa at *
  refine (repeat_ok gold _ n wa RA.out (HN.out.1) (by have := HN.out.2; omega)).mono ?_
  rintro e w2 ⟨b, rfl, -, hbk, hb2⟩
  have BW : Hid (Below w1.heap.size w1 w2) := BA.out.trans (hb2.mono BA.out.size)
  have B2 : Hid (Below w.heap.size w w2) := B1.out.trans (BW.out.mono B1.out.size)
  have X2 : Hid (Bx w2 w.heap.size wd hg (.slice p1 gs.length q1) (.slice p2 os.length q2)) := X1.out.below BW.out X1.out.lt
  have Z2 : Hid (Wx w2 (w.heap.size + 1) (.int .i64 0) (.int .i64 0) (.int .i64 0) (.int .i64 0) (.slice none 0 0) (.slice none 0 0) (.slice none 0 0) (.slice none 0 0) (.slice none 0 0)) := Z1.out.below BW.out Z1.out.lt
  have S2 : Hid (w.heap.size + 2 ≤ w2.heap.size) := Nat.le_trans S1.out BW.out.size
  have G2 : Hid (Ro w2 (.slice (some ⟨b, 0, none⟩) n n) (List.replicate n gold)) := by
    unfold Hid
    have := hbk.ro (c := n) (by simp) (by have := HN.out.2; omega)
    simpa using this
  clear hb2 hbk B1 X1 Z1 S1 BA RA BW
  obtain ⟨x0, x1, x2, x3⟩ := X2.out
  go_wp2_with fail
  have F2 := F.out.below B2.out
  obtain ⟨v1, v2, he, f1, f2⟩ := F2
  injection he with he
  simp only [Array.mk.injEq, List.cons.injEq, and_true, true_and] at he
  obtain ⟨rfl, rfl⟩ := he
  refine (copy_any _ ⟨0, 1, wd, hg, gs, os, List.replicate n gold, [], []⟩ w2 ⟨_, _, _, _, _, rfl, f1, f2, G2.out, ⟨none, 0, rfl, Nat.le_refl _, by omega, fun h => absurd rfl h⟩, ⟨none, 0, rfl, Nat.le_refl _, by omega, fun h => absurd rfl h⟩⟩ ⟨by have := GL.out.1; simp only; omega, by have := GL.out.2; simp only; omega, by have := HN.out.2; simp only [List.length_replicate]; omega, by simp, by simp⟩).mono ?_
  rintro e w3 ⟨u, rfl, ho, hb3⟩
  clear f1 f2 x0 x1 x2 x3
  have B3 : Hid (Below w.heap.size w w3) := B2.out.trans (hb3.mono B2.out.size)
  have Z3 : Hid (Wx w3 (w.heap.size + 1) (.int .i64 0) (.int .i64 0) (.int .i64 0) (.int .i64 0) (.slice none 0 0) (.slice none 0 0) (.slice none 0 0) (.slice none 0 0) (.slice none 0 0)) := Z2.out.below hb3 Z2.out.lt
  obtain ⟨v1, v2, v3, v4, v5, rfl, o1, o2, o3, o4, o5⟩ := ho.wo.mono S2.out
  have O3 : Hid (Ow w3 (w.heap.size + 2) v1 gs ∧ Ow w3 (w.heap.size + 2) v2 os ∧ Ow w3 (w.heap.size + 2) v3 (List.replicate n gold) ∧ Uno w3 (w.heap.size + 2) v4 [] ∧ Jbo w3 (w.heap.size + 2) v5 []) := ⟨o1, o2, o3, o4, o5⟩
  obtain ⟨a1, b1, rfl⟩ := o1.len
  obtain ⟨a2, b2, rfl⟩ := o2.len
  obtain ⟨a3, b3, rfl⟩ := o3.len
  obtain ⟨a4, b4, rfl⟩ := o4.len
  obtain ⟨a5, b5, rfl⟩ := o5.len
  simp only [List.length_replicate, List.length_nil] at O3 ⊢
  clear ho hb3 o1 o2 o3 o4 o5 B2 X2 Z2 S2 G2
  obtain ⟨z0, z1, z2, z3, z4, z5, z6, z7, z8⟩ := Z3.out.cells
  obtain ⟨t0, t1, t2, t3, t4, t5, t6, t7, t8⟩ := Z3.out.thaws
  have KZ : Hid (Kp (w.heap.size + 1) w3 (((((((((w3.setCell ⟨w.heap.size + 1, 0, none⟩ (.int .i64 0)).setCell ⟨w.heap.size + 1, 1, none⟩ (.int .i64 1)).setCell ⟨w.heap.size + 1, 2, none⟩ (.int .i64 wd)).setCell ⟨w.heap.size + 1, 3, none⟩ (.int .i64 hg)).setCell ⟨w.heap.size + 1, 4, none⟩ (.slice a1 gs.length b1)).setCell ⟨w.heap.size + 1, 5, none⟩ (.slice a2 os.length b2)).setCell ⟨w.heap.size + 1, 6, none⟩ (.slice a3 n b3)).setCell ⟨w.heap.size + 1, 7, none⟩ (.slice a4 0 b4)).setCell ⟨w.heap.size + 1, 8, none⟩ (.slice a5 0 b5))) := put_kp _ _ _ _ _ _ _ _ _ _ _
  obtain ⟨y0, y1, y2, y3, y4, y5, y6, y7, y8⟩ := (Z3.out.put (.int .i64 0) (.int .i64 1) (.int .i64 wd) (.int .i64 hg) (.slice a1 gs.length b1) (.slice a2 os.length b2) (.slice a3 n b3) (.slice a4 0 b4) (.slice a5 0 b5)).cells
  go_wp2
  clear z0 z1 z2 z3 z4 z5 z6 z7 z8 t0 t1 t2 t3 t4 t5 t6 t7 t8
  generalize (((((((((w3.setCell ⟨w.heap.size + 1, 0, none⟩ (.int .i64 0)).setCell ⟨w.heap.size + 1, 1, none⟩ (.int .i64 1)).setCell ⟨w.heap.size + 1, 2, none⟩ (.int .i64 wd)).setCell ⟨w.heap.size + 1, 3, none⟩ (.int .i64 hg)).setCell ⟨w.heap.size + 1, 4, none⟩ (.slice a1 gs.length b1)).setCell ⟨w.heap.size + 1, 5, none⟩ (.slice a2 os.length b2)).setCell ⟨w.heap.size + 1, 6, none⟩ (.slice a3 n b3)).setCell ⟨w.heap.size + 1, 7, none⟩ (.slice a4 0 b4)).setCell ⟨w.heap.size + 1, 8, none⟩ (.slice a5 0 b5)) = w9 at *
  refine bodyPost_ret (v := .tuple #[.agg #[.int .i64 0, .int .i64 1, .int .i64 wd, .int .i64 hg, .slice a1 gs.length b1, .slice a2 os.length b2, .slice a3 n b3, .slice a4 0 b4, .slice a5 0 b5], .nilIface]) (by simp [results, Try.results10, go_sem, y0, y1, y2, y3, y4, y5, y6, y7, y8]) rfl ⟨_, _, rfl, by rw [F0.out]; exact Er.nil, ?_, KZ.out.below B3.out B3.out.size (by omega)⟩
  rw [begun_ok F0.out, Int.toNat_natCast]
  exact ⟨_, _, _, _, _, rfl, (O3.out.1.kp KZ.out (by omega)).mono (by omega), (O3.out.2.1.kp KZ.out (by omega)).mono (by omega), (O3.out.2.2.1.kp KZ.out (by omega)).mono (by omega), (O3.out.2.2.2.1.kp KZ.out (by omega)).mono (by omega), (O3.out.2.2.2.2.kp KZ.out (by omega)).mono (by omega)⟩
end Go.Proofs.Ytghkchnfcfnejaa

