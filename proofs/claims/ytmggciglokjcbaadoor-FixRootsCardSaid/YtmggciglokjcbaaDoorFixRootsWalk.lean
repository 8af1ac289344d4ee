/- The walk of FixRoots, out of the contracts of what it calls. -/
import Derived.Test.YtmggciglokjcbaaDoorTold
import Derived.Test.YtmggciglokjcbaaDoorFixD
import Derived.Test.YtmggciglokjcbaaDoorRefFix
import Derived.OpenShut
namespace Go.Proofs.YtmggciglokjcbaaDoor.fixRoots
open Go.RowKit

theorem small_any (n : Int) (w : World) :
    Calls Tryd.prog 7 #[.int .i64 n] w fun e w' => ∃ t : Bool, e = .returned (.bool t) ∧ w' = w := by
  by_cases h : In6 n
  · refine (small_yes n w h).mono ?_
    rintro e w1 ⟨rfl, rfl⟩
    exact ⟨true, rfl, rfl⟩
  · refine (small_no n w h).mono ?_
    rintro e w1 ⟨rfl, rfl⟩
    exact ⟨false, rfl, rfl⟩

set_option maxHeartbeats 1000000 in
theorem pos_ok (n a b c d : Int) (w : World) (hg : Et w) (h0 : 0 ≤ n) (h1 : n ≤ 9223372036854775807) (ka : In6 a) (kb : In6 b) (kc : In6 c) (kd : In6 d) :
    Calls Tryd.prog 3 #[.int .i64 n, .int .i64 a, .int .i64 b, .int .i64 c, .int .i64 d] w fun e w' => e = .returned (.bool true) ∧ Below w.heap.size w w' := by
  have Hg : Hid (Et w) := hg
  have Ha : Hid (In6 a) := ka
  have Hb : Hid (In6 b) := kb
  have Hc : Hid (In6 c) := kc
  have Hd : Hid (In6 d) := kd
  clear hg ka kb kc kd
  go_enter Tryd.func3, Tryd.ntmps3
  go_wp2_with fail
  refine (ref_root _ _ h0 h1).mono ?_
  rintro e w1 ⟨r1, hr1, rfl, rfl⟩
  have Hr1 : Hid (Ma.Sq r1 n) := hr1
  clear hr1
  go_wp2_with fail
  refine (root_any _ _ h0 h1).mono ?_
  rintro e w1 ⟨r2, hr2, rfl, rfl⟩
  obtain rfl := Ma.sq_uniq r2 r1 _ hr2 Hr1
  clear hr2 Hr1
  go_wp2_with fail
  refine (same_nil _ _).mono ?_
  rintro e w2 ⟨rfl, rfl⟩
  have Hb2 : Hid (Below w2.heap.size w2 w2) := Below.refl _ _
  have Hg2 : Hid (Et w2) := Hg
  go_wp2_with fail
  refine (small_yes _ _ Ha).mono ?_
  rintro e w3 ⟨rfl, rfl⟩
  go_wp2_with fail
  refine (small_yes _ _ Hb).mono ?_
  rintro e w3 ⟨rfl, rfl⟩
  go_wp2_with fail
  refine (small_yes _ _ Hc).mono ?_
  rintro e w3 ⟨rfl, rfl⟩
  go_wp2_with fail
  refine (small_yes _ _ Hd).mono ?_
  rintro e w3 ⟨rfl, rfl⟩
  go_wp2_with fail
  refine (ref_far _ _ _ _ _ Ha Hb Hc Hd).mono ?_
  rintro e w3 ⟨f1, hf1, rfl, rfl⟩
  have Hf1 : Hid _ := hf1
  clear hf1
  go_wp2_with fail
  refine (far_ok _ _ _ _ _ Ha Hb Hc Hd).mono ?_
  rintro e w3 ⟨f2, hf2, rfl, rfl⟩
  obtain rfl := Ma.sq_uniq f2 f1 _ hf2 Hf1.out
  clear hf2 Hf1
  go_wp2_with fail
  refine (same_nil _ _).mono ?_
  rintro e w4 ⟨rfl, rfl⟩
  go_wp2
  go_ret
  exact ⟨rfl, Hb2⟩

set_option maxHeartbeats 1000000 in
theorem pos_bad0 (n a b c d : Int) (w : World) (hg : Et w) (h0 : 0 ≤ n) (h1 : n ≤ 9223372036854775807)  (ka : ¬ In6 a) :
    Calls Tryd.prog 3 #[.int .i64 n, .int .i64 a, .int .i64 b, .int .i64 c, .int .i64 d] w fun e w' => e = .returned (.bool true) ∧ Below w.heap.size w w' := by
  have Hg : Hid (Et w) := hg
  have Ha : Hid (¬ In6 a) := ka
  clear hg ka
  go_enter Tryd.func3, Tryd.ntmps3
  go_wp2_with fail
  refine (ref_root _ _ h0 h1).mono ?_
  rintro e w1 ⟨r1, hr1, rfl, rfl⟩
  have Hr1 : Hid (Ma.Sq r1 n) := hr1
  clear hr1
  go_wp2_with fail
  refine (root_any _ _ h0 h1).mono ?_
  rintro e w1 ⟨r2, hr2, rfl, rfl⟩
  obtain rfl := Ma.sq_uniq r2 r1 _ hr2 Hr1
  clear hr2 Hr1
  go_wp2_with fail
  refine (same_nil _ _).mono ?_
  rintro e w2 ⟨rfl, rfl⟩
  have Hb2 : Hid (Below w2.heap.size w2 w2) := Below.refl _ _
  have Hg2 : Hid (Et w2) := Hg
  go_wp2_with fail
  refine (small_no _ _ Ha).mono ?_
  rintro e w3 ⟨rfl, rfl⟩
  go_wp2_with fail
  refine (small_any _ _).mono ?_
  rintro e w3 ⟨tb, rfl, rfl⟩
  go_wp2_with fail
  refine (small_any _ _).mono ?_
  rintro e w3 ⟨tc, rfl, rfl⟩
  go_wp2_with fail
  refine (small_any _ _).mono ?_
  rintro e w3 ⟨td, rfl, rfl⟩
  go_wp2_with fail
  refine (far_bad _ _ _ _ _ (fun h => Ha h.1)).mono ?_
  rintro e w3 ⟨rfl, rfl⟩
  go_wp2_with fail
  refine (same_hit 1 1 _ Hg2).mono ?_
  rintro e w4 ⟨rfl, hb4⟩
  have Hb4 : Hid (Below w3.heap.size w3 w4) := hb4
  clear hb4
  go_wp2
  go_ret
  exact ⟨rfl, Hb2.out.trans (Hb4.out.mono Hb2.out.size)⟩

set_option maxHeartbeats 1000000 in
theorem pos_bad1 (n a b c d : Int) (w : World) (hg : Et w) (h0 : 0 ≤ n) (h1 : n ≤ 9223372036854775807) (ka : In6 a) (kb : ¬ In6 b) :
    Calls Tryd.prog 3 #[.int .i64 n, .int .i64 a, .int .i64 b, .int .i64 c, .int .i64 d] w fun e w' => e = .returned (.bool true) ∧ Below w.heap.size w w' := by
  have Hg : Hid (Et w) := hg
  have Ha : Hid (In6 a) := ka
  have Hb : Hid (¬ In6 b) := kb
  clear hg ka kb
  go_enter Tryd.func3, Tryd.ntmps3
  go_wp2_with fail
  refine (ref_root _ _ h0 h1).mono ?_
  rintro e w1 ⟨r1, hr1, rfl, rfl⟩
  have Hr1 : Hid (Ma.Sq r1 n) := hr1
  clear hr1
  go_wp2_with fail
  refine (root_any _ _ h0 h1).mono ?_
  rintro e w1 ⟨r2, hr2, rfl, rfl⟩
  obtain rfl := Ma.sq_uniq r2 r1 _ hr2 Hr1
  clear hr2 Hr1
  go_wp2_with fail
  refine (same_nil _ _).mono ?_
  rintro e w2 ⟨rfl, rfl⟩
  have Hb2 : Hid (Below w2.heap.size w2 w2) := Below.refl _ _
  have Hg2 : Hid (Et w2) := Hg
  go_wp2_with fail
  refine (small_yes _ _ Ha).mono ?_
  rintro e w3 ⟨rfl, rfl⟩
  go_wp2_with fail
  refine (small_no _ _ Hb).mono ?_
  rintro e w3 ⟨rfl, rfl⟩
  go_wp2_with fail
  refine (small_any _ _).mono ?_
  rintro e w3 ⟨tc, rfl, rfl⟩
  go_wp2_with fail
  refine (small_any _ _).mono ?_
  rintro e w3 ⟨td, rfl, rfl⟩
  go_wp2_with fail
  refine (far_bad _ _ _ _ _ (fun h => Hb h.2.1)).mono ?_
  rintro e w3 ⟨rfl, rfl⟩
  go_wp2_with fail
  refine (same_hit 1 1 _ Hg2).mono ?_
  rintro e w4 ⟨rfl, hb4⟩
  have Hb4 : Hid (Below w3.heap.size w3 w4) := hb4
  clear hb4
  go_wp2
  go_ret
  exact ⟨rfl, Hb2.out.trans (Hb4.out.mono Hb2.out.size)⟩

set_option maxHeartbeats 1000000 in
theorem pos_bad2 (n a b c d : Int) (w : World) (hg : Et w) (h0 : 0 ≤ n) (h1 : n ≤ 9223372036854775807) (ka : In6 a) (kb : In6 b) (kc : ¬ In6 c) :
    Calls Tryd.prog 3 #[.int .i64 n, .int .i64 a, .int .i64 b, .int .i64 c, .int .i64 d] w fun e w' => e = .returned (.bool true) ∧ Below w.heap.size w w' := by
  have Hg : Hid (Et w) := hg
  have Ha : Hid (In6 a) := ka
  have Hb : Hid (In6 b) := kb
  have Hc : Hid (¬ In6 c) := kc
  clear hg ka kb kc
  go_enter Tryd.func3, Tryd.ntmps3
  go_wp2_with fail
  refine (ref_root _ _ h0 h1).mono ?_
  rintro e w1 ⟨r1, hr1, rfl, rfl⟩
  have Hr1 : Hid (Ma.Sq r1 n) := hr1
  clear hr1
  go_wp2_with fail
  refine (root_any _ _ h0 h1).mono ?_
  rintro e w1 ⟨r2, hr2, rfl, rfl⟩
  obtain rfl := Ma.sq_uniq r2 r1 _ hr2 Hr1
  clear hr2 Hr1
  go_wp2_with fail
  refine (same_nil _ _).mono ?_
  rintro e w2 ⟨rfl, rfl⟩
  have Hb2 : Hid (Below w2.heap.size w2 w2) := Below.refl _ _
  have Hg2 : Hid (Et w2) := Hg
  go_wp2_with fail
  refine (small_yes _ _ Ha).mono ?_
  rintro e w3 ⟨rfl, rfl⟩
  go_wp2_with fail
  refine (small_yes _ _ Hb).mono ?_
  rintro e w3 ⟨rfl, rfl⟩
  go_wp2_with fail
  refine (small_no _ _ Hc).mono ?_
  rintro e w3 ⟨rfl, rfl⟩
  go_wp2_with fail
  refine (small_any _ _).mono ?_
  rintro e w3 ⟨td, rfl, rfl⟩
  go_wp2_with fail
  refine (far_bad _ _ _ _ _ (fun h => Hc h.2.2.1)).mono ?_
  rintro e w3 ⟨rfl, rfl⟩
  go_wp2_with fail
  refine (same_hit 1 1 _ Hg2).mono ?_
  rintro e w4 ⟨rfl, hb4⟩
  have Hb4 : Hid (Below w3.heap.size w3 w4) := hb4
  clear hb4
  go_wp2
  go_ret
  exact ⟨rfl, Hb2.out.trans (Hb4.out.mono Hb2.out.size)⟩

set_option maxHeartbeats 1000000 in
theorem pos_bad3 (n a b c d : Int) (w : World) (hg : Et w) (h0 : 0 ≤ n) (h1 : n ≤ 9223372036854775807) (ka : In6 a) (kb : In6 b) (kc : In6 c) (kd : ¬ In6 d) :
    Calls Tryd.prog 3 #[.int .i64 n, .int .i64 a, .int .i64 b, .int .i64 c, .int .i64 d] w fun e w' => e = .returned (.bool true) ∧ Below w.heap.size w w' := by
  have Hg : Hid (Et w) := hg
  have Ha : Hid (In6 a) := ka
  have Hb : Hid (In6 b) := kb
  have Hc : Hid (In6 c) := kc
  have Hd : Hid (¬ In6 d) := kd
  clear hg ka kb kc kd
  go_enter Tryd.func3, Tryd.ntmps3
  go_wp2_with fail
  refine (ref_root _ _ h0 h1).mono ?_
  rintro e w1 ⟨r1, hr1, rfl, rfl⟩
  have Hr1 : Hid (Ma.Sq r1 n) := hr1
  clear hr1
  go_wp2_with fail
  refine (root_any _ _ h0 h1).mono ?_
  rintro e w1 ⟨r2, hr2, rfl, rfl⟩
  obtain rfl := Ma.sq_uniq r2 r1 _ hr2 Hr1
  clear hr2 Hr1
  go_wp2_with fail
  refine (same_nil _ _).mono ?_
  rintro e w2 ⟨rfl, rfl⟩
  have Hb2 : Hid (Below w2.heap.size w2 w2) := Below.refl _ _
  have Hg2 : Hid (Et w2) := Hg
  go_wp2_with fail
  refine (small_yes _ _ Ha).mono ?_
  rintro e w3 ⟨rfl, rfl⟩
  go_wp2_with fail
  refine (small_yes _ _ Hb).mono ?_
  rintro e w3 ⟨rfl, rfl⟩
  go_wp2_with fail
  refine (small_yes _ _ Hc).mono ?_
  rintro e w3 ⟨rfl, rfl⟩
  go_wp2_with fail
  refine (small_no _ _ Hd).mono ?_
  rintro e w3 ⟨rfl, rfl⟩
  go_wp2_with fail
  refine (far_bad _ _ _ _ _ (fun h => Hd h.2.2.2)).mono ?_
  rintro e w3 ⟨rfl, rfl⟩
  go_wp2_with fail
  refine (same_hit 1 1 _ Hg2).mono ?_
  rintro e w4 ⟨rfl, hb4⟩
  have Hb4 : Hid (Below w3.heap.size w3 w4) := hb4
  clear hb4
  go_wp2
  go_ret
  exact ⟨rfl, Hb2.out.trans (Hb4.out.mono Hb2.out.size)⟩

set_option maxHeartbeats 1000000 in
theorem neg_ok (n a b c d : Int) (w : World) (hg : Et w) (h0 : n < 0) (ka : In6 a) (kb : In6 b) (kc : In6 c) (kd : In6 d) :
    Calls Tryd.prog 3 #[.int .i64 n, .int .i64 a, .int .i64 b, .int .i64 c, .int .i64 d] w fun e w' => e = .returned (.bool true) ∧ Below w.heap.size w w' := by
  have Hg : Hid (Et w) := hg
  have Ha : Hid (In6 a) := ka
  have Hb : Hid (In6 b) := kb
  have Hc : Hid (In6 c) := kc
  have Hd : Hid (In6 d) := kd
  clear hg ka kb kc kd
  go_enter Tryd.func3, Tryd.ntmps3
  go_wp2_with fail
  refine (root_neg _ _ h0).mono ?_
  rintro e w1 ⟨rfl, rfl⟩
  go_wp2_with fail
  refine (same_hit 1 1 _ Hg).mono ?_
  rintro e w2 ⟨rfl, hb2⟩
  have Hb2 : Hid (Below w1.heap.size w1 w2) := hb2
  have Hg2 : Hid (Et w2) := Et.below Hg hb2
  clear hb2
  go_wp2_with fail
  refine (small_yes _ _ Ha).mono ?_
  rintro e w3 ⟨rfl, rfl⟩
  go_wp2_with fail
  refine (small_yes _ _ Hb).mono ?_
  rintro e w3 ⟨rfl, rfl⟩
  go_wp2_with fail
  refine (small_yes _ _ Hc).mono ?_
  rintro e w3 ⟨rfl, rfl⟩
  go_wp2_with fail
  refine (small_yes _ _ Hd).mono ?_
  rintro e w3 ⟨rfl, rfl⟩
  go_wp2_with fail
  refine (ref_far _ _ _ _ _ Ha Hb Hc Hd).mono ?_
  rintro e w3 ⟨f1, hf1, rfl, rfl⟩
  have Hf1 : Hid _ := hf1
  clear hf1
  go_wp2_with fail
  refine (far_ok _ _ _ _ _ Ha Hb Hc Hd).mono ?_
  rintro e w3 ⟨f2, hf2, rfl, rfl⟩
  obtain rfl := Ma.sq_uniq f2 f1 _ hf2 Hf1.out
  clear hf2 Hf1
  go_wp2_with fail
  refine (same_nil _ _).mono ?_
  rintro e w4 ⟨rfl, rfl⟩
  go_wp2
  go_ret
  exact ⟨rfl, Hb2⟩

set_option maxHeartbeats 1000000 in
theorem neg_bad0 (n a b c d : Int) (w : World) (hg : Et w) (h0 : n < 0)  (ka : ¬ In6 a) :
    Calls Tryd.prog 3 #[.int .i64 n, .int .i64 a, .int .i64 b, .int .i64 c, .int .i64 d] w fun e w' => e = .returned (.bool true) ∧ Below w.heap.size w w' := by
  have Hg : Hid (Et w) := hg
  have Ha : Hid (¬ In6 a) := ka
  clear hg ka
  go_enter Tryd.func3, Tryd.ntmps3
  go_wp2_with fail
  refine (root_neg _ _ h0).mono ?_
  rintro e w1 ⟨rfl, rfl⟩
  go_wp2_with fail
  refine (same_hit 1 1 _ Hg).mono ?_
  rintro e w2 ⟨rfl, hb2⟩
  have Hb2 : Hid (Below w1.heap.size w1 w2) := hb2
  have Hg2 : Hid (Et w2) := Et.below Hg hb2
  clear hb2
  go_wp2_with fail
  refine (small_no _ _ Ha).mono ?_
  rintro e w3 ⟨rfl, rfl⟩
  go_wp2_with fail
  refine (small_any _ _).mono ?_
  rintro e w3 ⟨tb, rfl, rfl⟩
  go_wp2_with fail
  refine (small_any _ _).mono ?_
  rintro e w3 ⟨tc, rfl, rfl⟩
  go_wp2_with fail
  refine (small_any _ _).mono ?_
  rintro e w3 ⟨td, rfl, rfl⟩
  go_wp2_with fail
  refine (far_bad _ _ _ _ _ (fun h => Ha h.1)).mono ?_
  rintro e w3 ⟨rfl, rfl⟩
  go_wp2_with fail
  refine (same_hit 1 1 _ Hg2).mono ?_
  rintro e w4 ⟨rfl, hb4⟩
  have Hb4 : Hid (Below w3.heap.size w3 w4) := hb4
  clear hb4
  go_wp2
  go_ret
  exact ⟨rfl, Hb2.out.trans (Hb4.out.mono Hb2.out.size)⟩

set_option maxHeartbeats 1000000 in
theorem neg_bad1 (n a b c d : Int) (w : World) (hg : Et w) (h0 : n < 0) (ka : In6 a) (kb : ¬ In6 b) :
    Calls Tryd.prog 3 #[.int .i64 n, .int .i64 a, .int .i64 b, .int .i64 c, .int .i64 d] w fun e w' => e = .returned (.bool true) ∧ Below w.heap.size w w' := by
  have Hg : Hid (Et w) := hg
  have Ha : Hid (In6 a) := ka
  have Hb : Hid (¬ In6 b) := kb
  clear hg ka kb
  go_enter Tryd.func3, Tryd.ntmps3
  go_wp2_with fail
  refine (root_neg _ _ h0).mono ?_
  rintro e w1 ⟨rfl, rfl⟩
  go_wp2_with fail
  refine (same_hit 1 1 _ Hg).mono ?_
  rintro e w2 ⟨rfl, hb2⟩
  have Hb2 : Hid (Below w1.heap.size w1 w2) := hb2
  have Hg2 : Hid (Et w2) := Et.below Hg hb2
  clear hb2
  go_wp2_with fail
  refine (small_yes _ _ Ha).mono ?_
  rintro e w3 ⟨rfl, rfl⟩
  go_wp2_with fail
  refine (small_no _ _ Hb).mono ?_
  rintro e w3 ⟨rfl, rfl⟩
  go_wp2_with fail
  refine (small_any _ _).mono ?_
  rintro e w3 ⟨tc, rfl, rfl⟩
  go_wp2_with fail
  refine (small_any _ _).mono ?_
  rintro e w3 ⟨td, rfl, rfl⟩
  go_wp2_with fail
  refine (far_bad _ _ _ _ _ (fun h => Hb h.2.1)).mono ?_
  rintro e w3 ⟨rfl, rfl⟩
  go_wp2_with fail
  refine (same_hit 1 1 _ Hg2).mono ?_
  rintro e w4 ⟨rfl, hb4⟩
  have Hb4 : Hid (Below w3.heap.size w3 w4) := hb4
  clear hb4
  go_wp2
  go_ret
  exact ⟨rfl, Hb2.out.trans (Hb4.out.mono Hb2.out.size)⟩

set_option maxHeartbeats 1000000 in
theorem neg_bad2 (n a b c d : Int) (w : World) (hg : Et w) (h0 : n < 0) (ka : In6 a) (kb : In6 b) (kc : ¬ In6 c) :
    Calls Tryd.prog 3 #[.int .i64 n, .int .i64 a, .int .i64 b, .int .i64 c, .int .i64 d] w fun e w' => e = .returned (.bool true) ∧ Below w.heap.size w w' := by
  have Hg : Hid (Et w) := hg
  have Ha : Hid (In6 a) := ka
  have Hb : Hid (In6 b) := kb
  have Hc : Hid (¬ In6 c) := kc
  clear hg ka kb kc
  go_enter Tryd.func3, Tryd.ntmps3
  go_wp2_with fail
  refine (root_neg _ _ h0).mono ?_
  rintro e w1 ⟨rfl, rfl⟩
  go_wp2_with fail
  refine (same_hit 1 1 _ Hg).mono ?_
  rintro e w2 ⟨rfl, hb2⟩
  have Hb2 : Hid (Below w1.heap.size w1 w2) := hb2
  have Hg2 : Hid (Et w2) := Et.below Hg hb2
  clear hb2
  go_wp2_with fail
  refine (small_yes _ _ Ha).mono ?_
  rintro e w3 ⟨rfl, rfl⟩
  go_wp2_with fail
  refine (small_yes _ _ Hb).mono ?_
  rintro e w3 ⟨rfl, rfl⟩
  go_wp2_with fail
  refine (small_no _ _ Hc).mono ?_
  rintro e w3 ⟨rfl, rfl⟩
  go_wp2_with fail
  refine (small_any _ _).mono ?_
  rintro e w3 ⟨td, rfl, rfl⟩
  go_wp2_with fail
  refine (far_bad _ _ _ _ _ (fun h => Hc h.2.2.1)).mono ?_
  rintro e w3 ⟨rfl, rfl⟩
  go_wp2_with fail
  refine (same_hit 1 1 _ Hg2).mono ?_
  rintro e w4 ⟨rfl, hb4⟩
  have Hb4 : Hid (Below w3.heap.size w3 w4) := hb4
  clear hb4
  go_wp2
  go_ret
  exact ⟨rfl, Hb2.out.trans (Hb4.out.mono Hb2.out.size)⟩

set_option maxHeartbeats 1000000 in
theorem neg_bad3 (n a b c d : Int) (w : World) (hg : Et w) (h0 : n < 0) (ka : In6 a) (kb : In6 b) (kc : In6 c) (kd : ¬ In6 d) :
    Calls Tryd.prog 3 #[.int .i64 n, .int .i64 a, .int .i64 b, .int .i64 c, .int .i64 d] w fun e w' => e = .returned (.bool true) ∧ Below w.heap.size w w' := by
  have Hg : Hid (Et w) := hg
  have Ha : Hid (In6 a) := ka
  have Hb : Hid (In6 b) := kb
  have Hc : Hid (In6 c) := kc
  have Hd : Hid (¬ In6 d) := kd
  clear hg ka kb kc kd
  go_enter Tryd.func3, Tryd.ntmps3
  go_wp2_with fail
  refine (root_neg _ _ h0).mono ?_
  rintro e w1 ⟨rfl, rfl⟩
  go_wp2_with fail
  refine (same_hit 1 1 _ Hg).mono ?_
  rintro e w2 ⟨rfl, hb2⟩
  have Hb2 : Hid (Below w1.heap.size w1 w2) := hb2
  have Hg2 : Hid (Et w2) := Et.below Hg hb2
  clear hb2
  go_wp2_with fail
  refine (small_yes _ _ Ha).mono ?_
  rintro e w3 ⟨rfl, rfl⟩
  go_wp2_with fail
  refine (small_yes _ _ Hb).mono ?_
  rintro e w3 ⟨rfl, rfl⟩
  go_wp2_with fail
  refine (small_yes _ _ Hc).mono ?_
  rintro e w3 ⟨rfl, rfl⟩
  go_wp2_with fail
  refine (small_no _ _ Hd).mono ?_
  rintro e w3 ⟨rfl, rfl⟩
  go_wp2_with fail
  refine (far_bad _ _ _ _ _ (fun h => Hd h.2.2.2)).mono ?_
  rintro e w3 ⟨rfl, rfl⟩
  go_wp2_with fail
  refine (same_hit 1 1 _ Hg2).mono ?_
  rintro e w4 ⟨rfl, hb4⟩
  have Hb4 : Hid (Below w3.heap.size w3 w4) := hb4
  clear hb4
  go_wp2
  go_ret
  exact ⟨rfl, Hb2.out.trans (Hb4.out.mono Hb2.out.size)⟩

theorem walk (a0 a1 a2 a3 a4 : Int) (w0 : (Lit.int .i64 a0).wf = true) (_ : (Lit.int .i64 a1).wf = true) (_ : (Lit.int .i64 a2).wf = true) (_ : (Lit.int .i64 a3).wf = true) (_ : (Lit.int .i64 a4).wf = true) (w : World) (hg : Et w) :
    Calls Tryd.prog 3 #[.int .i64 a0, .int .i64 a1, .int .i64 a2, .int .i64 a3, .int .i64 a4] w fun e w' => e = .returned (.bool true) ∧ Below w.heap.size w w' := by
  have hb := bounds_i64 w0
  have h9 : a0 ≤ 9223372036854775807 := by omega
  clear hb
  by_cases h0 : a0 < 0
  · by_cases ka : In6 a1
    · by_cases kb : In6 a2
      · by_cases kc : In6 a3
        · by_cases kd : In6 a4
          · exact neg_ok a0 a1 a2 a3 a4 w hg h0 ka kb kc kd
          · exact neg_bad3 a0 a1 a2 a3 a4 w hg h0 ka kb kc kd
        · exact neg_bad2 a0 a1 a2 a3 a4 w hg h0 ka kb kc
      · exact neg_bad1 a0 a1 a2 a3 a4 w hg h0 ka kb
    · exact neg_bad0 a0 a1 a2 a3 a4 w hg h0 ka
  · have h1 : 0 ≤ a0 := by omega
    by_cases ka : In6 a1
    · by_cases kb : In6 a2
      · by_cases kc : In6 a3
        · by_cases kd : In6 a4
          · exact pos_ok a0 a1 a2 a3 a4 w hg h1 h9 ka kb kc kd
          · exact pos_bad3 a0 a1 a2 a3 a4 w hg h1 h9 ka kb kc kd
        · exact pos_bad2 a0 a1 a2 a3 a4 w hg h1 h9 ka kb kc
      · exact pos_bad1 a0 a1 a2 a3 a4 w hg h1 h9 ka kb
    · exact pos_bad0 a0 a1 a2 a3 a4 w hg h1 h9 ka
end Go.Proofs.YtmggciglokjcbaaDoor.fixRoots
