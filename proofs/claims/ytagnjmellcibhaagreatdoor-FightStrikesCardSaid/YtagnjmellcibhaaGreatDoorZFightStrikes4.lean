/- a unit that is to be put: what is wrong, and what comes of it. · Worlds with which nothing is wrong, unit by unit and job by job; a unit that is put keeps one right. Plain mathematics. · Kinds that are right: their numbers. · A unit that is put keeps a world right, and its cell is taken then. Plain mathematics. · A world's ids rise: each is one unit's. Plain mathematics. · Fight: who is struck is near. Plain mathematics. · api.Event: records in memory. · Fight: all strike at once: plain mathematics. · The reference's way to find whom a unit strikes: plain mathematics. · What the reference answers of roots, and of how far it is. · How far two cells are, by the reference. · How far two cells are, by the reference, as a number. · fight.apart, and target's three functions. · fight.target's three functions; cmp.Or of two numbers. · A world's value: its five slices; its field. -/
import Derived.Test.YtagnjmellcibhaaGreatDoorZFightStrikes3
import Derived.Test.YtagnjmellcibhaaGreatDoorZFightStrikes2
import Derived.Test.YtagnjmellcibhaaGreatDoorZFightStrikes1
import Derived.Test.YtagnjmellcibhaaGreatDoorRows
import Derived.BigQuiet
import Derived.LoopN
namespace Go.Proofs.YtagnjmellcibhaaGreatDoor
open Go.RowKit
set_option linter.unusedVariables false

namespace Wd
/-- what is wrong with a unit that is to be put. -/
def placeFault (ks : List KV) (W : WV) (pl kd at_ : Int) : Int :=
  if 40 ≤ (W.us.length : Int) ∨ 1000000 ≤ W.next then 4
  else if ¬ (0 ≤ pl ∧ pl < (W.gold.length : Int)) ∨ ¬ (0 ≤ kd ∧ kd < (ks.length : Int)) then 1
  else if ¬ (0 ≤ at_ ∧ at_ < (W.gs.length : Int)) then 6
  else match ks[kd.toNat]? with
    | some k => if open_ W.gs W.us at_ k.f = false then 7 else 0
    | none => 1
theorem pf4 {ks : List KV} {W : WV} {pl kd at_ : Int} (h : 40 ≤ (W.us.length : Int) ∨ 1000000 ≤ W.next) : placeFault ks W pl kd at_ = 4 := by unfold placeFault; rw [if_pos h]
theorem pf1 {ks : List KV} {W : WV} {pl kd at_ : Int} (h : ¬ (40 ≤ (W.us.length : Int) ∨ 1000000 ≤ W.next)) (h1 : ¬ (0 ≤ pl ∧ pl < (W.gold.length : Int)) ∨ ¬ (0 ≤ kd ∧ kd < (ks.length : Int))) : placeFault ks W pl kd at_ = 1 := by unfold placeFault; rw [if_neg h, if_pos h1]
theorem pf6 {ks : List KV} {W : WV} {pl kd at_ : Int} (h : ¬ (40 ≤ (W.us.length : Int) ∨ 1000000 ≤ W.next)) (h1 : 0 ≤ pl ∧ pl < (W.gold.length : Int)) (h2 : 0 ≤ kd ∧ kd < (ks.length : Int)) (h3 : ¬ (0 ≤ at_ ∧ at_ < (W.gs.length : Int))) : placeFault ks W pl kd at_ = 6 := by unfold placeFault; rw [if_neg h, if_neg (by omega), if_pos h3]
theorem pfk {ks : List KV} {W : WV} {pl kd at_ : Int} {k : KV} (h : ¬ (40 ≤ (W.us.length : Int) ∨ 1000000 ≤ W.next)) (h1 : 0 ≤ pl ∧ pl < (W.gold.length : Int)) (h2 : 0 ≤ kd ∧ kd < (ks.length : Int)) (h3 : 0 ≤ at_ ∧ at_ < (W.gs.length : Int)) (hk : ks[kd.toNat]? = some k) : placeFault ks W pl kd at_ = if open_ W.gs W.us at_ k.f = false then 7 else 0 := by unfold placeFault; rw [if_neg h, if_neg (by omega), if_neg (by omega), hk]
end Wd
structure WRight (ks : List KV) (W : WV) : Prop where
  kinds : Kd.kindsFault (ks.map KV.k) = 0
  good : ∃ Wn Hn : Nat, W.wide = Wn ∧ W.high = Hn ∧ Fd.Good Wn Hn W.gs W.os
  nums : Wd.numsBad W = false
  ul : W.us.length ≤ 40
  units : Wd.unitsGo ks W 0 W.us = 0
  ql : W.qs.length ≤ 12
  jobs : Wd.jobsGo ks W W.qs = 0
theorem wright_of {ks : List KV} {W : WV} (h : Wd.wfault ks W = 0) : WRight ks W := by
  unfold Wd.wfault at h
  by_cases h0 : Wd.ground ks W = 0
  · rw [if_neg (by rw [h0]; simp)] at h
    cases h1 : Wd.numsBad W with
    | true => rw [h1, if_pos rfl] at h; cases h
    | false =>
      rw [h1, if_neg (by simp)] at h
      by_cases h2 : 40 < W.us.length
      · rw [if_pos h2] at h; cases h
      · rw [if_neg h2] at h
        by_cases h3 : Wd.unitsGo ks W 0 W.us = 0
        · rw [if_neg (by rw [h3]; simp)] at h
          by_cases h4 : 12 < W.qs.length
          · rw [if_pos h4] at h; cases h
          · rw [if_neg h4] at h
            unfold Wd.ground at h0
            by_cases h5 : Kd.kindsFault (ks.map KV.k) = 0
            · rw [if_pos h5] at h0
              exact ⟨h5, Fd.fault_zero h0, h1, by omega, h3, by omega, h⟩
            · rw [if_neg h5] at h0; exact absurd h0 h5
        · rw [if_pos h3] at h; exact absurd h h3
  · rw [if_pos h0] at h; exact absurd h h0
theorem WRight.len {ks : List KV} {W : WV} (h : WRight ks W) : WLen W := by
  obtain ⟨Wn, Hn, -, -, G⟩ := h.good
  have h1 := G.pos
  have h2 := G.gl
  have h3 := G.ol
  have h4 := (nums_ok h.nums).2
  have h5 := h.ul
  have h6 := h.ql
  exact ⟨by omega, by omega, by omega, by omega, by omega⟩
namespace Wd
/-- what is told where a unit is put. -/
def putFault (ks : List KV) (W : WV) (pl kd at_ : Int) : Int := if wfault ks W = 0 then placeFault ks W pl kd at_ else wfault ks W
def newUnit (ks : List KV) (W : WV) (pl kd at_ : Int) : UnV := ⟨W.next, pl, kd, at_, (match ks[kd.toNat]? with | some k => k.n0 | none => 0), 0, 0, 0⟩
/-- the world behind it. -/
def put (ks : List KV) (W : WV) (pl kd at_ : Int) : WV := { W with next := W.next + 1, us := W.us ++ [newUnit ks W pl kd at_] }
def placed (ks : List KV) (W : WV) (pl kd at_ : Int) : WV := if putFault ks W pl kd at_ = 0 then put ks W pl kd at_ else WV.zero
end Wd
theorem placed_bad {ks : List KV} {W : WV} {pl kd at_ : Int} (h : Wd.putFault ks W pl kd at_ ≠ 0) : Wd.placed ks W pl kd at_ = WV.zero := by unfold Wd.placed; rw [if_neg h]
theorem placed_ok {ks : List KV} {W : WV} {pl kd at_ : Int} (h : Wd.putFault ks W pl kd at_ = 0) : Wd.placed ks W pl kd at_ = Wd.put ks W pl kd at_ := by unfold Wd.placed; rw [if_pos h]
theorem zero_wo (w : World) (base : Nat) : Wo w base (.agg #[.int .i64 0, .int .i64 0, .int .i64 0, .int .i64 0, .slice none 0 0, .slice none 0 0, .slice none 0 0, .slice none 0 0, .slice none 0 0]) WV.zero := ⟨_, _, _, _, _, rfl, Ow.nil _ _, Ow.nil _ _, Ow.nil _ _, Uno.nil _ _, Jbo.nil _ _⟩
theorem pf_zero {ks : List KV} {W : WV} {pl kd at_ : Int} (h : Wd.placeFault ks W pl kd at_ = 0) : ¬ (40 ≤ (W.us.length : Int) ∨ 1000000 ≤ W.next) ∧ (0 ≤ pl ∧ pl < (W.gold.length : Int)) ∧ (0 ≤ at_ ∧ at_ < (W.gs.length : Int)) ∧ ∃ kn k, kd = ((kn : Nat) : Int) ∧ kn < ks.length ∧ ks[kn]? = some k ∧ Wd.open_ W.gs W.us at_ k.f = true := by
  unfold Wd.placeFault at h
  split at h
  · cases h
  · rename_i h1
    split at h
    · cases h
    · rename_i h2
      split at h
      · cases h
      · rename_i h3
        split at h
        · rename_i k hk
          split at h
          · cases h
          · rename_i h4
            have hl := (List.getElem?_eq_some_iff.1 hk).1
            exact ⟨h1, by omega, by omega, kd.toNat, k, by omega, hl, hk, by simpa using h4⟩
        · cases h
end Go.Proofs.YtagnjmellcibhaaGreatDoor

namespace Go.Proofs.YtagnjmellcibhaaGreatDoor
set_option linter.unusedVariables false
namespace Wd

theorem unitsGo_zero {ks : List KV} {W : WV} : ∀ (l : List UnV) (i : Nat), unitsGo ks W i l = 0 ↔ ∀ (j : Nat) (u : UnV), l[j]? = some u → unitFault ks W (i + j) u = 0
  | [], i => by
    constructor
    · intro _ j u h; simp at h
    · intro _; rfl
  | x :: l, i => by
    unfold unitsGo
    constructor
    · intro h
      split at h
      · rename_i h0
        intro j u hj
        cases j with
        | zero => simp at hj; subst hj; exact h0
        | succ j =>
          have := (unitsGo_zero l (i + 1)).1 h j u (by simpa using hj)
          rwa [show i + 1 + j = i + (j + 1) by omega] at this
      · rename_i h0; exact absurd h h0
    · intro h
      rw [if_pos (show unitFault ks W i x = 0 from h 0 x rfl)]
      refine (unitsGo_zero l (i + 1)).2 fun j u hj => ?_
      have := h (j + 1) u (by simpa using hj)
      rwa [show i + (j + 1) = i + 1 + j by omega] at this
theorem jobsGo_zero {ks : List KV} {W : WV} : ∀ (l : List JbV), jobsGo ks W l = 0 ↔ ∀ j ∈ l, jobFault ks W j = 0
  | [] => by
    constructor
    · intro _ j h; cases h
    · intro _; rfl
  | x :: l => by
    unfold jobsGo
    constructor
    · intro h
      split at h
      · rename_i h0
        intro j hj
        rcases List.mem_cons.1 hj with rfl | hj
        · exact h0
        · exact (jobsGo_zero l).1 h j hj
      · rename_i h0; exact absurd h h0
    · intro h
      rw [if_pos (h x (List.mem_cons_self ..))]
      exact (jobsGo_zero l).2 fun j hj => h j (List.mem_cons_of_mem _ hj)
theorem nor1 {a : Bool} (h : ¬ (!a) = true) : a = true := by cases a <;> simp_all
theorem nor2 {a b : Bool} (h : ¬ (!a || !b) = true) : a = true ∧ b = true := by cases a <;> cases b <;> simp_all
theorem nor3 {a b c : Bool} (h : ¬ (!a || (!b || !c)) = true) : a = true ∧ b = true ∧ c = true := by cases a <;> cases b <;> cases c <;> simp_all
theorem nor6 {a b : Bool} (h : ¬ (!a || b) = true) : a = true ∧ b = false := by cases a <;> cases b <;> simp_all
/-- nothing is wrong with a unit. -/
structure UFine (ks : List KV) (W : WV) (i : Nat) (u : UnV) (k : KV) : Prop where
  id1 : 1 ≤ u.id
  id2 : u.id ≤ W.next - 1
  up : notAbove W.us i u = false
  p : 0 ≤ u.player ∧ u.player < (W.gold.length : Int)
  k0 : 0 ≤ u.kind ∧ u.kind < (ks.length : Int)
  kk : ks[u.kind.toNat]? = some k
  life : 1 ≤ u.life ∧ u.life ≤ k.n0
  load : 0 ≤ u.load ∧ u.load ≤ k.n7
  task : 0 ≤ u.task ∧ u.task ≤ 2
  at_ : 0 ≤ u.at_ ∧ u.at_ < (W.gs.length : Int)
  goal : 0 ≤ u.goal ∧ u.goal < (W.gs.length : Int)
  opn : open_ W.gs (W.us.take i) u.at_ k.f = true
  rest : u.goal = 0 ∨ u.task ≠ 0
theorem unit_fine {ks : List KV} {W : WV} {i : Nat} {u : UnV} : unitFault ks W i u = 0 ↔ ∃ k, UFine ks W i u k := by
  constructor
  · intro h
    unfold unitFault at h
    split at h
    · cases h
    rename_i h1
    split at h
    · cases h
    rename_i h2
    split at h
    · cases h
    rename_i h3
    split at h
    · cases h
    rename_i k hk
    unfold kindPart at h
    split at h
    · cases h
    rename_i h4
    split at h
    · cases h
    rename_i h5
    split at h
    · cases h
    rename_i h6
    have g1 := of_decide_eq_true (nor1 h1)
    have g3 := nor2 h3
    have g4 := nor3 h4
    have g5 := nor2 h5
    have g6 := nor6 h6
    refine ⟨k, ⟨g1.1, g1.2, by simpa using h2, of_decide_eq_true g3.1, of_decide_eq_true g3.2, hk, of_decide_eq_true g4.1, of_decide_eq_true g4.2.1, of_decide_eq_true g4.2.2, of_decide_eq_true g5.1, of_decide_eq_true g5.2, g6.1, ?_⟩⟩
    have g7 := g6.2
    simp only [Bool.and_eq_false_iff, bne_eq_false_iff_eq, beq_eq_false_iff_ne] at g7
    exact g7
  · rintro ⟨k, h⟩
    unfold unitFault
    rw [if_neg (by simp [h.id1, h.id2]), if_neg (by simp [h.up]), if_neg (by simp [has, h.p.1, h.p.2, h.k0.1, h.k0.2]), h.kk]
    show kindPart W (W.us.take i) u k = 0
    unfold kindPart
    rw [if_neg (by simp [h.life.1, h.life.2, h.load.1, h.load.2, h.task.1, h.task.2]), if_neg (by simp [has, h.at_.1, h.at_.2, h.goal.1, h.goal.2]), if_neg]
    simp only [h.opn, Bool.not_true, Bool.false_or, Bool.and_eq_true, bne_iff_ne, beq_iff_eq, ne_eq, not_and]
    intro hg ht
    rcases h.rest with h1 | h1
    · exact hg h1
    · exact h1 ht
/-- a world with which nothing is wrong. -/
theorem wfault_zero {ks : List KV} {W : WV} (hk : Kd.kindsFault (ks.map KV.k) = 0) (hf : Fd.fault W.wide W.high W.gs W.os = 0) (hn : numsBad W = false) (hu : W.us.length ≤ 40) (hus : ∀ (i : Nat) (u : UnV), W.us[i]? = some u → ∃ k, UFine ks W i u k) (hq : W.qs.length ≤ 12) (hqs : ∀ j ∈ W.qs, jobFault ks W j = 0) : wfault ks W = 0 := by
  have h1 : ground ks W = 0 := by unfold ground; rw [if_pos hk, hf]
  have h2 : unitsGo ks W 0 W.us = 0 := (unitsGo_zero W.us 0).2 fun j u hj => by rw [Nat.zero_add]; exact unit_fine.2 (hus j u hj)
  unfold wfault
  rw [if_neg (by rw [h1]; simp), hn, if_neg (by simp), if_neg (by omega), if_neg (by rw [h2]; simp), if_neg (by omega)]
  exact (jobsGo_zero W.qs).2 hqs
end Wd
theorem WRight.fine {ks : List KV} {W : WV} (h : WRight ks W) {i : Nat} {u : UnV} (hu : W.us[i]? = some u) : ∃ k, Wd.UFine ks W i u k := by
  have := (Wd.unitsGo_zero W.us 0).1 h.units i u hu
  rw [Nat.zero_add] at this
  exact Wd.unit_fine.1 this
theorem WRight.job {ks : List KV} {W : WV} (h : WRight ks W) {j : JbV} (hj : j ∈ W.qs) : Wd.jobFault ks W j = 0 := (Wd.jobsGo_zero W.qs).1 h.jobs j hj
theorem WRight.zero {ks : List KV} {W : WV} (h : WRight ks W) : Wd.wfault ks W = 0 := by
  obtain ⟨Wn, Hn, e1, e2, G⟩ := h.good
  exact Wd.wfault_zero h.kinds (by rw [e1, e2]; exact Fd.fault_good G) h.nums h.ul (fun i u hu => h.fine hu) h.ql (fun j hj => h.job hj)
end Go.Proofs.YtagnjmellcibhaaGreatDoor

namespace Go.Proofs.YtagnjmellcibhaaGreatDoor
open Go.RowKit
set_option linter.unusedVariables false

theorem kgo_nums : ∀ {l acc : List Kd.K}, Kd.kindsGo acc l = 0 → ∀ k ∈ l, Kd.numsFault k.nums = 0
  | [], _, _, k, hk => by simp at hk
  | x :: l, acc, h, k, hk => by
    unfold Kd.kindsGo at h
    split at h
    · rename_i h0
      rcases List.mem_cons.1 hk with rfl | hk
      · unfold Kd.kindFault at h0
        split at h0
        · split at h0
          · omega
          · exact h0
        · omega
      · exact kgo_nums h k hk
    · rename_i h0
      exact absurd h h0
/-- kinds that are right. -/
theorem kinds_right {ks : List KV} (h : Kd.kindsFault (ks.map KV.k) = 0) : ks.length ≤ 8 ∧ ∀ k ∈ ks, 0 ≤ k.n5 ∧ k.n5 ≤ 1000 ∧ 0 < k.n0 ∧ k.n0 ≤ 1000 := by
  unfold Kd.kindsFault at h
  split at h
  · omega
  · rename_i h8
    refine ⟨by simpa using h8, fun k hk => ?_⟩
    have := kgo_nums h k.k (List.mem_map.2 ⟨k, hk, rfl⟩)
    unfold Kd.numsFault at this
    split at this
    · omega
    · rename_i h1
      rw [Bool.not_eq_true, List.any_eq_false] at h1
      have a := h1 k.n0 (by simp [KV.k])
      have b := h1 k.n5 (by simp [KV.k])
      simp only [decide_eq_true_eq] at a b
      split at this
      · omega
      · rename_i h2
        have : (k.k.nums).getD 0 0 = k.n0 := rfl
        omega

end Go.Proofs.YtagnjmellcibhaaGreatDoor

namespace Go.Proofs.YtagnjmellcibhaaGreatDoor
set_option linter.unusedVariables false

theorem kind_nums {ks : List KV} (h : Kd.kindsFault (ks.map KV.k) = 0) {k : KV} (hk : k ∈ ks) : 1 ≤ k.n0 ∧ 0 ≤ k.n7 ∧ 0 ≤ k.n4 ∧ k.n4 ≤ 4 ∧ 0 ≤ k.n1 ∧ k.n1 ≤ 1000 ∧ 0 ≤ k.n2 ∧ k.n2 ≤ 12 ∧ 0 ≤ k.n3 ∧ k.n3 ≤ 12 ∧ k.n0 ≤ 1000 ∧ k.n7 ≤ 1000 := by
  unfold Kd.kindsFault at h
  split at h
  · omega
  · have := kgo_nums h k.k (List.mem_map.2 ⟨k, hk, rfl⟩)
    unfold Kd.numsFault at this
    split at this
    · omega
    · rename_i h1
      rw [Bool.not_eq_true, List.any_eq_false] at h1
      have a := h1 k.n0 (by simp [KV.k])
      have b := h1 k.n7 (by simp [KV.k])
      have c := h1 k.n4 (by simp [KV.k])
      have d := h1 k.n1 (by simp [KV.k])
      have e := h1 k.n2 (by simp [KV.k])
      have f := h1 k.n3 (by simp [KV.k])
      simp only [decide_eq_true_eq] at a b c d e f
      split at this
      · omega
      · rename_i h2
        have e0 : (k.k.nums).getD 0 0 = k.n0 := rfl
        have e4 : (k.k.nums).getD 4 0 = k.n4 := rfl
        have e2 : (k.k.nums).getD 2 0 = k.n2 := rfl
        have e3 : (k.k.nums).getD 3 0 = k.n3 := rfl
        omega
theorem find_more {us : List UnV} {n : UnV} {p : UnV → Bool} {u : UnV} (h : us.find? p = some u) : (us ++ [n]).find? p = some u := by
  rw [List.find?_append, h]; rfl
theorem put_right {ks : List KV} {W : WV} {pl kd at_ : Int} (h : WRight ks W) (hp : Wd.placeFault ks W pl kd at_ = 0) : Wd.wfault ks (Wd.put ks W pl kd at_) = 0 := by
  obtain ⟨h40, hpl, hat, kn, k, rfl, hkl, hkk, hop⟩ := pf_zero hp
  have hnu : Wd.newUnit ks W pl (kn : Nat) at_ = ⟨W.next, pl, (kn : Nat), at_, k.n0, 0, 0, 0⟩ := by unfold Wd.newUnit; rw [Int.toNat_natCast, hkk]
  have hn1 : 1 ≤ W.next := by
    have := (nums_ok h.nums).1
    unfold Wd.off at this
    simp at this
    omega
  have hk := kind_nums h.kinds (List.mem_of_getElem? hkk)
  obtain ⟨Wn, Hn, e1, e2, G⟩ := h.good
  unfold Wd.put
  rw [hnu]
  refine Wd.wfault_zero h.kinds (by show Fd.fault W.wide W.high W.gs W.os = 0; rw [e1, e2]; exact Fd.fault_good G) ?_ ?_ ?_ h.ql ?_
  · have hn := h.nums
    unfold Wd.numsBad at hn ⊢
    simp only [Bool.or_eq_false_iff] at hn ⊢
    refine ⟨hn.1, ?_, hn.2.2⟩
    unfold Wd.off
    simp
    omega
  · show (W.us ++ [_]).length ≤ 40
    rw [List.length_append]
    have := h40
    simp only [List.length_cons, List.length_nil]
    omega
  · intro i u hu
    have hu' : (W.us ++ [(⟨W.next, pl, (kn : Nat), at_, k.n0, 0, 0, 0⟩ : UnV)])[i]? = some u := hu
    rcases Nat.lt_or_ge i W.us.length with hi | hi
    · rw [List.getElem?_append_left hi] at hu'
      obtain ⟨k0, f⟩ := h.fine hu'
      refine ⟨k0, ⟨f.id1, ?_, ?_, f.p, f.k0, f.kk, f.life, f.load, f.task, f.at_, f.goal, ?_, f.rest⟩⟩
      · have := f.id2
        show u.id ≤ W.next + 1 - 1
        omega
      · have := f.up
        show Wd.notAbove (W.us ++ [_]) i u = false
        unfold Wd.notAbove at this ⊢
        cases i with
        | zero => rfl
        | succ j =>
          simp only at this ⊢
          rw [List.getElem?_append_left (by omega)]
          exact this
      · show Wd.open_ W.gs ((W.us ++ [_]).take i) u.at_ k0.f = true
        rw [List.take_append_of_le_length (by omega)]
        exact f.opn
    · rw [List.getElem?_append_right hi] at hu'
      have hil : i = W.us.length := by
        rcases Nat.eq_zero_or_pos (i - W.us.length) with h0 | h0
        · omega
        · rw [List.getElem?_eq_none (by simp; omega)] at hu'; cases hu'
      subst hil
      rw [Nat.sub_self] at hu'
      injection hu' with hu'
      subst hu'
      refine ⟨k, ⟨hn1, ?_, ?_, hpl, ⟨by simp, by simp; omega⟩, by simpa using hkk, ⟨hk.1, Int.le_refl _⟩, ⟨Int.le_refl _, hk.2.1⟩, ⟨by simp, by simp⟩, hat, ⟨by simp, Int.lt_of_le_of_lt hat.1 hat.2⟩, ?_, .inl rfl⟩⟩
      · show W.next ≤ W.next + 1 - 1
        omega
      · show Wd.notAbove (W.us ++ [_]) W.us.length _ = false
        unfold Wd.notAbove
        cases hl : W.us.length with
        | zero => rfl
        | succ j =>
          simp only
          rw [List.getElem?_append_left (by omega)]
          cases hx : W.us[j]? with
          | none => rfl
          | some x =>
            obtain ⟨k0, f⟩ := h.fine hx
            have := f.id2
            simp
            omega
      · show Wd.open_ W.gs ((W.us ++ [_]).take W.us.length) at_ k.f = true
        rw [List.take_left]
        exact hop
  · intro j hj
    have := h.job hj
    unfold Wd.jobFault at this ⊢
    cases hx : W.us.find? (fun u => u.id == j.unit) with
    | none => rw [hx] at this; cases this
    | some u =>
      rw [hx] at this
      have hm := find_more (n := (⟨W.next, pl, (kn : Nat), at_, k.n0, 0, 0, 0⟩ : UnV)) hx
      simp only [hm]
      exact this
/-- whoever comes next finds the cell taken. -/
theorem put_taken {ks : List KV} {W : WV} {pl kd at_ : Int} (h : WRight ks W) (hp : Wd.placeFault ks W pl kd at_ = 0) : Wd.putFault ks (Wd.put ks W pl kd at_) pl kd at_ ≠ 0 := by
  unfold Wd.putFault
  rw [if_pos (put_right h hp)]
  intro h0
  obtain ⟨-, -, -, kn, k, hkd, -, -, hop⟩ := pf_zero h0
  unfold Wd.open_ at hop
  have : (Wd.put ks W pl kd at_).us.any (fun u => u.at_ == at_) = true := by
    refine List.any_eq_true.2 ⟨Wd.newUnit ks W pl kd at_, ?_, by simp [Wd.newUnit]⟩
    show _ ∈ W.us ++ [_]
    simp
  rw [this] at hop
  simp at hop
end Go.Proofs.YtagnjmellcibhaaGreatDoor

namespace Go.Proofs.YtagnjmellcibhaaGreatDoor
set_option linter.unusedVariables false

theorem ids_next {ks : List KV} {X : WV} (h : WRight ks X) {i : Nat} {a b : UnV} (ha : X.us[i]? = some a) (hb : X.us[i + 1]? = some b) : a.id < b.id := by
  obtain ⟨k, f⟩ := h.fine hb
  have := f.up
  simp only [Wd.notAbove, ha, decide_eq_false_iff_not] at this
  omega
theorem ids_rise {ks : List KV} {X : WV} (h : WRight ks X) : ∀ (d i : Nat) (a b : UnV), X.us[i]? = some a → X.us[i + d + 1]? = some b → a.id < b.id
  | 0, i, a, b, ha, hb => ids_next h ha hb
  | d + 1, i, a, b, ha, hb => by
    have hl : i + d + 1 < X.us.length := by have := (List.getElem?_eq_some_iff.1 hb).1; omega
    have h1 := ids_rise h d i a _ ha (List.getElem?_eq_getElem hl)
    have h2 := ids_next h (List.getElem?_eq_getElem hl) (show X.us[i + d + 1 + 1]? = some b from hb)
    omega
theorem id_one {ks : List KV} {X : WV} (h : WRight ks X) {i j : Nat} {a b : UnV} (ha : X.us[i]? = some a) (hb : X.us[j]? = some b) (e : a.id = b.id) : i = j := by
  rcases Nat.lt_trichotomy i j with hl | hl | hl
  · have := ids_rise h (j - i - 1) i a b ha (by rw [show i + (j - i - 1) + 1 = j by omega]; exact hb)
    omega
  · exact hl
  · have := ids_rise h (i - j - 1) j b a hb (by rw [show j + (i - j - 1) + 1 = i by omega]; exact ha)
    omega
theorem fst_is {ks : List KV} {X : WV} (h : WRight ks X) {n : Nat} {u : UnV} {id r : Int} (hu : X.us[n]? = some u) (hi : u.id = id) (hr : FstU (fun o => o.id == id) X.us r) : r = n := by
  rcases hr with ⟨-, hr⟩ | ⟨k, y, rfl, hk, hy, -⟩
  · have := List.any_eq_false.1 hr u (List.mem_of_getElem? hu)
    simp [hi] at this
  · have hyi : y.id = id := by simpa using hy
    rw [id_one h hk hu (by rw [hyi, hi])]
end Go.Proofs.YtagnjmellcibhaaGreatDoor

namespace Go.Proofs.YtagnjmellcibhaaGreatDoor
set_option linter.unusedVariables false

/-- who is struck. -/
theorem tg_who {ks : List KV} {X : WV} (h : WRight ks X) {W : Nat} {u : UnV} {k : KV} {t : Int} (ht : TgSays W u k X.us t) :
    (t = -1 ∧ (k.n1 = 0 ∨ foesU W u k.n2 X.us = [])) ∨ (k.n1 ≠ 0 ∧ ∃ (tn : Nat) (x : UnV) (x0 : UnV) (tl : List UnV), t = tn ∧ X.us[tn]? = some x ∧ foesU W u k.n2 X.us = x0 :: tl ∧ x = minU (keyU W u) x0 tl) := by
  rcases ht with ⟨h1, h2⟩ | ⟨-, h1, h2⟩ | ⟨h1, x0, tl, h2, h3⟩
  · exact .inl ⟨h2, .inl h1⟩
  · exact .inl ⟨h2, .inr h1⟩
  · have hm := minU_mem (keyU W u) tl x0
    rw [← h2] at hm
    have hm' := (List.mem_filter.1 hm).1
    obtain ⟨j, hj⟩ := List.mem_iff_getElem?.1 hm'
    rcases h3 with ⟨-, h3⟩ | ⟨tn, x, rfl, hx, hid, -⟩
    · have := List.any_eq_false.1 h3 _ hm'
      simp at this
    · have hid' : x.id = (minU (keyU W u) x0 tl).id := by simpa using hid
      have := id_one h hx hj hid'
      subst this
      rw [hx] at hj
      injection hj with hj
      exact .inr ⟨h1, tn, x, x0, tl, rfl, hx, h2, hj⟩
/-- of others the least way. -/
def LeastU (W : Nat) (u : UnV) (l : List UnV) (least : Int) : Prop :=
  (least = -1 ∧ ∀ x ∈ l, x.player = u.player) ∨ (∃ x ∈ l, x.player ≠ u.player ∧ least = farU W u x ∧ ∀ y ∈ l, y.player ≠ u.player → farU W u x ≤ farU W u y)
theorem LeastU.ge {W : Nat} {u : UnV} {l : List UnV} {least : Int} (h : LeastU W u l least) : -1 ≤ least ∧ least ≤ 200 := by
  rcases h with ⟨h, -⟩ | ⟨x, -, -, h, -⟩
  · omega
  · have := farN_ge W u.at_.toNat x.at_.toNat
    unfold farU at h
    omega
theorem LeastU.own {W : Nat} {u y : UnV} {l : List UnV} {least : Int} (h : LeastU W u l least) (hy : y.player = u.player) : LeastU W u (l ++ [y]) least := by
  rcases h with ⟨h1, h2⟩ | ⟨x, hx, h1, h2, h3⟩
  · refine .inl ⟨h1, fun z hz => ?_⟩
    rcases List.mem_append.1 hz with hz | hz
    · exact h2 z hz
    · simp at hz; subst hz; exact hy
  · refine .inr ⟨x, List.mem_append_left _ hx, h1, h2, fun z hz hn => ?_⟩
    rcases List.mem_append.1 hz with hz | hz
    · exact h3 z hz hn
    · simp at hz; subst hz; exact absurd hy hn
theorem LeastU.new {W : Nat} {u y : UnV} {l : List UnV} {least : Int} (h : LeastU W u l least) (hy : y.player ≠ u.player) (hl : least < 0 ∨ farU W u y < least) : LeastU W u (l ++ [y]) (farU W u y) := by
  refine .inr ⟨y, by simp, hy, rfl, fun z hz hn => ?_⟩
  rcases List.mem_append.1 hz with hz | hz
  · rcases h with ⟨h1, h2⟩ | ⟨x, hx, h1, h2, h3⟩
    · exact absurd (h2 z hz) hn
    · have := h3 z hz hn
      have := farN_ge W u.at_.toNat x.at_.toNat
      unfold farU at *
      omega
  · simp at hz; subst hz; exact Int.le_refl _
theorem LeastU.keep {W : Nat} {u y : UnV} {l : List UnV} {least : Int} (h : LeastU W u l least) (hl : ¬ least < 0) (hf : ¬ farU W u y < least) : LeastU W u (l ++ [y]) least := by
  rcases h with ⟨h1, h2⟩ | ⟨x, hx, h1, h2, h3⟩
  · omega
  · refine .inr ⟨x, List.mem_append_left _ hx, h1, h2, fun z hz hn => ?_⟩
    rcases List.mem_append.1 hz with hz | hz
    · exact h3 z hz hn
    · simp at hz; subst hz; omega
theorem foe_iff {W : Nat} {u : UnV} {rng : Int} {us : List UnV} {x : UnV} : x ∈ foesU W u rng us ↔ x ∈ us ∧ x.player ≠ u.player ∧ farU W u x ≤ rng := by
  unfold foesU
  rw [List.mem_filter]
  unfold safeU
  simp
/-- none is struck: none is near. -/
theorem near_none {W : Nat} {u : UnV} {k : KV} {us : List UnV} {least : Int} (h : LeastU W u us least) (hn : k.n1 = 0 ∨ foesU W u k.n2 us = []) : k.n1 = 0 ∨ least < 0 ∨ k.n2 < least := by
  rcases hn with hn | hn
  · exact .inl hn
  · rcases h with ⟨h1, -⟩ | ⟨x, hx, h1, h2, -⟩
    · exact .inr (.inl (by omega))
    · refine .inr (.inr ?_)
      by_cases hc : k.n2 < least
      · exact hc
      · have : x ∈ foesU W u k.n2 us := foe_iff.2 ⟨hx, h1, by omega⟩
        rw [hn] at this; cases this
theorem near_some {W : Nat} {u : UnV} {rng : Int} {us : List UnV} {least : Int} {x0 : UnV} {tl : List UnV} (h : LeastU W u us least) (hl : ∀ x ∈ us, 0 ≤ x.life ∧ x.life ≤ 1000000) (hf : foesU W u rng us = x0 :: tl) : farU W u (minU (keyU W u) x0 tl) = least := by
  have hm := minU_mem (keyU W u) tl x0
  rw [← hf] at hm
  obtain ⟨m1, m2, m3⟩ := foe_iff.1 hm
  rcases h with ⟨-, h2⟩ | ⟨x, hx, h1, h2, h3⟩
  · exact absurd (h2 _ m1) m2
  · have a1 := h3 _ m1 m2
    have hxf : x ∈ foesU W u rng us := foe_iff.2 ⟨hx, h1, by omega⟩
    rw [hf] at hxf
    have a2 := minU_le (keyU W u) tl x0 x hxf
    have a3 := hl x hx
    have a4 := hl _ m1
    generalize minU (keyU W u) x0 tl = m at *
    unfold keyU at a2
    omega
end Go.Proofs.YtagnjmellcibhaaGreatDoor

namespace Go.Proofs.YtagnjmellcibhaaGreatDoor
open Go.RowKit
set_option linter.unusedVariables false

structure EvV where
  what : Int
  unit : Int
  arg : Int
def EvV.val (k : EvV) : Value := .agg #[.int .i64 k.what, .int .i64 k.unit, .int .i64 k.arg]
/-- its cells, from an address on. -/
structure Evc (w : World) (y : Addr) (k : EvV) : Prop where
  c0 : w.cell? y = some (.int .i64 k.what)
  c1 : w.cell? ⟨y.block, y.off + 1, none⟩ = some (.int .i64 k.unit)
  c2 : w.cell? ⟨y.block, y.off + 2, none⟩ = some (.int .i64 k.arg)
theorem Evc.lt {w : World} {y : Addr} {k : EvV} (h : Evc w y k) : y.block < w.heap.size := cell_lt h.c0
theorem Evc.below {w w' : World} {y : Addr} {k : EvV} {B : Nat} (h : Evc w y k) (hb : Below B w w') (hy : y.block < B) : Evc w' y k :=
  ⟨by rw [hb.cell (p := y) hy]; exact h.c0, by rw [hb.cell (p := ⟨y.block, y.off + 1, none⟩) hy]; exact h.c1, by rw [hb.cell (p := ⟨y.block, y.off + 2, none⟩) hy]; exact h.c2⟩
/-- v is a slice of them. -/
def Evl (w : World) (v : Value) (ks : List EvV) : Prop := ∃ a c, v = .slice a ks.length c ∧ ks.length ≤ c ∧ c ≤ 9223372036854775807 ∧ (ks ≠ [] → ∃ x, a = some x ∧ x.block < w.heap.size ∧ ∀ (i : Nat) k, ks[i]? = some k → Evc w (x.add (i * 3)) k)
theorem Evl.below {w w' : World} {v : Value} {ks : List EvV} (h : Evl w v ks) (hb : Below w.heap.size w w') : Evl w' v ks := by
  obtain ⟨a, c, h1, h2, h3, h4⟩ := h
  refine ⟨a, c, h1, h2, h3, fun hn => ?_⟩
  obtain ⟨x, e, hx, hk⟩ := h4 hn
  exact ⟨x, e, Nat.lt_of_lt_of_le hx hb.size, fun i k hi => (hk i k hi).below hb (by rw [add_block]; exact hx)⟩
theorem Evc.mk' {w : World} {z : Nat} (k : EvV) (hz : w.heap.size = z) : Evc (w.alloc (.cells #[.int .i64 k.what, .int .i64 k.unit, .int .i64 k.arg] 68)) ⟨z, 0, none⟩ k := by
  subst hz
  constructor <;> simp
end Go.Proofs.YtagnjmellcibhaaGreatDoor

namespace Go.Proofs.YtagnjmellcibhaaGreatDoor
set_option linter.unusedVariables false

/-- where the first of which p holds stands, else -1. -/
def fsti (p : UnV → Bool) : List UnV → Int
  | [] => -1
  | x :: l => if p x then 0 else if fsti p l = -1 then -1 else fsti p l + 1
theorem fsti_fst (p : UnV → Bool) : ∀ l, FstU p l (fsti p l)
  | [] => .inl ⟨rfl, rfl⟩
  | x :: l => by
    unfold fsti
    cases hp : p x with
    | true => exact .inr ⟨0, x, by simp, rfl, hp, rfl⟩
    | false =>
      rw [if_neg (by simp)]
      rcases fsti_fst p l with ⟨h1, h2⟩ | ⟨k, y, h1, h2, h3, h4⟩
      · rw [if_pos h1]
        exact .inl ⟨rfl, by rw [List.any_cons, hp, h2]; rfl⟩
      · rw [if_neg (by omega)]
        exact .inr ⟨k + 1, y, by omega, by rw [List.getElem?_cons_succ]; exact h2, h3, by rw [List.take_succ_cons, List.any_cons, hp, h4]; rfl⟩
/-- whom a unit of a kind strikes. -/
def tgt (W : Nat) (u : UnV) (k : KV) (us : List UnV) : Int :=
  if k.n1 = 0 then -1 else match foesU W u k.n2 us with
    | [] => -1
    | x0 :: tl => fsti (fun o => o.id == (minU (keyU W u) x0 tl).id) us
theorem tg_eq {W : Nat} {u : UnV} {k : KV} {us : List UnV} {t : Int} (h : TgSays W u k us t) : t = tgt W u k us := by
  unfold tgt
  rcases h with ⟨h1, h2⟩ | ⟨h1, h2, h3⟩ | ⟨h1, x0, tl, h2, h3⟩
  · rw [if_pos h1]; exact h2
  · rw [if_neg h1, h2]; exact h3
  · rw [if_neg h1, h2]
    exact h3.one (fsti_fst _ _)
def tgtOf (ks : List KV) (W : Nat) (us : List UnV) (u : UnV) : Int := match ks[u.kind.toNat]? with
  | none => -1
  | some k => tgt W u k us
def hitOf (ks : List KV) (u : UnV) : Int := match ks[u.kind.toNat]? with
  | none => 0
  | some k => k.n1
/-- one strikes. -/
def stk (ks : List KV) (W : Nat) (us : List UnV) (s : List Int × List EvV) (u : UnV) : List Int × List EvV :=
  if tgtOf ks W us u = -1 then s else (s.1.set (tgtOf ks W us u).toNat (s.1.getD (tgtOf ks W us u).toNat 0 + hitOf ks u), s.2 ++ [⟨2, u.id, (us[(tgtOf ks W us u).toNat]?.map UnV.id).getD 0⟩])
def strikes (ks : List KV) (W : Nat) (us l : List UnV) : List Int × List EvV := l.foldl (stk ks W us) (List.replicate us.length 0, [])
theorem strikes_next {ks : List KV} {W : Nat} {us l : List UnV} {n : Nat} {u : UnV} (h : l[n]? = some u) : strikes ks W us (l.take (n + 1)) = stk ks W us (strikes ks W us (l.take n)) u := by
  obtain ⟨hi, e⟩ := List.getElem?_eq_some_iff.1 h
  unfold strikes
  rw [List.take_succ_eq_append_getElem hi, List.foldl_append, e]
  rfl
theorem stk_len {ks : List KV} {W : Nat} {us : List UnV} {s : List Int × List EvV} {u : UnV} : (stk ks W us s u).1.length = s.1.length := by
  unfold stk
  split
  · rfl
  · simp
theorem strikes_len {ks : List KV} {W : Nat} {us : List UnV} : ∀ (l : List UnV) (s : List Int × List EvV), (l.foldl (stk ks W us) s).1.length = s.1.length
  | [], s => rfl
  | u :: l, s => by
    rw [List.foldl_cons, strikes_len l, stk_len]
theorem strikes_len' {ks : List KV} {W : Nat} {us l : List UnV} : (strikes ks W us l).1.length = us.length := by
  unfold strikes
  rw [strikes_len]
  simp
/-- numbers from 0 to m. -/
def Upto (m : Int) (l : List Int) : Prop := ∀ x ∈ l, 0 ≤ x ∧ x ≤ m
theorem Upto.at_ {m : Int} {l : List Int} (h : Upto m l) (hm : 0 ≤ m) (i : Nat) : 0 ≤ l.getD i 0 ∧ l.getD i 0 ≤ m := by
  rw [List.getD_eq_getElem?_getD]
  cases hi : l[i]? with
  | none => simp; omega
  | some x => simp; exact h x (List.mem_of_getElem? hi)
theorem stk_upto {ks : List KV} {W : Nat} {us : List UnV} {s : List Int × List EvV} {u : UnV} {m : Int} (hm : 0 ≤ m) (h : Upto m s.1) (hh : 0 ≤ hitOf ks u ∧ hitOf ks u ≤ 1000) : Upto (m + 1000) (stk ks W us s u).1 := by
  unfold stk
  split
  · intro x hx
    have := h x hx
    omega
  · intro x hx
    have h0 := h.at_ hm (tgtOf ks W us u).toNat
    rcases List.mem_or_eq_of_mem_set hx with hx | hx
    · have := h x hx
      omega
    · omega
theorem hit_in {ks : List KV} (h : Kd.kindsFault (ks.map KV.k) = 0) (u : UnV) : 0 ≤ hitOf ks u ∧ hitOf ks u ≤ 1000 := by
  unfold hitOf
  split
  · omega
  · rename_i k hk
    have := kind_nums h (List.mem_of_getElem? hk)
    omega
theorem strikes_upto {ks : List KV} {W : Nat} {us : List UnV} (h : Kd.kindsFault (ks.map KV.k) = 0) : ∀ (n : Nat), n ≤ us.length → Upto (1000 * (n : Int)) (strikes ks W us (us.take n)).1
  | 0, _ => by
    intro x hx
    have : x ∈ List.replicate us.length (0 : Int) := hx
    have := List.eq_of_mem_replicate this
    omega
  | n + 1, hn => by
    obtain ⟨u, hu⟩ : ∃ u, us[n]? = some u := ⟨_, List.getElem?_eq_getElem (by omega)⟩
    rw [strikes_next hu]
    have h9 := strikes_upto (ks := ks) (W := W) (us := us) h n (by omega)
    have h8 := stk_upto (W := W) (us := us) (m := 1000 * (n : Int)) (by omega) h9 (hit_in h u)
    intro x hx
    have := h8 x hx
    omega
/-- those that are struck. -/
def hurt (us : List UnV) (lost : List Int) : List UnV := us.zipWith (fun u n => { u with life := u.life - n }) lost
def hurtN (us : List UnV) (lost : List Int) (n : Nat) : List UnV := hurt (us.take n) (lost.take n) ++ us.drop n
theorem hurtN_zero (us : List UnV) (lost : List Int) : hurtN us lost 0 = us := by simp [hurtN, hurt]
theorem hurtN_all {us : List UnV} {lost : List Int} (hl : lost.length = us.length) : hurtN us lost us.length = hurt us lost := by
  unfold hurtN
  rw [List.take_of_length_le (Nat.le_refl _), List.take_of_length_le (by omega), List.drop_of_length_le (Nat.le_refl _), List.append_nil]
theorem hurt_len {us : List UnV} {lost : List Int} (hl : lost.length = us.length) : (hurt us lost).length = us.length := by
  unfold hurt
  rw [List.length_zipWith, hl, Nat.min_self]
theorem hurtN_len {us : List UnV} {lost : List Int} {n : Nat} (hl : lost.length = us.length) (hn : n ≤ us.length) : (hurtN us lost n).length = us.length := by
  unfold hurtN
  rw [List.length_append, hurt_len (by simp [hl]), List.length_take, List.length_drop]
  omega
theorem hurtN_at {us : List UnV} {lost : List Int} {n : Nat} {u : UnV} (hl : lost.length = us.length) (hu : us[n]? = some u) : (hurtN us lost n)[n]? = some u := by
  have hn : n < us.length := (List.getElem?_eq_some_iff.1 hu).1
  unfold hurtN
  have h1 : (hurt (us.take n) (lost.take n)).length = n := by rw [hurt_len (by simp [hl]), List.length_take]; omega
  rw [List.getElem?_append_right (by omega), h1, Nat.sub_self, List.getElem?_drop, Nat.add_zero]
  exact hu
theorem hurtN_next {us : List UnV} {lost : List Int} {n : Nat} {u : UnV} {x : Int} (hl : lost.length = us.length) (hu : us[n]? = some u) (hx : lost[n]? = some x) : (hurtN us lost n).set n { u with life := u.life - x } = hurtN us lost (n + 1) := by
  obtain ⟨hn, e1⟩ := List.getElem?_eq_some_iff.1 hu
  obtain ⟨hn2, e2⟩ := List.getElem?_eq_some_iff.1 hx
  have h1 : (hurt (us.take n) (lost.take n)).length = n := by rw [hurt_len (by simp [hl]), List.length_take]; omega
  unfold hurtN
  rw [List.set_append_right _ _ (by omega), h1, Nat.sub_self, List.drop_eq_getElem_cons hn, List.set_cons_zero]
  rw [List.take_succ_eq_append_getElem hn, List.take_succ_eq_append_getElem hn2, e1, e2]
  unfold hurt
  rw [List.zipWith_append (by simp [hl])]
  simp
theorem hurt_at {us : List UnV} {lost : List Int} {n : Nat} {u : UnV} {x : Int} (hu : us[n]? = some u) (hx : lost[n]? = some x) : (hurt us lost)[n]? = some { u with life := u.life - x } := by
  unfold hurt
  rw [List.getElem?_zipWith, hu, hx]
end Go.Proofs.YtagnjmellcibhaaGreatDoor

namespace Go.Proofs.YtagnjmellcibhaaGreatDoor
set_option linter.unusedVariables false

/-- whom the reference has found among the first m ones, and how far it is. -/
def RBest (W : Nat) (u : UnV) (rng : Int) (us : List UnV) (m : Nat) (best far : Int) : Prop :=
  (best = -1 ∧ foesU W u rng (us.take m) = [])
  ∨ ∃ (b : Nat) (x x0 : UnV) (tl : List UnV), best = b ∧ b < m ∧ us[b]? = some x ∧ far = farU W u x ∧ foesU W u rng (us.take m) = x0 :: tl ∧ minU (keyU W u) x0 tl = x
theorem foes_next {W : Nat} {u : UnV} {rng : Int} {us : List UnV} {m : Nat} {y : UnV} (hy : us[m]? = some y) : foesU W u rng (us.take (m + 1)) = foesU W u rng (us.take m) ++ (if safeU W u rng y then [] else [y]) := by
  obtain ⟨hi, e⟩ := List.getElem?_eq_some_iff.1 hy
  unfold foesU
  rw [List.take_succ_eq_append_getElem hi, List.filter_append, e]
  cases h : safeU W u rng y <;> simp [h]
theorem minU_snoc (d : UnV → Int) (m y : UnV) (l : List UnV) : minU d m (l ++ [y]) = if d y < d (minU d m l) then y else minU d m l := by
  unfold minU
  rw [List.foldl_append]
  rfl
theorem RBest.start (W : Nat) (u : UnV) (rng : Int) (us : List UnV) (far : Int) : RBest W u rng us 0 (-1) far := .inl ⟨rfl, rfl⟩
theorem RBest.safe {W : Nat} {u : UnV} {rng : Int} {us : List UnV} {m : Nat} {y : UnV} {best far : Int} (h : RBest W u rng us m best far) (hy : us[m]? = some y) (hs : safeU W u rng y = true) : RBest W u rng us (m + 1) best far := by
  have e := foes_next (W := W) (u := u) (rng := rng) hy
  rw [if_pos hs, List.append_nil] at e
  rcases h with ⟨h1, h2⟩ | ⟨b, x, x0, tl, h1, h2, h3, h4, h5, h6⟩
  · exact .inl ⟨h1, e.trans h2⟩
  · exact .inr ⟨b, x, x0, tl, h1, by omega, h3, h4, e.trans h5, h6⟩
theorem RBest.first {W : Nat} {u : UnV} {rng : Int} {us : List UnV} {m : Nat} {y : UnV} {far : Int} (h : RBest W u rng us m (-1) far) (hy : us[m]? = some y) (hs : safeU W u rng y = false) : RBest W u rng us (m + 1) (m : Nat) (farU W u y) := by
  have e := foes_next (W := W) (u := u) (rng := rng) hy
  rw [if_neg (by rw [hs]; simp)] at e
  rcases h with ⟨-, h2⟩ | ⟨b, x, x0, tl, h1, h2, h3, h4, h5, h6⟩
  · rw [h2] at e
    exact .inr ⟨m, y, y, [], rfl, by omega, hy, rfl, e, rfl⟩
  · omega
theorem RBest.nearer {W : Nat} {u : UnV} {rng : Int} {us : List UnV} {m b : Nat} {x y : UnV} {far : Int} (h : RBest W u rng us m (b : Nat) far) (hx : us[b]? = some x) (hy : us[m]? = some y) (hs : safeU W u rng y = false) (hk : keyU W u y < keyU W u x) : RBest W u rng us (m + 1) (m : Nat) (farU W u y) := by
  have e := foes_next (W := W) (u := u) (rng := rng) hy
  rw [if_neg (by rw [hs]; simp)] at e
  rcases h with ⟨h1, -⟩ | ⟨b', x', x0, tl, h1, h2, h3, h4, h5, h6⟩
  · omega
  · obtain rfl : b = b' := by omega
    rw [hx] at h3
    cases h3
    rw [h5, List.cons_append] at e
    exact .inr ⟨m, y, x0, tl ++ [y], rfl, by omega, hy, rfl, e, by rw [minU_snoc, h6, if_pos hk]⟩
theorem RBest.keeps {W : Nat} {u : UnV} {rng : Int} {us : List UnV} {m b : Nat} {x y : UnV} {far : Int} (h : RBest W u rng us m (b : Nat) far) (hx : us[b]? = some x) (hy : us[m]? = some y) (hs : safeU W u rng y = false) (hk : ¬ keyU W u y < keyU W u x) : RBest W u rng us (m + 1) (b : Nat) far := by
  have e := foes_next (W := W) (u := u) (rng := rng) hy
  rw [if_neg (by rw [hs]; simp)] at e
  rcases h with ⟨h1, -⟩ | ⟨b', x', x0, tl, h1, h2, h3, h4, h5, h6⟩
  · omega
  · obtain rfl : b = b' := by omega
    rw [hx] at h3
    cases h3
    rw [h5, List.cons_append] at e
    exact .inr ⟨b, x, x0, tl ++ [y], rfl, by omega, hx, h4, e, by rw [minU_snoc, h6, if_neg hk]⟩
/-- what is known of the best one. -/
theorem RBest.who {W : Nat} {u : UnV} {rng : Int} {us : List UnV} {m : Nat} {best far : Int} (h : RBest W u rng us m best far) (hm : m ≤ us.length) : best = -1 ∨ ∃ (b : Nat) (x : UnV), best = b ∧ b < us.length ∧ us[b]? = some x ∧ far = farU W u x := by
  rcases h with ⟨h1, -⟩ | ⟨b, x, x0, tl, h1, h2, h3, h4, h5, h6⟩
  · exact .inl h1
  · exact .inr ⟨b, x, h1, by omega, h3, h4⟩
theorem key_lt {W : Nat} {u x y : UnV} (hx : 0 ≤ x.life ∧ x.life ≤ 1000000) (hy : 0 ≤ y.life ∧ y.life ≤ 1000000) : keyU W u y < keyU W u x ↔ farU W u y < farU W u x ∨ (farU W u y = farU W u x ∧ y.life < x.life) := by
  unfold keyU
  have h1 := farN_ge W u.at_.toNat x.at_.toNat
  have h2 := farN_ge W u.at_.toNat y.at_.toNat
  unfold farU
  omega
/-- at the end it is the one whom the unit strikes. -/
theorem RBest.done {ks : List KV} {X : WV} {W : Nat} {u : UnV} {k : KV} {best far : Int} (hr : WRight ks X) (h : RBest W u k.n2 X.us X.us.length best far) (hn : k.n1 ≠ 0) : best = tgt W u k X.us := by
  have e : X.us.take X.us.length = X.us := List.take_of_length_le (Nat.le_refl _)
  unfold tgt
  rw [if_neg hn]
  rcases h with ⟨h1, h2⟩ | ⟨b, x, x0, tl, h1, h2, h3, h4, h5, h6⟩
  · rw [e] at h2
    rw [h2]
    exact h1
  · rw [e] at h5
    rw [h5]
    show best = fsti (fun o => o.id == (minU (keyU W u) x0 tl).id) X.us
    rw [h6, h1]
    exact (fst_is hr h3 rfl (fsti_fst _ _)).symm
theorem tg_is (W : Nat) (u : UnV) (k : KV) (us : List UnV) : TgSays W u k us (tgt W u k us) := by
  by_cases h : k.n1 = 0
  · exact .inl ⟨h, by unfold tgt; rw [if_pos h]⟩
  · cases hf : foesU W u k.n2 us with
    | nil => exact .inr (.inl ⟨h, hf, by unfold tgt; rw [if_neg h, hf]⟩)
    | cons x0 tl => exact .inr (.inr ⟨h, x0, tl, hf, by unfold tgt; rw [if_neg h, hf]; exact fsti_fst _ _⟩)
/-- one is struck once more. -/
theorem hurt_set {us : List UnV} {ls : List Int} {n : Nat} {x : UnV} {a b c : Int} (hx : us[n]? = some x) (ha : ls[n]? = some a) (hc : c = x.life - b) : (hurt us ls).set n { x with life := c } = hurt us (ls.set n b) := by
  subst hc
  unfold hurt
  refine List.ext_getElem? fun i => ?_
  rw [List.getElem?_set]
  by_cases h : n = i
  · subst h
    have h1 : n < (us.zipWith (fun u n => { u with life := u.life - n }) ls).length := by
      rw [List.length_zipWith]
      have := (List.getElem?_eq_some_iff.1 hx).1
      have := (List.getElem?_eq_some_iff.1 ha).1
      omega
    have h2 := (List.getElem?_eq_some_iff.1 ha).1
    rw [if_pos rfl, if_pos h1, List.getElem?_zipWith, hx, List.getElem?_set, if_pos rfl, if_pos h2]
  · rw [if_neg h, List.getElem?_zipWith, List.getElem?_zipWith, List.getElem?_set, if_neg h]
theorem hurt_zero : ∀ (us : List UnV), hurt us (List.replicate us.length 0) = us
  | [] => rfl
  | u :: us => by
    have h := hurt_zero us
    unfold hurt at h ⊢
    rw [List.length_cons, List.replicate_succ, List.zipWith_cons_cons, h]
    simp
theorem tgt_none {W : Nat} {u : UnV} {k : KV} {us : List UnV} (hn : k.n1 = 0) : tgt W u k us = -1 := by unfold tgt; rw [if_pos hn]
theorem safe_iff {W : Nat} {u y : UnV} {rng : Int} : safeU W u rng y = true ↔ y.player = u.player ∨ rng < farU W u y := by
  unfold safeU
  simp
end Go.Proofs.YtagnjmellcibhaaGreatDoor

namespace Go.Proofs.YtagnjmellcibhaaGreatDoor
open Go.RowKit

set_option maxHeartbeats 400000 in
theorem ref_root (n : Int) (w : World) (h0 : 0 ≤ n) (h1 : n ≤ 9223372036854775807) :
    Calls Tryz.prog 96 #[.int .i64 n] w fun e w' => ∃ r, Ma.Sq r n ∧ e = .returned (.int .i64 r) ∧ w' = w := by
  go_enter Tryz.func96, Tryz.ntmps96
  go_wp2
  go_loop [3, 4] (fun low high => ∃ l h : Int, low = .int .i64 l ∧ high = .int .i64 h ∧ 0 ≤ l ∧ l < h ∧ h ≤ 3037000500 ∧ l * l ≤ n ∧ n < h * h) (fun low high => (intOf high - intOf low).toNat)
  case atStart => exact ⟨0, 3037000500, rfl, rfl, by omega, by omega, by omega, by omega, by omega⟩
  case round =>
    obtain ⟨l, h, rfl, rfl, l0, lh, hh, hl, hu⟩ := hrel
    by_cases ht : 1 < h - l
    · have Hl : Hid (l * l ≤ n) := hl
      have Hu : Hid (n < h * h) := hu
      clear hl hu
      have m1 : l < (l + h) / 2 := by omega
      have m2 : (l + h) / 2 < h := by omega
      have m3 := Ma.mul_mono ((l + h) / 2) 3037000499 (by omega) (by omega)
      have m4 := Int.mul_nonneg (a := (l + h) / 2) (b := (l + h) / 2) (by omega) (by omega)
      by_cases hm : (l + h) / 2 * ((l + h) / 2) ≤ n
      · go_wp2
        go_round
        case rel => exact ⟨(l + h) / 2, h, rfl, rfl, by omega, m2, hh, hm, Hu⟩
        case measure => simp [intOf]; omega
      · go_wp2
        go_round
        case rel => exact ⟨l, (l + h) / 2, rfl, rfl, l0, m1, by omega, Hl, by omega⟩
        case measure => simp [intOf]; omega
    · have e : h = l + 1 := by omega
      subst e
      have Hl : Hid (Ma.Sq l n) := ⟨l0, hl, hu⟩
      clear hl hu
      go_wp2
      go_ret
      exact ⟨l, Hl, rfl, rfl⟩

set_option maxHeartbeats 400000 in
theorem ref_far (a b c d : Int) (w : World) (ha : In6 a) (hb : In6 b) (hc : In6 c) (hd : In6 d) :
    Calls Tryz.prog 65 #[.int .i64 a, .int .i64 b, .int .i64 c, .int .i64 d] w fun e w' => ∃ r, Ma.Sq r ((a - c) * (a - c) + (b - d) * (b - d)) ∧ e = .returned (.int .i64 r) ∧ w' = w := by
  obtain ⟨ha1, ha2⟩ := ha
  obtain ⟨hb1, hb2⟩ := hb
  obtain ⟨hc1, hc2⟩ := hc
  obtain ⟨hd1, hd2⟩ := hd
  obtain ⟨s10, s11⟩ := sqb (a - c) (by omega) (by omega)
  obtain ⟨s20, s21⟩ := sqb (b - d) (by omega) (by omega)
  go_enter Tryz.func65, Tryz.ntmps65
  go_wp2_with (go_at_call 96; refine (ref_root _ _ (by omega) (by omega)).mono ?_; rintro e w' ⟨r, hr, rfl, rfl⟩)
  go_ret
  exact ⟨r, hr, rfl, rfl⟩
end Go.Proofs.YtagnjmellcibhaaGreatDoor

namespace Go.Proofs.YtagnjmellcibhaaGreatDoor
open Go.RowKit
set_option linter.unusedVariables false

theorem sq_ex (n : Nat) : ∃ r : Int, Ma.Sq r n := by
  induction n with
  | zero => exact ⟨0, by decide, by decide, by decide⟩
  | succ n ih =>
    obtain ⟨r, h0, h1, h2⟩ := ih
    by_cases h : ((n + 1 : Nat) : Int) < (r + 1) * (r + 1)
    · exact ⟨r, h0, by omega, h⟩
    · have e := Ma.sq_expand (r + 1) 1
      exact ⟨r + 1, by omega, by omega, by omega⟩

set_option maxHeartbeats 1000000 in
theorem ref_apart (v : Value) (W H : Nat) (gs os : List Int) (a b : Nat) (r : Int) (w : World) (h : Fl w v W H gs os) (h1 : 0 < W) (h2 : W ≤ 12) (h3 : H ≤ 12) (ha : a < W * H) (hb : b < W * H)
    (hr : Ma.Sq r ((((a % W : Nat) : Int) - (b % W : Nat)) * (((a % W : Nat) : Int) - (b % W : Nat)) + (((a / W : Nat) : Int) - (b / W : Nat)) * (((a / W : Nat) : Int) - (b / W : Nat)))) :
    Calls Tryz.prog 41 #[v, .int .i64 (a : Nat), .int .i64 (b : Nat)] w fun e w' => e = .returned (.int .i64 r) ∧ Below w.heap.size w w' := by
  obtain ⟨u1, u2, rfl, -, -⟩ := h
  have hm : W * H ≤ 144 := Nat.mul_le_mul h2 h3
  have a1 : a / W < H := Nat.div_lt_of_lt_mul ha
  have a2 : b / W < H := Nat.div_lt_of_lt_mul hb
  have a3 := Nat.mod_lt a h1
  have a4 := Nat.mod_lt b h1
  have e1 : (a : Int) % (W : Int) = (a % W : Nat) := rfl
  have e2 : (a : Int) / (W : Int) = (a / W : Nat) := rfl
  have e3 : (b : Int) % (W : Int) = (b % W : Nat) := rfl
  have e4 : (b : Int) / (W : Int) = (b / W : Nat) := rfl
  have A1 : a ≤ 144 := by omega
  have B1 : b ≤ 144 := by omega
  generalize a % W = p at *
  generalize a / W = m at *
  generalize b % W = q at *
  generalize b / W = n at *
  have hw : ¬ (W : Int) = 0 := by omega
  have K : Hid (∀ W', Calls Tryz.prog 65 #[.int .i64 (p : Nat), .int .i64 (m : Nat), .int .i64 (q : Nat), .int .i64 (n : Nat)] W' fun e w' => e = .returned (.int .i64 r) ∧ w' = W') := fun W' =>
    (ref_far p m q n W' ⟨by omega, by omega⟩ ⟨by omega, by omega⟩ ⟨by omega, by omega⟩ ⟨by omega, by omega⟩).mono fun e w' ⟨r', h1, h2, h3⟩ => ⟨by rw [h2, Ma.sq_uniq _ _ _ h1 hr], h3⟩
  have m1 : m ≤ 144 := by omega
  have n1 : n ≤ 144 := by omega
  clear ha hb hr a1 a2 a3 a4
  generalize hw0 : w.alloc (Obj.cells #[.int .i64 (W : Nat), .int .i64 (H : Nat), u1, u2] 25) = w0
  have B0 : Hid (Below w.heap.size w w0) := by rw [← hw0]; exact (Below.refl _ _).alloc (Nat.le_refl _) _
  have f0 : w0.cell? ⟨w.heap.size, 0, none⟩ = some (.int .i64 (W : Nat)) := by rw [← hw0]; simp
  have Hw : Hid (w.alloc (Obj.cells #[.int .i64 (W : Nat), .int .i64 (H : Nat), u1, u2] 25) = w0) := hw0
  clear hw0
  go_enter Tryz.func41, Tryz.ntmps41
  go_wp2_with fail
  rw [Hw.out]
  go_quiet ((go_at_call 65; exact Calls.quiet_of_same (K.out _)))
  go_wp2
  go_ret
  exact ⟨rfl, _root_.Go.below_drewN B0.out _⟩
end Go.Proofs.YtagnjmellcibhaaGreatDoor

namespace Go.Proofs.YtagnjmellcibhaaGreatDoor
open Go.RowKit
set_option linter.unusedVariables false

theorem self_ge (x : Int) : 0 ≤ x * x := by
  rcases Int.le_total 0 x with h | h
  · exact Int.mul_nonneg h h
  · have e : x * x = (-x) * (-x) := by rw [Int.neg_mul_neg]
    rw [e]
    exact Int.mul_nonneg (by omega) (by omega)
theorem rapart_any (v : Value) (W H : Nat) (gs os : List Int) (a b : Nat) (w : World) (h : Fl w v W H gs os) (h1 : 0 < W) (h2 : W ≤ 12) (h3 : H ≤ 12) (ha : a < W * H) (hb : b < W * H) :
    Calls Tryz.prog 41 #[v, .int .i64 (a : Nat), .int .i64 (b : Nat)] w fun e w' => e = .returned (.int .i64 (farN W a b)) ∧ Below w.heap.size w w' := by
  have hm : W * H ≤ 144 := Nat.mul_le_mul h2 h3
  have s1 : 0 ≤ (((a % W : Nat) : Int) - ((b % W : Nat) : Int)) * (((a % W : Nat) : Int) - ((b % W : Nat) : Int)) := self_ge _
  have s2 : 0 ≤ (((a / W : Nat) : Int) - ((b / W : Nat) : Int)) * (((a / W : Nat) : Int) - ((b / W : Nat) : Int)) := self_ge _
  obtain ⟨n, hn⟩ : ∃ n : Nat, (((a % W : Nat) : Int) - ((b % W : Nat) : Int)) * (((a % W : Nat) : Int) - ((b % W : Nat) : Int)) + (((a / W : Nat) : Int) - ((b / W : Nat) : Int)) * (((a / W : Nat) : Int) - ((b / W : Nat) : Int)) = n := ⟨Int.toNat _, (Int.toNat_of_nonneg (Int.add_nonneg s1 s2)).symm⟩
  obtain ⟨r, hr⟩ := sq_ex n
  rw [← hn] at hr
  have e := farN_eq (W := W) (a := a) (b := b) h2 (by omega) (by omega) h1 hr
  rw [e]
  exact ref_apart v W H gs os a b r w h h1 h2 h3 ha hb hr
end Go.Proofs.YtagnjmellcibhaaGreatDoor

namespace Go.Proofs.YtagnjmellcibhaaGreatDoor
open Go.RowKit
set_option linter.unusedVariables false

theorem small_in6 {n : Nat} (h : n ≤ 144) : In6 (n : Nat) := ⟨by omega, by omega⟩
set_option maxRecDepth 100000 in
set_option maxHeartbeats 2000000 in
theorem apart_any (H : Int) (u1 u2 : Value) (Wn a b : Nat) (w : World) (h1 : 0 < Wn) (h2 : Wn ≤ 12) (ha : a ≤ 144) (hb : b ≤ 144) :
    Calls Tryz.prog 67 #[.agg #[.int .i64 (Wn : Nat), .int .i64 H, u1, u2], .int .i64 (a : Nat), .int .i64 (b : Nat)] w fun e w' => e = .returned (.int .i64 (farN Wn a b)) ∧ Below w.heap.size w w' := by
  obtain ⟨ca, hca⟩ : ∃ n, a % Wn = n := ⟨_, rfl⟩
  obtain ⟨ra, hra⟩ : ∃ n, a / Wn = n := ⟨_, rfl⟩
  obtain ⟨cb, hcb⟩ : ∃ n, b % Wn = n := ⟨_, rfl⟩
  obtain ⟨rb, hrb⟩ : ∃ n, b / Wn = n := ⟨_, rfl⟩
  have hw : ¬ (Wn : Int) = 0 := by omega
  have e1 : (a : Int) % (Wn : Int) = (ca : Nat) := by rw [← hca]; rfl
  have e2 : (a : Int) / (Wn : Int) = (ra : Nat) := by rw [← hra]; rfl
  have e3 : (b : Int) % (Wn : Int) = (cb : Nat) := by rw [← hcb]; rfl
  have e4 : (b : Int) / (Wn : Int) = (rb : Nat) := by rw [← hrb]; rfl
  have l1 : ra ≤ 144 := by rw [← hra]; exact Nat.le_trans (Nat.div_le_self _ _) ha
  have l2 : rb ≤ 144 := by rw [← hrb]; exact Nat.le_trans (Nat.div_le_self _ _) hb
  have l3 : ca ≤ 144 := by rw [← hca]; exact Nat.le_trans (Nat.mod_le _ _) ha
  have l4 : cb ≤ 144 := by rw [← hcb]; exact Nat.le_trans (Nat.mod_le _ _) hb
  have FR : Hid (∀ r, Ma.Sq r (((ca : Int) - (cb : Nat)) * ((ca : Int) - (cb : Nat)) + ((ra : Int) - (rb : Nat)) * ((ra : Int) - (rb : Nat))) → farN Wn a b = r) := by
    intro r hr
    refine farN_eq h2 ha hb h1 ?_
    rw [hca, hra, hcb, hrb]
    exact hr
  have FO : Hid (∀ W, Calls Tryz.prog 97 #[.int .i64 (ca : Nat), .int .i64 (ra : Nat), .int .i64 (cb : Nat), .int .i64 (rb : Nat)] W fun e w' => e = .returned (.tuple #[.int .i64 (farN Wn a b), .nilIface]) ∧ w' = W) := fun W => by
    refine (far_ok _ _ _ _ W (small_in6 l3) (small_in6 l1) (small_in6 l4) (small_in6 l2)).mono ?_
    rintro e w' ⟨r, hr, rfl, rfl⟩
    rw [FR.out r hr]
    exact ⟨rfl, rfl⟩
  clear hca hra hcb hrb FR
  have B0 : Hid (Below w.heap.size w (w.alloc (Obj.cells #[.int .i64 (Wn : Nat), .int .i64 H, u1, u2] 25))) := (Below.refl _ _).alloc (Nat.le_refl _) _
  have c0 : (w.alloc (Obj.cells #[.int .i64 (Wn : Nat), .int .i64 H, u1, u2] 25)).cell? ⟨w.heap.size, 0, none⟩ = some (.int .i64 (Wn : Nat)) := by simp
  obtain ⟨f, hf⟩ : ∃ f, farN Wn a b = f := ⟨_, rfl⟩
  rw [hf] at FO ⊢
  clear hf
  go_enter Tryz.func67, Tryz.ntmps67
  go_upto_region 1 with fail
  generalize (w.alloc (Obj.cells #[.int .i64 (Wn : Nat), .int .i64 H, u1, u2] 25)) = w0 at *
  go_quiet ((go_at_call 97; exact Calls.quiet_of_same (FO.out _)))
  go_wp2
  go_ret
  exact ⟨rfl, ⟨B0.out.os, B0.out.tape, B0.out.output, B0.out.size, B0.out.block⟩⟩
end Go.Proofs.YtagnjmellcibhaaGreatDoor

namespace Go.Proofs.YtagnjmellcibhaaGreatDoor
open Go.RowKit
set_option linter.unusedVariables false

theorem or2_any (x y : Int) (b : Nat) (w : World) (h0 : w.cell? ⟨b, 0, none⟩ = some (.int .i64 x)) (h1 : w.cell? ⟨b, 1, none⟩ = some (.int .i64 y)) :
    Calls Tryz.prog 71 #[.slice (some ⟨b, 0, none⟩) 2 2] w fun e w' => e = .returned (.int .i64 (if x = 0 then y else x)) ∧ w' = w := by
  by_cases hx : x = 0
  · subst hx
    by_cases hy : y = 0
    · subst hy
      go_enter Tryz.func71, Tryz.ntmps71
      go_wp2
      refine wp_loop_rounds 3 ?_
      rw [rounds_succ]
      go_wp2
      rw [rounds_succ]
      go_wp2
      rw [rounds_succ]
      go_wp2
      go_ret
      exact ⟨rfl, rfl⟩
    · have hyb : (y == 0) = false := beq_eq_false_iff_ne.2 hy
      go_enter Tryz.func71, Tryz.ntmps71
      go_wp2
      refine wp_loop_rounds 2 ?_
      rw [rounds_succ]
      go_wp2
      rw [rounds_succ]
      go_wp2
      go_ret
      exact ⟨by simp, rfl⟩
  · have hxb : (x == 0) = false := beq_eq_false_iff_ne.2 hx
    go_enter Tryz.func71, Tryz.ntmps71
    go_wp2
    refine wp_loop_rounds 1 ?_
    rw [rounds_succ]
    go_wp2
    go_ret
    exact ⟨by simp, rfl⟩

/-- a cell of a field. -/
def InF (u : UnV) : Prop := 0 ≤ u.at_ ∧ u.at_ ≤ 144
/-- target's boxes: the world, the unit. -/
structure Tb (w : World) (bw bu : Nat) (X : WV) (u1 u2 u3 u4 u5 : Value) (u : UnV) : Prop where
  x : Bw w bw X u1 u2 u3 u4 u5
  u : Unc w ⟨bu, 0, none⟩ u
theorem Tb.below {w V : World} {bw bu n : Nat} {X : WV} {u1 u2 u3 u4 u5 : Value} {u : UnV} (h : Tb w bw bu X u1 u2 u3 u4 u5 u) (hb : Below n w V) (h1 : bw < n) (h2 : bu < n) : Tb V bw bu X u1 u2 u3 u4 u5 u :=
  ⟨h.x.below hb h1, h.u.below hb h2⟩
set_option maxRecDepth 100000 in
set_option maxHeartbeats 2000000 in
theorem far_fg (X : WV) (u o : UnV) (Wn bw bu : Nat) (u1 u2 u3 u4 u5 : Value) (w : World) (hT : Tb w bw bu X u1 u2 u3 u4 u5 u) (hW : X.wide = (Wn : Nat)) (h1 : 0 < Wn) (h2 : Wn ≤ 12) (hu : InF u) (ho : InF o) :
    Calls Tryz.prog 66 #[o.val, .pointer (some ⟨bw, 0, none⟩), .pointer (some ⟨bu, 0, none⟩)] w fun e w' => e = .returned (.int .i64 (farU Wn u o)) ∧ Below w.heap.size w w' := by
  obtain ⟨an, han⟩ : ∃ n : Nat, u.at_ = n := ⟨u.at_.toNat, by have := hu.1; omega⟩
  obtain ⟨cn, hcn⟩ : ∃ n : Nat, o.at_ = n := ⟨o.at_.toNat, by have := ho.1; omega⟩
  have FU : Hid (farU Wn u o = farN Wn an cn) := by unfold Hid farU; rw [han, hcn]; rfl
  have LL : Hid (0 < Wn ∧ Wn ≤ 12 ∧ an ≤ 144 ∧ cn ≤ 144) := ⟨h1, h2, by have := hu.2; omega, by have := ho.2; omega⟩
  have HE : Hid (u.at_ = (an : Nat) ∧ o.at_ = (cn : Nat) ∧ X.wide = (Wn : Nat)) := ⟨han, hcn, hW⟩
  have T0 : Hid (Tb w bw bu X u1 u2 u3 u4 u5 u) := hT
  have B0 : Hid (Below w.heap.size w (w.alloc (Obj.cells #[.int .i64 o.id, .int .i64 o.player, .int .i64 o.kind, .int .i64 o.at_, .int .i64 o.life, .int .i64 o.load, .int .i64 o.task, .int .i64 o.goal] 59))) := (Below.refl _ _).alloc (Nat.le_refl _) _
  have O0 : Hid (Unc (w.alloc (Obj.cells #[.int .i64 o.id, .int .i64 o.player, .int .i64 o.kind, .int .i64 o.at_, .int .i64 o.life, .int .i64 o.load, .int .i64 o.task, .int .i64 o.goal] 59)) ⟨w.heap.size, 0, none⟩ o) := Unc.mk' o rfl
  clear hT han hcn hW h1 h2 hu ho
  unfold UnV.val
  go_enter Tryz.func66, Tryz.ntmps66
  go_upto_region 1 with fail
  generalize (w.alloc (Obj.cells #[.int .i64 o.id, .int .i64 o.player, .int .i64 o.kind, .int .i64 o.at_, .int .i64 o.life, .int .i64 o.load, .int .i64 o.task, .int .i64 o.goal] 59)) = w0 at *
  have T1 := T0.out.below B0.out T0.out.x.lt T0.out.u.lt
  obtain ⟨x0, x1, x2, x3, x4, x5, x6, x7, x8⟩ := T1.x
  obtain ⟨y0, y1, y2, y3, y4, y5, y6, y7⟩ := T1.u
  obtain ⟨q0, q1, q2, q3, q4, q5, q6, q7⟩ := O0.out
  rw [HE.out.1] at y3
  rw [HE.out.2.1] at q3
  rw [HE.out.2.2] at x2
  clear T1
  go_wp2_with fail
  refine (apart_any _ _ _ Wn an cn w0 LL.out.1 LL.out.2.1 LL.out.2.2.1 LL.out.2.2.2).mono ?_
  rintro e w1 ⟨rfl, hb⟩
  have B1 : Hid (Below w.heap.size w w1) := B0.out.trans (hb.mono B0.out.size)
  clear hb x0 x1 x2 x3 x4 x5 x6 x7 x8 y0 y1 y2 y3 y4 y5 y6 y7 q0 q1 q2 q3 q4 q5 q6 q7
  obtain ⟨f, hf⟩ : ∃ f, farN Wn an cn = f := ⟨_, rfl⟩
  rw [hf] at FU ⊢
  clear hf
  go_wp2
  go_ret
  exact ⟨by rw [FU.out]; rfl, B1.out⟩

set_option maxRecDepth 100000 in
set_option maxHeartbeats 4000000 in
theorem safe_fg (X : WV) (u o : UnV) (Wn bw bu bf bk : Nat) (rng : Int) (u1 u2 u3 u4 u5 : Value) (w : World) (hT : Tb w bw bu X u1 u2 u3 u4 u5 u) (hF : w.cell? ⟨bf, 0, none⟩ = some (.func (Fn.func 66) #[] #[.pointer (some ⟨bw, 0, none⟩), .pointer (some ⟨bu, 0, none⟩)])) (hK : w.cell? ⟨bk, 3, none⟩ = some (.int .i64 rng)) (hW : X.wide = (Wn : Nat)) (h1 : 0 < Wn) (h2 : Wn ≤ 12) (hu : InF u) (ho : InF o) :
    Calls Tryz.prog 68 #[o.val, .pointer (some ⟨bu, 0, none⟩), .pointer (some ⟨bf, 0, none⟩), .pointer (some ⟨bk, 0, none⟩)] w fun e w' => e = .returned (.bool (safeU Wn u rng o)) ∧ Below w.heap.size w w' := by
  have T0 : Hid (Tb w bw bu X u1 u2 u3 u4 u5 u) := hT
  have GG : Hid (X.wide = (Wn : Nat) ∧ 0 < Wn ∧ Wn ≤ 12 ∧ InF u ∧ InF o) := ⟨hW, h1, h2, hu, ho⟩
  have CF : Hid (w.cell? ⟨bf, 0, none⟩ = some (.func (Fn.func 66) #[] #[.pointer (some ⟨bw, 0, none⟩), .pointer (some ⟨bu, 0, none⟩)]) ∧ w.cell? ⟨bk, 3, none⟩ = some (.int .i64 rng) ∧ bf < w.heap.size ∧ bk < w.heap.size) := ⟨hF, hK, cell_lt hF, cell_lt hK⟩
  have B0 : Hid (Below w.heap.size w (w.alloc (Obj.cells #[.int .i64 o.id, .int .i64 o.player, .int .i64 o.kind, .int .i64 o.at_, .int .i64 o.life, .int .i64 o.load, .int .i64 o.task, .int .i64 o.goal] 59))) := (Below.refl _ _).alloc (Nat.le_refl _) _
  have O0 : Hid (Unc (w.alloc (Obj.cells #[.int .i64 o.id, .int .i64 o.player, .int .i64 o.kind, .int .i64 o.at_, .int .i64 o.life, .int .i64 o.load, .int .i64 o.task, .int .i64 o.goal] 59)) ⟨w.heap.size, 0, none⟩ o) := Unc.mk' o rfl
  have CB : Hid (∀ V, Below w.heap.size w V → Unc V ⟨w.heap.size, 0, none⟩ o → (V.cell? ⟨w.heap.size, 1, none⟩ = some (.int .i64 o.player) ∧ V.cell? ⟨bu, 1, none⟩ = some (.int .i64 u.player) ∧ V.cell? ⟨bf, 0, none⟩ = some (.func (Fn.func 66) #[] #[.pointer (some ⟨bw, 0, none⟩), .pointer (some ⟨bu, 0, none⟩)]) ∧ V.cell? ⟨bk, 3, none⟩ = some (.int .i64 rng) ∧ Unc V ⟨w.heap.size, 0, none⟩ o ∧ Tb V bw bu X u1 u2 u3 u4 u5 u)) := fun V hb h0 =>
    ⟨by have := h0.c1; rw [Nat.zero_add] at this; exact this, by have := (T0.out.u.below hb T0.out.u.lt).c1; rw [Nat.zero_add] at this; exact this, by rw [hb.cell (p := ⟨bf, 0, none⟩) CF.out.2.2.1]; exact CF.out.1, by rw [hb.cell (p := ⟨bk, 3, none⟩) CF.out.2.2.2]; exact CF.out.2.1, h0, T0.out.below hb T0.out.x.lt T0.out.u.lt⟩
  clear hT hF hK hW h1 h2 hu ho
  unfold UnV.val
  go_enter Tryz.func68, Tryz.ntmps68
  go_upto_region 1 with fail
  generalize (w.alloc (Obj.cells #[.int .i64 o.id, .int .i64 o.player, .int .i64 o.kind, .int .i64 o.at_, .int .i64 o.life, .int .i64 o.load, .int .i64 o.task, .int .i64 o.goal] 59)) = w0 at *
  by_cases hp : o.player = u.player
  · have S1 : Hid (safeU Wn u rng o = true) := by unfold Hid safeU; rw [hp]; simp
    obtain ⟨d1, d2, d3, d4, ⟨q0, q1, q2, q3, q4, q5, q6, q7⟩, -⟩ := CB.out w0 B0.out O0.out
    rw [hp] at d1 q1
    go_quiet (fail)
    go_wp2
    go_ret
    exact ⟨by rw [S1.out]; rfl, ⟨B0.out.os, B0.out.tape, B0.out.output, B0.out.size, B0.out.block⟩⟩
  · have hp' : (o.player == u.player) = false := by rw [beq_eq_false_iff_ne]; exact hp
    have S1 : Hid (safeU Wn u rng o = decide (rng < farU Wn u o)) := by unfold Hid safeU; rw [hp']; rfl
    clear hp
    refine wp_region_two [(true, 0), (true, 1), (true, 2), (true, 3), (true, 4), (true, 5), (true, 6), (true, 7), (true, 9), (true, 10), (false, 8)] [(true, 11), (true, 12), (false, 13)] (fun V => (V.cell? ⟨w.heap.size, 1, none⟩ = some (.int .i64 o.player) ∧ V.cell? ⟨bu, 1, none⟩ = some (.int .i64 u.player) ∧ V.cell? ⟨bf, 0, none⟩ = some (.func (Fn.func 66) #[] #[.pointer (some ⟨bw, 0, none⟩), .pointer (some ⟨bu, 0, none⟩)]) ∧ V.cell? ⟨bk, 3, none⟩ = some (.int .i64 rng) ∧ Unc V ⟨w.heap.size, 0, none⟩ o ∧ Tb V bw bu X u1 u2 u3 u4 u5 u)) (by kernel_rfl) (by kernel_rfl) (by kernel_rfl) (by decide +kernel) (by decide +kernel) (CB.out _ B0.out.drew (O0.out.below ((Below.refl _ _).drew) O0.out.lt)) ?_
    have B1 : Hid (Below w.heap.size w { w0 with drawn := w0.drawn + 1 }) := B0.out.drew
    have O1 : Hid (Unc { w0 with drawn := w0.drawn + 1 } ⟨w.heap.size, 0, none⟩ o) := O0.out.below ((Below.refl _ _).drew) O0.out.lt
    generalize ({ w0 with drawn := w0.drawn + 1 } : World) = w1 at *
    clear B0 O0
    refine headT_read rfl (.pointer (some ⟨w.heap.size, 1, none⟩)) (by go_simp) (fun V hV => by go_simp) ?_
    go_simp
    refine headT_read rfl (.int .i64 o.player) (by go_simp) (fun V hV => by obtain ⟨d1, d2, d3, d4, ⟨q0, q1, q2, q3, q4, q5, q6, q7⟩, -⟩ := hV; go_simp) ?_
    go_simp
    refine headT_read rfl (.pointer (some ⟨bu, 1, none⟩)) (by go_simp) (fun V hV => by go_simp) ?_
    go_simp
    refine headT_read rfl (.int .i64 u.player) (by go_simp) (fun V hV => by obtain ⟨d1, d2, d3, d4, ⟨q0, q1, q2, q3, q4, q5, q6, q7⟩, -⟩ := hV; go_simp) ?_
    go_simp
    refine headT_read rfl (.bool false) (by go_simp) (fun V hV => by go_simp) ?_
    go_simp
    refine headT_read rfl (.bool false) (by go_simp) (fun V hV => by go_simp) ?_
    go_simp
    refine headT_read rfl (.func (Fn.func 66) #[] #[.pointer (some ⟨bw, 0, none⟩), .pointer (some ⟨bu, 0, none⟩)]) (by go_simp) (fun V hV => by obtain ⟨d1, d2, d3, d4, ⟨q0, q1, q2, q3, q4, q5, q6, q7⟩, -⟩ := hV; go_simp) ?_
    go_simp
    refine headT_read rfl (.agg #[.int .i64 o.id, .int .i64 o.player, .int .i64 o.kind, .int .i64 o.at_, .int .i64 o.life, .int .i64 o.load, .int .i64 o.task, .int .i64 o.goal]) (by go_simp) (fun V hV => by obtain ⟨d1, d2, d3, d4, ⟨q0, q1, q2, q3, q4, q5, q6, q7⟩, -⟩ := hV; go_simp) ?_
    go_simp
    refine headT_read rfl (.pointer (some ⟨bk, 3, none⟩)) (by go_simp) (fun V hV => by go_simp) ?_
    go_simp
    refine headT_read rfl (.int .i64 rng) (by go_simp) (fun V hV => by obtain ⟨d1, d2, d3, d4, ⟨q0, q1, q2, q3, q4, q5, q6, q7⟩, -⟩ := hV; go_simp) ?_
    go_simp
    refine headT_call rfl 66 (#[o.val] ++ #[.pointer (some ⟨bw, 0, none⟩), .pointer (some ⟨bu, 0, none⟩)]) (by go_simp) (by go_simp; rfl) ?_
    refine (far_fg X u o Wn bw bu _ _ _ _ _ w1 (T0.out.below B1.out T0.out.x.lt T0.out.u.lt) GG.out.1 GG.out.2.1 GG.out.2.2.1 GG.out.2.2.2.1 GG.out.2.2.2.2).mono ?_
    rintro e w2 ⟨rfl, hb⟩
    have B2 : Hid (Below w.heap.size w w2) := B1.out.trans (hb.mono B1.out.size)
    refine ⟨_, rfl, CB.out _ B2.out (O1.out.below hb O1.out.lt), ?_⟩
    clear hb B1 O1
    go_simp
    obtain ⟨t, ht⟩ : ∃ t, farU Wn u o = t := ⟨_, rfl⟩
    rw [ht] at S1 ⊢
    clear ht
    refine sched_read rfl (.bool (decide (rng < t))) (by go_simp) (fun V hV => by go_simp) ?_
    go_simp
    refine sched_read rfl (.bool (decide (rng < t))) (by go_simp) (fun V hV => by go_simp) ?_
    go_simp
    refine sched_value rfl (.bool (decide (rng < t))) w2 (by go_simp) (by go_simp) trivial ?_
    go_simp
    unfold wpSched
    go_wp2
    go_ret
    exact ⟨by rw [S1.out]; rfl, B2.out⟩

set_option maxRecDepth 100000 in
set_option maxHeartbeats 4000000 in
theorem soon_fg (X : WV) (u a b : UnV) (Wn bw bu bf : Nat) (u1 u2 u3 u4 u5 : Value) (w : World) (hT : Tb w bw bu X u1 u2 u3 u4 u5 u) (hF : w.cell? ⟨bf, 0, none⟩ = some (.func (Fn.func 66) #[] #[.pointer (some ⟨bw, 0, none⟩), .pointer (some ⟨bu, 0, none⟩)])) (hW : X.wide = (Wn : Nat)) (h1 : 0 < Wn) (h2 : Wn ≤ 12) (hu : InF u) (ha : InF a) (hb : InF b) (la : 0 ≤ a.life ∧ a.life ≤ 1000000) (lb : 0 ≤ b.life ∧ b.life ≤ 1000000) :
    Calls Tryz.prog 70 #[a.val, b.val, .pointer (some ⟨bf, 0, none⟩)] w fun e w' => e = .returned (.int .i64 (soonU Wn u a b)) ∧ Below w.heap.size w w' := by
  have T0 : Hid (Tb w bw bu X u1 u2 u3 u4 u5 u) := hT
  have GG : Hid (X.wide = (Wn : Nat) ∧ 0 < Wn ∧ Wn ≤ 12 ∧ InF u ∧ InF a ∧ InF b) := ⟨hW, h1, h2, hu, ha, hb⟩
  have CF : Hid (w.cell? ⟨bf, 0, none⟩ = some (.func (Fn.func 66) #[] #[.pointer (some ⟨bw, 0, none⟩), .pointer (some ⟨bu, 0, none⟩)]) ∧ bf < w.heap.size) := ⟨hF, cell_lt hF⟩
  have wl : IntKind.i64.wrap (a.life - b.life) = a.life - b.life := by rw [IntKind.wrap_i64]; omega
  have wf : IntKind.i64.wrap (farU Wn u a - farU Wn u b) = farU Wn u a - farU Wn u b := by
    have g1 := farN_ge Wn u.at_.toNat a.at_.toNat
    have g2 := farN_ge Wn u.at_.toNat b.at_.toNat
    unfold farU
    rw [IntKind.wrap_i64]; omega
  have B0 : Hid (Below w.heap.size w ((w.alloc (Obj.cells #[.int .i64 a.id, .int .i64 a.player, .int .i64 a.kind, .int .i64 a.at_, .int .i64 a.life, .int .i64 a.load, .int .i64 a.task, .int .i64 a.goal] 59)).alloc (Obj.cells #[.int .i64 b.id, .int .i64 b.player, .int .i64 b.kind, .int .i64 b.at_, .int .i64 b.life, .int .i64 b.load, .int .i64 b.task, .int .i64 b.goal] 59))) := ((Below.refl _ _).alloc (Nat.le_refl _) _).alloc (by simp) _
  have A0 : Hid (Unc ((w.alloc (Obj.cells #[.int .i64 a.id, .int .i64 a.player, .int .i64 a.kind, .int .i64 a.at_, .int .i64 a.life, .int .i64 a.load, .int .i64 a.task, .int .i64 a.goal] 59)).alloc (Obj.cells #[.int .i64 b.id, .int .i64 b.player, .int .i64 b.kind, .int .i64 b.at_, .int .i64 b.life, .int .i64 b.load, .int .i64 b.task, .int .i64 b.goal] 59)) ⟨w.heap.size, 0, none⟩ a) := (Unc.mk' a rfl).below ((Below.refl _ _).alloc (Nat.le_refl _) _) (by simp)
  have V0 : Hid (Unc ((w.alloc (Obj.cells #[.int .i64 a.id, .int .i64 a.player, .int .i64 a.kind, .int .i64 a.at_, .int .i64 a.life, .int .i64 a.load, .int .i64 a.task, .int .i64 a.goal] 59)).alloc (Obj.cells #[.int .i64 b.id, .int .i64 b.player, .int .i64 b.kind, .int .i64 b.at_, .int .i64 b.life, .int .i64 b.load, .int .i64 b.task, .int .i64 b.goal] 59)) ⟨w.heap.size + 1, 0, none⟩ b) := Unc.mk' b (by simp)
  have CB : Hid (∀ V, Below w.heap.size w V → Unc V ⟨w.heap.size, 0, none⟩ a → Unc V ⟨w.heap.size + 1, 0, none⟩ b → (V.cell? ⟨bf, 0, none⟩ = some (.func (Fn.func 66) #[] #[.pointer (some ⟨bw, 0, none⟩), .pointer (some ⟨bu, 0, none⟩)]) ∧ Unc V ⟨w.heap.size, 0, none⟩ a ∧ Unc V ⟨w.heap.size + 1, 0, none⟩ b ∧ V.cell? ⟨w.heap.size, 4, none⟩ = some (.int .i64 a.life) ∧ V.cell? ⟨w.heap.size + 1, 4, none⟩ = some (.int .i64 b.life))) := fun V hb h0 h1 =>
    ⟨by rw [hb.cell (p := ⟨bf, 0, none⟩) CF.out.2]; exact CF.out.1, h0, h1, by have := h0.c4; rw [Nat.zero_add] at this; exact this, by have := h1.c4; rw [Nat.zero_add] at this; exact this⟩
  clear hT hF hW h1 h2 hu ha hb la lb
  unfold UnV.val
  go_enter Tryz.func70, Tryz.ntmps70
  go_upto_region 1 with fail
  generalize ((w.alloc (Obj.cells #[.int .i64 a.id, .int .i64 a.player, .int .i64 a.kind, .int .i64 a.at_, .int .i64 a.life, .int .i64 a.load, .int .i64 a.task, .int .i64 a.goal] 59)).alloc (Obj.cells #[.int .i64 b.id, .int .i64 b.player, .int .i64 b.kind, .int .i64 b.at_, .int .i64 b.life, .int .i64 b.load, .int .i64 b.task, .int .i64 b.goal] 59)) = w0 at *
  refine wp_region_two [(true, 0), (true, 1), (true, 3), (true, 4), (true, 7), (true, 8), (true, 9), (true, 10), (true, 11), (false, 2), (false, 5), (true, 6), (false, 12), (false, 13)] [(false, 14)] (fun V => (V.cell? ⟨bf, 0, none⟩ = some (.func (Fn.func 66) #[] #[.pointer (some ⟨bw, 0, none⟩), .pointer (some ⟨bu, 0, none⟩)]) ∧ Unc V ⟨w.heap.size, 0, none⟩ a ∧ Unc V ⟨w.heap.size + 1, 0, none⟩ b ∧ V.cell? ⟨w.heap.size, 4, none⟩ = some (.int .i64 a.life) ∧ V.cell? ⟨w.heap.size + 1, 4, none⟩ = some (.int .i64 b.life))) (by kernel_rfl) (by kernel_rfl) (by kernel_rfl) (by decide +kernel) (by decide +kernel) (CB.out _ B0.out.drew (A0.out.below ((Below.refl _ _).drew) A0.out.lt) (V0.out.below ((Below.refl _ _).drew) V0.out.lt)) ?_
  have B1 : Hid (Below w.heap.size w { w0 with drawn := w0.drawn + 1 }) := B0.out.drew
  have A1 : Hid (Unc { w0 with drawn := w0.drawn + 1 } ⟨w.heap.size, 0, none⟩ a) := A0.out.below ((Below.refl _ _).drew) A0.out.lt
  have V1 : Hid (Unc { w0 with drawn := w0.drawn + 1 } ⟨w.heap.size + 1, 0, none⟩ b) := V0.out.below ((Below.refl _ _).drew) V0.out.lt
  generalize ({ w0 with drawn := w0.drawn + 1 } : World) = w1 at *
  clear B0 A0 V0
  refine headT_read rfl (.func (Fn.func 66) #[] #[.pointer (some ⟨bw, 0, none⟩), .pointer (some ⟨bu, 0, none⟩)]) (by go_simp) (fun V hV => by obtain ⟨d1, ⟨q0, q1, q2, q3, q4, q5, q6, q7⟩, ⟨r0, r1, r2, r3, r4, r5, r6, r7⟩, d2, d3⟩ := hV; go_simp) ?_
  go_simp
  refine headT_read rfl (.agg #[.int .i64 a.id, .int .i64 a.player, .int .i64 a.kind, .int .i64 a.at_, .int .i64 a.life, .int .i64 a.load, .int .i64 a.task, .int .i64 a.goal]) (by go_simp) (fun V hV => by obtain ⟨d1, ⟨q0, q1, q2, q3, q4, q5, q6, q7⟩, ⟨r0, r1, r2, r3, r4, r5, r6, r7⟩, d2, d3⟩ := hV; go_simp) ?_
  go_simp
  refine headT_read rfl (.func (Fn.func 66) #[] #[.pointer (some ⟨bw, 0, none⟩), .pointer (some ⟨bu, 0, none⟩)]) (by go_simp) (fun V hV => by obtain ⟨d1, ⟨q0, q1, q2, q3, q4, q5, q6, q7⟩, ⟨r0, r1, r2, r3, r4, r5, r6, r7⟩, d2, d3⟩ := hV; go_simp) ?_
  go_simp
  refine headT_read rfl (.agg #[.int .i64 b.id, .int .i64 b.player, .int .i64 b.kind, .int .i64 b.at_, .int .i64 b.life, .int .i64 b.load, .int .i64 b.task, .int .i64 b.goal]) (by go_simp) (fun V hV => by obtain ⟨d1, ⟨q0, q1, q2, q3, q4, q5, q6, q7⟩, ⟨r0, r1, r2, r3, r4, r5, r6, r7⟩, d2, d3⟩ := hV; go_simp) ?_
  go_simp
  refine headT_read rfl (.pointer (some ⟨w.heap.size, 4, none⟩)) (by go_simp) (fun V hV => by go_simp) ?_
  go_simp
  refine headT_read rfl (.int .i64 a.life) (by go_simp) (fun V hV => by obtain ⟨d1, ⟨q0, q1, q2, q3, q4, q5, q6, q7⟩, ⟨r0, r1, r2, r3, r4, r5, r6, r7⟩, d2, d3⟩ := hV; go_simp) ?_
  go_simp
  refine headT_read rfl (.pointer (some ⟨w.heap.size + 1, 4, none⟩)) (by go_simp) (fun V hV => by go_simp) ?_
  go_simp
  refine headT_read rfl (.int .i64 b.life) (by go_simp) (fun V hV => by obtain ⟨d1, ⟨q0, q1, q2, q3, q4, q5, q6, q7⟩, ⟨r0, r1, r2, r3, r4, r5, r6, r7⟩, d2, d3⟩ := hV; go_simp) ?_
  go_simp
  refine headT_read rfl (.int .i64 (a.life - b.life)) (by go_simp) (fun V hV => by go_simp) ?_
  go_simp
  refine headT_call rfl 66 (#[a.val] ++ #[.pointer (some ⟨bw, 0, none⟩), .pointer (some ⟨bu, 0, none⟩)]) (by go_simp) (by go_simp; rfl) ?_
  refine (far_fg X u a Wn bw bu _ _ _ _ _ w1 (T0.out.below B1.out T0.out.x.lt T0.out.u.lt) GG.out.1 GG.out.2.1 GG.out.2.2.1 GG.out.2.2.2.1 GG.out.2.2.2.2.1).mono ?_
  rintro e w2 ⟨rfl, hb⟩
  have B2 : Hid (Below w.heap.size w w2) := B1.out.trans (hb.mono B1.out.size)
  have A2 : Hid (Unc w2 ⟨w.heap.size, 0, none⟩ a) := A1.out.below hb A1.out.lt
  have V2 : Hid (Unc w2 ⟨w.heap.size + 1, 0, none⟩ b) := V1.out.below hb V1.out.lt
  refine ⟨_, rfl, CB.out _ B2.out A2.out V2.out, ?_⟩
  clear hb B1 A1 V1
  go_simp
  refine headT_call rfl 66 (#[b.val] ++ #[.pointer (some ⟨bw, 0, none⟩), .pointer (some ⟨bu, 0, none⟩)]) (by go_simp) (by go_simp; rfl) ?_
  refine (far_fg X u b Wn bw bu _ _ _ _ _ w2 (T0.out.below B2.out T0.out.x.lt T0.out.u.lt) GG.out.1 GG.out.2.1 GG.out.2.2.1 GG.out.2.2.2.1 GG.out.2.2.2.2.2).mono ?_
  rintro e w3 ⟨rfl, hb⟩
  have B3 : Hid (Below w.heap.size w w3) := B2.out.trans (hb.mono B2.out.size)
  have A3 : Hid (Unc w3 ⟨w.heap.size, 0, none⟩ a) := A2.out.below hb A2.out.lt
  have V3 : Hid (Unc w3 ⟨w.heap.size + 1, 0, none⟩ b) := V2.out.below hb V2.out.lt
  refine ⟨_, rfl, CB.out _ B3.out A3.out V3.out, ?_⟩
  clear hb B2 A2 V2
  go_simp
  obtain ⟨fa, hfa⟩ : ∃ t, farU Wn u a = t := ⟨_, rfl⟩
  obtain ⟨fb, hfb⟩ : ∃ t, farU Wn u b = t := ⟨_, rfl⟩
  have SO : Hid (soonU Wn u a b = if fa - fb = 0 then a.life - b.life else fa - fb) := by unfold Hid soonU; rw [hfa, hfb]
  rw [hfa, hfb] at wf
  rw [hfa, hfb]
  clear hfa hfb
  refine headT_read rfl (.int .i64 (fa - fb)) (by go_simp) (fun V hV => by go_simp) ?_
  go_simp
  have BA : Hid (Below w3.heap.size w3 (w3.alloc (Obj.cells #[.int .i64 (fa - fb), .int .i64 (a.life - b.life)] 3))) := (Below.refl _ _).alloc (Nat.le_refl _) _
  have s0 : (w3.alloc (Obj.cells #[.int .i64 (fa - fb), .int .i64 (a.life - b.life)] 3)).cell? ⟨w3.heap.size, 0, none⟩ = some (.int .i64 (fa - fb)) := by simp
  have s1 : (w3.alloc (Obj.cells #[.int .i64 (fa - fb), .int .i64 (a.life - b.life)] 3)).cell? ⟨w3.heap.size, 1, none⟩ = some (.int .i64 (a.life - b.life)) := by simp
  refine headT_value rfl (.slice (some ⟨w3.heap.size, 0, none⟩) 2 2) (w3.alloc (Obj.cells #[.int .i64 (fa - fb), .int .i64 (a.life - b.life)] 3)) (by go_simp) (by go_simp) (CB.out _ (B3.out.trans (BA.out.mono B3.out.size)) (A3.out.below BA.out A3.out.lt) (V3.out.below BA.out V3.out.lt)) ?_
  go_simp
  generalize (w3.alloc (Obj.cells #[.int .i64 (fa - fb), .int .i64 (a.life - b.life)] 3)) = w4 at *
  have B4 : Hid (Below w.heap.size w w4) := B3.out.trans (BA.out.mono B3.out.size)
  have A4 : Hid (Unc w4 ⟨w.heap.size, 0, none⟩ a) := A3.out.below BA.out A3.out.lt
  have V4 : Hid (Unc w4 ⟨w.heap.size + 1, 0, none⟩ b) := V3.out.below BA.out V3.out.lt
  refine headT_call rfl 71 #[.slice (some ⟨w3.heap.size, 0, none⟩) 2 2] (by go_simp) (by go_simp) ?_
  refine (or2_any _ _ _ w4 s0 s1).mono ?_
  rintro e w5 ⟨rfl, rfl⟩
  refine ⟨_, rfl, CB.out _ B4.out A4.out V4.out, ?_⟩
  rw [← SO.out]
  obtain ⟨t, ht⟩ : ∃ t, soonU Wn u a b = t := ⟨_, rfl⟩
  have ST : Hid (soonU Wn u a b = t) := ht
  rw [ht]
  clear ht SO s0 s1 BA
  go_simp
  refine sched_value rfl (.int .i64 t) w5 (by go_simp) (by go_simp) trivial ?_
  go_simp
  unfold wpSched
  go_wp2
  go_ret
  exact ⟨by rw [ST.out]; rfl, B4.out⟩
end Go.Proofs.YtagnjmellcibhaaGreatDoor

namespace Go.Proofs.YtagnjmellcibhaaGreatDoor
open Go.RowKit
set_option linter.unusedVariables false

theorem wl_shape9 {w : World} {v : Value} {X : WV} (h : Wl w v X) : ∃ p1 q1 p2 q2 p3 q3 p4 q4 p5 q5, v = .agg #[.int .i64 X.turn, .int .i64 X.next, .int .i64 X.wide, .int .i64 X.high, .slice p1 X.gs.length q1, .slice p2 X.os.length q2, .slice p3 X.gold.length q3, .slice p4 X.us.length q4, .slice p5 X.qs.length q5] := by
  obtain ⟨u1, u2, u3, u4, u5, rfl, ⟨p1, q1, rfl, -⟩, ⟨p2, q2, rfl, -⟩, ⟨p3, q3, rfl, -⟩, ⟨p4, q4, rfl, -⟩, ⟨p5, q5, rfl, -⟩⟩ := h
  exact ⟨_, _, _, _, _, _, _, _, _, _, rfl⟩
theorem fl_of {w : World} {X : WV} {u1 u2 u3 u4 u5 : Value} (h : Wl w (.agg #[.int .i64 X.turn, .int .i64 X.next, .int .i64 X.wide, .int .i64 X.high, u1, u2, u3, u4, u5]) X) : Fl w (.agg #[.int .i64 X.wide, .int .i64 X.high, u1, u2]) X.wide X.high X.gs X.os :=
  ⟨u1, u2, rfl, h.slices.1, h.slices.2.1⟩
end Go.Proofs.YtagnjmellcibhaaGreatDoor

