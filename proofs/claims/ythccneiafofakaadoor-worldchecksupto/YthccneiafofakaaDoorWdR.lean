/- Worlds in bytes. Plain mathematics. -/
import Derived.Test.YthccneiafofakaaDoorWdM
import Derived.Test.YthccneiafofakaaDoorUnA
import Derived.Test.YthccneiafofakaaDoorJbA
namespace Go.Proofs.YthccneiafofakaaDoor
set_option linter.unusedVariables false

structure WV where
  turn : Int
  next : Int
  wide : Int
  high : Int
  gs : List Int
  os : List Int
  gold : List Int
  us : List UnV
  qs : List JbV
namespace Wd

/-- what a reader that goes on where something is wrong has read: f: something was wrong. -/
def Rd {α : Type} (p : Pr α) (a : Nat) (f : Bool) (v : α) (a' : Nat) (f' : Bool) : Prop := (f = true → f' = true) ∧ (f = false → (p a = some (v, a') ∧ f' = false) ∨ (p a = none ∧ f' = true))
theorem Rd.ret {α : Type} (v : α) (a : Nat) (f : Bool) : Rd (pret v) a f v a f := ⟨fun h => h, fun h => .inl ⟨rfl, h⟩⟩
theorem Rd.bind {α β : Type} {p : Pr α} {q : α → Pr β} {a : Nat} {f : Bool} {v : α} {a' : Nat} {f' : Bool} {u : β} {a'' : Nat} {f'' : Bool} (h1 : Rd p a f v a' f') (h2 : Rd (q v) a' f' u a'' f'') : Rd (pbind p q) a f u a'' f'' := by
  refine ⟨fun h => h2.1 (h1.1 h), fun h => ?_⟩
  rcases h1.2 h with ⟨e1, e2⟩ | ⟨e1, e2⟩
  · unfold pbind
    rw [e1]
    exact h2.2 e2
  · refine .inr ⟨?_, h2.1 e2⟩
    unfold pbind
    rw [e1]
theorem Rd.snoc {α : Type} {p : Pr α} {n a : Nat} {f : Bool} {l : List α} {a' : Nat} {f' : Bool} {v : α} {a'' : Nat} {f'' : Bool} (h1 : Rd (prep p n) a f l a' f') (h2 : Rd p a' f' v a'' f'') : Rd (prep p (n + 1)) a f (l ++ [v]) a'' f'' := by
  refine ⟨fun h => h2.1 (h1.1 h), fun h => ?_⟩
  rw [prep_snoc]
  rcases h1.2 h with ⟨e1, e2⟩ | ⟨e1, e2⟩
  · rw [e1]
    rcases h2.2 e2 with ⟨e3, e4⟩ | ⟨e3, e4⟩
    · exact .inl ⟨by simp only [e3], e4⟩
    · exact .inr ⟨by simp only [e3], e4⟩
  · exact .inr ⟨by rw [e1], h2.1 e2⟩
theorem Rd.nil {α : Type} (p : Pr α) (a : Nat) (f : Bool) : Rd (prep p 0) a f [] a f := ⟨fun h => h, fun h => .inl ⟨rfl, h⟩⟩
theorem prep_none {α : Type} {p : Pr α} {n a : Nat} (h : prep p n a = none) : ∀ m, prep p (n + m) a = none
  | 0 => h
  | m + 1 => by
    rw [show n + (m + 1) = (n + m) + 1 from rfl, prep_snoc, prep_none h m]
theorem Rd.early {α : Type} {p : Pr α} {n a : Nat} {f : Bool} {l : List α} {a' : Nat} (h : Rd (prep p n) a f l a' true) {m : Nat} (hm : n ≤ m) (l' : List α) (a'' : Nat) : Rd (prep p m) a f l' a'' true := by
  refine ⟨fun _ => rfl, fun hf => ?_⟩
  rcases h.2 hf with ⟨-, e⟩ | ⟨e, -⟩
  · cases e
  · have := prep_none e (m - n)
    rw [Nat.add_sub_cancel' hm] at this
    exact .inr ⟨this, rfl⟩
theorem Rd.bad {α : Type} {p : Pr α} {a : Nat} {v : α} {a' : Nat} : Rd p a true v a' true := ⟨fun h => h, fun h => by cases h⟩
/-- the list behind how many there are. -/
theorem Rd.list {α : Type} {b : List UInt8} {p : Pr α} {a : Nat} {f : Bool} {n : Nat} {a' : Nat} {f' : Bool} {l : List α} {a'' : Nat} {f'' : Bool} (h1 : Rd (pmany b) a f n a' f') (h2 : Rd (prep p n) a' f' l a'' f'') : Rd (plist b p) a f l a'' f'' := Rd.bind (q := fun n => prep p n) h1 h2
theorem plist_eq {α : Type} (b : List UInt8) (p : Pr α) : plist b p = pbind (pmany b) (fun n => prep p n) := rfl

def punit (b : List UInt8) : Pr UnV := pbind (pnum b) fun v0 => pbind (pnum b) fun v1 => pbind (pnum b) fun v2 => pbind (pnum b) fun v3 => pbind (pnum b) fun v4 => pbind (pnum b) fun v5 => pbind (pnum b) fun v6 => pbind (pnum b) fun v7 => pret ⟨v0, v1, v2, v3, v4, v5, v6, v7⟩
def pjob (b : List UInt8) : Pr JbV := pbind (pnum b) fun v0 => pbind (pnum b) fun v1 => pbind (pnum b) fun v2 => pbind (pnum b) fun v3 => pret ⟨v0, v1, v2, v3⟩
def pworld (b : List UInt8) : Pr WV := pbind (pnum b) fun t => pbind (pnum b) fun x => pbind (pnum b) fun wd => pbind (pnum b) fun hg => pbind (plist b (pnum b)) fun gs => pbind (plist b (pnum b)) fun os => pbind (plist b (pnum b)) fun gold => pbind (plist b (punit b)) fun us => pbind (plist b (pjob b)) fun qs => pret ⟨t, x, wd, hg, gs, os, gold, us, qs⟩

def unums (u : UnV) : List Int := [u.id, u.player, u.kind, u.at_, u.life, u.load, u.task, u.goal]
def jnums (j : JbV) : List Int := [j.player, j.unit, j.kind, j.left]
def nums (W : WV) : List Int := [W.turn, W.next, W.wide, W.high] ++ ((W.gs.length : Int) :: W.gs) ++ ((W.os.length : Int) :: W.os) ++ ((W.gold.length : Int) :: W.gold) ++ ((W.us.length : Int) :: W.us.flatMap unums) ++ ((W.qs.length : Int) :: W.qs.flatMap jnums)
def wr (l : List Int) : List UInt8 := l.flatMap num
def enc (W : WV) : List UInt8 := wr (nums W)
structure Wok (W : WV) : Prop where
  in_ : ∀ n ∈ nums W, In64 n
  g : W.gs.length ≤ 200
  o : W.os.length ≤ 200
  p : W.gold.length ≤ 200
  u : W.us.length ≤ 200
  q : W.qs.length ≤ 200

/-- a reader reads what was written, and nothing else. -/
structure Reads {α : Type} (b : List UInt8) (p : Pr α) (e : α → List Int) (ok : α → Prop) : Prop where
  fwd : ∀ {a : Nat} {v : α} {t : List UInt8}, ok v → b.drop a = wr (e v) ++ t → p a = some (v, a + (wr (e v)).length)
  back : ∀ {a : Nat} {v : α} {a' : Nat}, p a = some (v, a') → ok v ∧ b.drop a = wr (e v) ++ b.drop a' ∧ a' = a + (wr (e v)).length
theorem wr_append (l m : List Int) : wr (l ++ m) = wr l ++ wr m := by unfold wr; rw [List.flatMap_append]
theorem wr_one (n : Int) : wr [n] = num n := by simp [wr]
theorem reads_num (b : List UInt8) : Reads b (pnum b) (fun n => [n]) In64 where
  fwd := fun {a v t} h hb => by
    rw [wr_one] at hb ⊢
    exact pnum_num h hb
  back := fun {a v a'} h => by
    rw [wr_one]
    exact ⟨(pnum_le h).2.2.2, (pnum_back h).1, (pnum_back h).2⟩
theorem reads_ret {α : Type} (b : List UInt8) (v : α) : Reads b (pret v) (fun _ => []) (fun u => u = v) where
  fwd := fun {a u t} h hb => by subst h; rfl
  back := fun {a u a'} h => by
    unfold pret at h
    injection h with h
    injection h with h1 h2
    exact ⟨h1.symm, by rw [h2]; rfl, by rw [h2]; rfl⟩
/-- one behind the other: f finds the first part of what comes of both. -/
theorem Reads.bind {α β : Type} {b : List UInt8} {p : Pr α} {q : α → Pr β} {e : α → List Int} {e' : β → List Int} {ok : α → Prop} {ok' : α → β → Prop} (f : β → α) (h1 : Reads b p e ok) (h2 : ∀ v, Reads b (q v) e' (ok' v)) (hf : ∀ v u, ok' v u → f u = v) : Reads b (pbind p q) (fun u => e (f u) ++ e' u) (fun u => ok (f u) ∧ ok' (f u) u) where
  fwd := fun {a u t} h hb => by
    rw [wr_append, List.append_assoc] at hb
    unfold pbind
    rw [h1.fwd h.1 hb]
    simp only
    rw [wr_append, List.length_append, ← Nat.add_assoc]
    refine (h2 (f u)).fwd (t := t) h.2 ?_
    rw [← List.drop_drop, hb, List.drop_left]
  back := fun {a u a'} h => by
    unfold pbind at h
    split at h
    · cases h
    · rename_i v a1 hp
      obtain ⟨k1, k2, k3⟩ := h1.back hp
      obtain ⟨m1, m2, m3⟩ := (h2 v).back h
      have ev := hf v u m1
      rw [ev]
      refine ⟨⟨k1, m1⟩, ?_, ?_⟩
      · rw [wr_append, List.append_assoc, k2, m2]
      · rw [wr_append, List.length_append, m3, k3]; omega
theorem Reads.rep {α : Type} {b : List UInt8} {p : Pr α} {e : α → List Int} {ok : α → Prop} (h : Reads b p e ok) : ∀ n, Reads b (prep p n) (fun l => l.flatMap e) (fun l => l.length = n ∧ ∀ v ∈ l, ok v)
  | 0 => {
    fwd := fun {a l t} hl hb => by
      obtain rfl := List.length_eq_zero_iff.1 hl.1
      rfl
    back := fun {a l a'} hl => by
      simp only [prep, Option.some.injEq, Prod.mk.injEq] at hl
      obtain ⟨rfl, rfl⟩ := hl
      exact ⟨⟨rfl, by simp⟩, rfl, rfl⟩ }
  | n + 1 => {
    fwd := fun {a l t} hl hb => by
      match l, hl with
      | v :: l, hl =>
        rw [List.flatMap_cons, wr_append] at hb ⊢
        rw [List.append_assoc] at hb
        rw [prep, h.fwd (hl.2 v (by simp)) hb]
        simp only
        rw [(Reads.rep h n).fwd (v := l) (t := t) ⟨by simpa using hl.1, fun u hu => hl.2 u (by simp [hu])⟩ (by rw [← List.drop_drop, hb, List.drop_left])]
        simp only [List.length_append]
        rw [Nat.add_assoc]
    back := fun {a l a'} hl => by
      rw [prep] at hl
      split at hl
      · cases hl
      · rename_i v a1 hp
        split at hl
        · cases hl
        · rename_i l' a2 hq
          injection hl with hl
          injection hl with e1 e2
          subst e1 e2
          obtain ⟨k1, k2, k3⟩ := h.back hp
          obtain ⟨m1, m2, m3⟩ := (Reads.rep h n).back hq
          refine ⟨⟨by rw [List.length_cons, m1.1], ?_⟩, ?_, ?_⟩
          · intro u hu
            rcases List.mem_cons.1 hu with rfl | hu
            · exact k1
            · exact m1.2 u hu
          · rw [List.flatMap_cons, wr_append, List.append_assoc, k2, m2]
          · rw [List.flatMap_cons, wr_append, List.length_append, m3, k3]; omega }
theorem in_200 {n : Nat} (h : n ≤ 200) : In64 (n : Int) := by unfold In64; omega
theorem reads_many (b : List UInt8) : Reads b (pmany b) (fun n => [(n : Int)]) (fun n => n ≤ 200) where
  fwd := fun {a v t} h hb => by
    rw [wr_one] at hb ⊢
    unfold pmany
    rw [pnum_num (in_200 h) hb]
    simp only
    rw [if_pos (by omega)]
    rfl
  back := fun {a v a'} h => by
    unfold pmany at h
    split at h
    · cases h
    · rename_i n a1 hp
      split at h
      · rename_i hn
        injection h with h
        injection h with e1 e2
        subst e1 e2
        rw [wr_one]
        have : ((n.toNat : Nat) : Int) = n := by omega
        rw [this]
        exact ⟨by omega, (pnum_back hp).1, (pnum_back hp).2⟩
      · cases h
theorem Reads.list {α : Type} {b : List UInt8} {p : Pr α} {e : α → List Int} {ok : α → Prop} (h : Reads b p e ok) : Reads b (plist b p) (fun l => (l.length : Int) :: l.flatMap e) (fun l => l.length ≤ 200 ∧ ∀ v ∈ l, ok v) := by
  have := Reads.bind (q := fun n => prep p n) List.length (reads_many b) (fun n => h.rep n) (fun n l hl => hl.1)
  rw [plist_eq]
  exact { fwd := fun {a v t} hv hb => this.fwd (a := a) (v := v) (t := t) ⟨hv.1, rfl, hv.2⟩ hb, back := fun {a v a'} hh => by obtain ⟨⟨h1, h2, h3⟩, h4, h5⟩ := this.back hh; exact ⟨⟨h1, h3⟩, h4, h5⟩ }
/-- the same, told by other words. -/
theorem Reads.as {α : Type} {b : List UInt8} {p : Pr α} {e e' : α → List Int} {ok ok' : α → Prop} (h : Reads b p e ok) (he : ∀ v, e' v = e v) (ho : ∀ v, ok' v ↔ ok v) : Reads b p e' ok' := by
  obtain rfl : e' = e := funext he
  obtain rfl : ok' = ok := funext fun v => propext (ho v)
  exact h
theorem reads_unit (b : List UInt8) : Reads b (punit b) unums (fun u => ∀ n ∈ unums u, In64 n) := by
  have h := reads_num b
  have := Reads.bind UnV.id h (fun v0 => Reads.bind UnV.player h (fun v1 => Reads.bind UnV.kind h (fun v2 => Reads.bind UnV.at_ h (fun v3 => Reads.bind UnV.life h (fun v4 => Reads.bind UnV.load h (fun v5 => Reads.bind UnV.task h (fun v6 => Reads.bind UnV.goal h (fun v7 => reads_ret b (⟨v0, v1, v2, v3, v4, v5, v6, v7⟩ : UnV)) (by intro v u hu; subst hu; rfl)) (by intro v u hu; rw [hu.2])) (by intro v u hu; rw [hu.2.2])) (by intro v u hu; rw [hu.2.2.2])) (by intro v u hu; rw [hu.2.2.2.2])) (by intro v u hu; rw [hu.2.2.2.2.2])) (by intro v u hu; rw [hu.2.2.2.2.2.2])) (by intro v u hu; rw [hu.2.2.2.2.2.2.2])
  refine this.as (fun v => rfl) fun v => ?_
  simp [unums]
theorem reads_job (b : List UInt8) : Reads b (pjob b) jnums (fun u => ∀ n ∈ jnums u, In64 n) := by
  have h := reads_num b
  have := Reads.bind JbV.player h (fun v0 => Reads.bind JbV.unit h (fun v1 => Reads.bind JbV.kind h (fun v2 => Reads.bind JbV.left h (fun v3 => reads_ret b (⟨v0, v1, v2, v3⟩ : JbV)) (by intro v u hu; subst hu; rfl)) (by intro v u hu; rw [hu.2])) (by intro v u hu; rw [hu.2.2])) (by intro v u hu; rw [hu.2.2.2])
  refine this.as (fun v => rfl) fun v => ?_
  simp [jnums]
theorem fm_one : ∀ l : List Int, l.flatMap (fun n => [n]) = l
  | [] => rfl
  | x :: l => by rw [List.flatMap_cons, fm_one l]; rfl
theorem reads_ints (b : List UInt8) : Reads b (plist b (pnum b)) (fun l => (l.length : Int) :: l) (fun l => l.length ≤ 200 ∧ ∀ v ∈ l, In64 v) := (reads_num b).list.as (fun v => by rw [fm_one]) (fun v => Iff.rfl)
theorem reads_world (b : List UInt8) : Reads b (pworld b) nums Wok := by
  have h := reads_num b
  have hi := reads_ints b
  have := Reads.bind WV.turn h (fun v0 => Reads.bind WV.next h (fun v1 => Reads.bind WV.wide h (fun v2 => Reads.bind WV.high h (fun v3 => Reads.bind WV.gs hi (fun v4 => Reads.bind WV.os hi (fun v5 => Reads.bind WV.gold hi (fun v6 => Reads.bind WV.us (reads_unit b).list (fun v7 => Reads.bind WV.qs (reads_job b).list (fun v8 => reads_ret b (⟨v0, v1, v2, v3, v4, v5, v6, v7, v8⟩ : WV)) (by intro v u hu; subst hu; rfl)) (by intro v u hu; rw [hu.2])) (by intro v u hu; rw [hu.2.2])) (by intro v u hu; rw [hu.2.2.2])) (by intro v u hu; rw [hu.2.2.2.2])) (by intro v u hu; rw [hu.2.2.2.2.2])) (by intro v u hu; rw [hu.2.2.2.2.2.2])) (by intro v u hu; rw [hu.2.2.2.2.2.2.2])) (by intro v u hu; rw [hu.2.2.2.2.2.2.2.2])
  refine this.as (fun v => by simp [nums]) fun v => ?_
  constructor
  · intro k
    have i := k.in_
    have mem : ∀ {n : Int}, n ∈ nums v ↔ n = v.turn ∨ n = v.next ∨ n = v.wide ∨ n = v.high ∨ n = v.gs.length ∨ n ∈ v.gs ∨ n = v.os.length ∨ n ∈ v.os ∨ n = v.gold.length ∨ n ∈ v.gold ∨ n = v.us.length ∨ n ∈ v.us.flatMap unums ∨ n = v.qs.length ∨ n ∈ v.qs.flatMap jnums := by
      intro n; simp [nums]
    refine ⟨i _ (mem.2 (by simp)), i _ (mem.2 (by simp)), i _ (mem.2 (by simp)), i _ (mem.2 (by simp)), ⟨k.g, fun n hn => i _ (mem.2 (by simp [hn]))⟩, ⟨k.o, fun n hn => i _ (mem.2 (by simp [hn]))⟩, ⟨k.p, fun n hn => i _ (mem.2 (by simp [hn]))⟩, ⟨k.u, fun u hu n hn => i _ (mem.2 ?_)⟩, ⟨k.q, fun u hu n hn => i _ (mem.2 ?_)⟩, rfl⟩
    · have : n ∈ v.us.flatMap unums := List.mem_flatMap.2 ⟨u, hu, hn⟩
      simp only [this, true_or, or_true]
    · have : n ∈ v.qs.flatMap jnums := List.mem_flatMap.2 ⟨u, hu, hn⟩
      simp only [this, or_true]
  · rintro ⟨h0, h1, h2, h3, ⟨h4, h5⟩, ⟨h6, h7⟩, ⟨h8, h9⟩, ⟨h10, h11⟩, ⟨h12, h13⟩, -⟩
    refine ⟨?_, h4, h6, h8, h10, h12⟩
    intro n hn
    simp only [nums, List.mem_append, List.mem_cons, List.not_mem_nil, or_false, List.mem_flatMap] at hn
    rcases hn with (((((rfl | rfl | rfl | rfl) | (rfl | hn)) | (rfl | hn)) | (rfl | hn)) | (rfl | ⟨u, hu, hn⟩)) | (rfl | ⟨u, hu, hn⟩)
    · exact h0
    · exact h1
    · exact h2
    · exact h3
    · exact in_200 h4
    · exact h5 _ hn
    · exact in_200 h6
    · exact h7 _ hn
    · exact in_200 h8
    · exact h9 _ hn
    · exact in_200 h10
    · exact h11 u hu n hn
    · exact in_200 h12
    · exact h13 u hu n hn

theorem dec_enc {W : WV} (h : Wok W) (t : List UInt8) : pworld (enc W ++ t) 0 = some (W, (enc W).length) := by
  have := (reads_world (enc W ++ t)).fwd (a := 0) (v := W) (t := t) h rfl
  rw [Nat.zero_add] at this
  exact this
theorem dec_back {b : List UInt8} {W : WV} {n : Nat} (h : pworld b 0 = some (W, n)) : Wok W ∧ b = enc W ++ b.drop n ∧ n = (enc W).length := by
  obtain ⟨h1, h2, h3⟩ := (reads_world b).back h
  exact ⟨h1, h2, by rw [h3, Nat.zero_add]; rfl⟩
theorem num_pos (n : Int) : 0 < (num n).length := by
  unfold num
  by_cases h : zz n < 128
  · rw [vl_small h]; simp
  · rw [vl_great (by omega)]; simp
theorem dec_cut {W : WV} (h : Wok W) {m : Nat} (hm : m < (enc W).length) : pworld ((enc W).take m) 0 = none := by
  cases hp : pworld ((enc W).take m) 0 with
  | none => rfl
  | some x =>
    obtain ⟨W', n⟩ := x
    obtain ⟨k1, k2, k3⟩ := dec_back hp
    have e : enc W = enc W' ++ (((enc W).take m).drop n ++ (enc W).drop m) := by
      rw [← List.append_assoc, ← k2, List.take_append_drop]
    have d1 := dec_enc k1 (((enc W).take m).drop n ++ (enc W).drop m)
    rw [← e] at d1
    have d2 := dec_enc h []
    rw [List.append_nil, d1] at d2
    have d3 : (enc W').length = (enc W).length := by injection d2 with d2; injection d2
    have d4 := congrArg List.length k2
    rw [List.length_append, List.length_take] at d4
    omega
end Wd
end Go.Proofs.YthccneiafofakaaDoor
