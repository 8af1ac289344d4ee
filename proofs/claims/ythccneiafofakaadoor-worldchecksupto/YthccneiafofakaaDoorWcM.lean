/- Worlds: what is wrong with one. Plain mathematics. -/
import Derived.Test.YthccneiafofakaaDoorWdR
import Derived.Test.YthccneiafofakaaDoorFdMath
import Derived.Test.YthccneiafofakaaDoorKdA
namespace Go.Proofs.YthccneiafofakaaDoor
set_option linter.unusedVariables false
namespace Wd

/-- not from least to 1000000. -/
def off (least n : Int) : Bool := !decide (least ≤ n ∧ n ≤ 1000000)
def numsBad (W : WV) : Bool := off 0 W.turn || (off 1 W.next || (!decide (1 ≤ (W.gold.length : Int) ∧ (W.gold.length : Int) ≤ 4) || W.gold.any (off 0)))
def has (n : Nat) (i : Int) : Bool := decide (0 ≤ i ∧ i < (n : Int))
/-- one who goes, or flies, may stand there. -/
def open_ (gs : List Int) (ahead : List UnV) (at_ : Int) (fl : Bool) : Bool := decide (0 < Fd.onto (gs.getD at_.toNat 0) fl) && !ahead.any (fun u => u.at_ == at_)
/-- what is wrong with the i-th unit, as far as its kind does not matter; as far as it does. -/
def kindPart (W : WV) (ahead : List UnV) (u : UnV) (k : KV) : Int :=
  if !decide (1 ≤ u.life ∧ u.life ≤ k.n0) || (!decide (0 ≤ u.load ∧ u.load ≤ k.n7) || !decide (0 ≤ u.task ∧ u.task ≤ 2)) then 1
  else if !has W.gs.length u.at_ || !has W.gs.length u.goal then 6
  else if !open_ W.gs ahead u.at_ k.f || (u.goal != 0 && u.task == 0) then 7 else 0
def notAbove (us : List UnV) (i : Nat) (u : UnV) : Bool := match i with
  | 0 => false
  | j + 1 => match us[j]? with
    | none => false
    | some x => decide (u.id ≤ x.id)
def unitFault (ks : List KV) (W : WV) (i : Nat) (u : UnV) : Int :=
  if !decide (1 ≤ u.id ∧ u.id ≤ W.next - 1) then 1
  else if notAbove W.us i u then 5
  else if !has W.gold.length u.player || !has ks.length u.kind then 1
  else match ks[u.kind.toNat]? with
    | none => 1
    | some k => kindPart W (W.us.take i) u k
def unitsGo (ks : List KV) (W : WV) (i : Nat) : List UnV → Int
  | [] => 0
  | u :: r => if unitFault ks W i u = 0 then unitsGo ks W (i + 1) r else unitFault ks W i u
def jobFault (ks : List KV) (W : WV) (j : JbV) : Int := match W.us.find? (fun u => u.id == j.unit) with
  | none => 6
  | some u => match ks[u.kind.toNat]? with
    | none => 7
    | some k => if u.player != j.player || !k.t then 7 else if !has ks.length j.kind || !decide (1 ≤ j.left ∧ j.left ≤ 1000) then 1 else 0
def jobsGo (ks : List KV) (W : WV) : List JbV → Int
  | [] => 0
  | j :: r => if jobFault ks W j = 0 then jobsGo ks W r else jobFault ks W j
def ground (ks : List KV) (W : WV) : Int := if Kd.kindsFault (ks.map KV.k) = 0 then Fd.fault W.wide W.high W.gs W.os else Kd.kindsFault (ks.map KV.k)
/-- what is wrong with a world. -/
def wfault (ks : List KV) (W : WV) : Int :=
  if ground ks W ≠ 0 then ground ks W
  else if numsBad W then 1
  else if 40 < W.us.length then 4
  else if unitsGo ks W 0 W.us ≠ 0 then unitsGo ks W 0 W.us
  else if 12 < W.qs.length then 4
  else jobsGo ks W W.qs
theorem unitsGo_at {ks : List KV} {W : WV} {i : Nat} {u : UnV} (h : W.us[i]? = some u) : unitsGo ks W i (W.us.drop i) = if unitFault ks W i u = 0 then unitsGo ks W (i + 1) (W.us.drop (i + 1)) else unitFault ks W i u := by
  obtain ⟨hi, e⟩ := List.getElem?_eq_some_iff.1 h
  rw [List.drop_eq_getElem_cons hi, e]
  rfl
theorem jobsGo_at {ks : List KV} {W : WV} {i : Nat} {j : JbV} (h : W.qs[i]? = some j) : jobsGo ks W (W.qs.drop i) = if jobFault ks W j = 0 then jobsGo ks W (W.qs.drop (i + 1)) else jobFault ks W j := by
  obtain ⟨hi, e⟩ := List.getElem?_eq_some_iff.1 h
  rw [List.drop_eq_getElem_cons hi, e]
  rfl
end Wd
end Go.Proofs.YthccneiafofakaaDoor
