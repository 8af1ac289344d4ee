/- Bytes: a whole list behind another one; a part of one. -/
import Derived.Test.YthccneiafofakaaDoorObt
import Derived.Test.YthccneiafofakaaDoorByA
import Derived.Test.YthccneiafofakaaDoorAppR
import Derived.Laws.IdiomStrings
import Derived.Test.YthccneiafofakaaDoorWdR
namespace Go.Proofs.YthccneiafofakaaDoor
open Go.RowKit
set_option linter.unusedVariables false

theorem Ob.by_ {w : World} {base : Nat} {v : Value} {l : List UInt8} (h : Ob w base v l) : By w v l := by
  rcases h.2 with ⟨hv, h0⟩ | ⟨g, cap, cur, hv, hb, hg, h1, h2, h3, h4⟩
  · exact ⟨none, 0, by rw [hv, h0], by omega, by omega, fun hn => absurd (List.length_eq_zero_iff.1 h0) hn⟩
  · refine ⟨_, cap, hv, h1, h2, fun hn => ⟨_, rfl, lt_of_block hg, fun i d hd => ?_⟩⟩
    have hi : i < l.length := (List.getElem?_eq_some_iff.1 hd).1
    rw [Addr.add_lit, Nat.zero_add]
    have h5 : w.ownsRow base 5 1 (.slice (some ⟨g, 0, none⟩) l.length cap) l.length (byteCells l) := by rw [← hv]; exact h
    rw [h5.cellAt i (by omega), byteCells, List.getElem?_map, hd]
    rfl
theorem By.take {w : World} {ad : Option Addr} {n c k : Nat} {l : List UInt8} (h : By w (.slice ad n c) l) (hk : k ≤ l.length) : By w (.slice ad k c) (l.take k) := by
  obtain ⟨a, c', e, h1, h2, h3⟩ := h
  injection e with e1 e2 e3
  subst e1 e3
  have hl : (l.take k).length = k := by rw [List.length_take]; omega
  refine ⟨ad, c, by rw [hl], by omega, h2, fun hn => ?_⟩
  obtain ⟨x, e, hx, hc⟩ := h3 (by intro h; subst h; simp at hn)
  refine ⟨x, e, hx, fun i d hd => hc i d ?_⟩
  rw [List.getElem?_take] at hd
  split at hd
  · exact hd
  · cases hd
set_option maxRecDepth 100000 in
theorem By.conv {w : World} {ad : Option Addr} {n c : Nat} {l : List UInt8} (h : By w (.slice ad n c) l) : (convert 66 9 (.slice ad n c)).run Tryd.prog w = .ok (.string ⟨l.toArray⟩) w := by
  obtain ⟨a, c', e, h1, h2, h3⟩ := h
  injection e with e1 e2 e3
  subst e1 e2 e3
  by_cases hn : l = []
  · subst hn
    cases ad with
    | none => rw [show ([] : List UInt8).length = 0 from rfl, run_convert_bytes_string w 66 9 5 none 0 c Tryd.underlying66 Tryd.underlying5 Tryd.underlying9]; rfl
    | some a => exact run_convert_bytes_back (P := Tryd.prog) w 66 9 5 a c [] Tryd.underlying66 Tryd.underlying5 Tryd.underlying9 (fun j hj => by simp at hj)
  · obtain ⟨x, rfl, hx, hc⟩ := h3 hn
    exact run_convert_bytes_back (P := Tryd.prog) w 66 9 5 x c l Tryd.underlying66 Tryd.underlying5 Tryd.underlying9 (fun j hj => hc j _ (List.getElem?_eq_getElem hj))
theorem app_bytes {ops : Array Oper} {rest : List Oper} {o : Oper} {a : Act} {Q : Exit → Act → World → Prop} (w : World) (hgd : o.guard = none) (s x : Operand)
    (ho : o.op = .call { callee := .builtin .append, args := #[s, x], argTypes := #[66, 66] }) (base : Nat) (v : Value) (xs : List UInt8) (hs : a.eval s = v) (hown : Ob w base v xs)
    (u : Value) (ys : List UInt8) (hx : a.eval x = u) (hu : By w u ys) (hl : xs.length + ys.length ≤ 1000000000) (hbase : base ≤ w.heap.size)
    (h : ∀ v' w', Ob w' base v' (xs ++ ys) → w.grownBy w' v.ownBlock → wpList Tryd.prog ops Q rest (a.put o.dst v') w') :
    wpList Tryd.prog ops Q (o :: rest) a w := by
  obtain ⟨i0, hi, hz0, hz1, hz2⟩ := info_parts info_byte
  obtain ⟨ad, c, rfl, h1, h2, h3⟩ := hu
  by_cases hn : ys = []
  · subst hn
    refine wpList_plain hgd fun K hK => ?_
    have hrun := run_append_no (P := Tryd.prog) (w := w) base 66 o.type 5 i0 1 Tryd.underlying66 hi v xs.length _ hown ad c
    have hx' : a.eval x = .slice ad 0 c := hx
    unfold Oper.wp
    simp [execOp, ho, resolve, invoke, builtin, hs, hx', hrun, Result.andThen]
    exact hK _ _ (h v w (by simpa using hown) (World.grownBy.refl _ _))
  · obtain ⟨y, rfl, hy, hc⟩ := h3 hn
    refine wpList_append_own w hgd s x 66 ho base 5 i0 (.int .u8 0) 1 1 Tryd.underlying66 hi hz0 hz1 hz2 rfl (by decide) v xs.length _ hs hown y ys.length c (byteCells ys) hx (by simp [byteCells]) ?_ ?_ (by unfold maxLen; omega) (by omega) hbase ?_
    · intro j u hj
      rw [byteCells, List.getElem?_map] at hj
      cases hd : ys[j]? with
      | none => rw [hd] at hj; cases hj
      | some d => rw [hd] at hj; cases hj; exact hc j d hd
    · intro u hu
      simp only [byteCells, List.mem_map] at hu
      obtain ⟨b, -, rfl⟩ := hu
      rfl
    · intro v' w' k1 k2 _
      refine h v' w' ?_ k2
      unfold Ob
      rw [List.length_append, byteCells, List.map_append]
      exact k1
theorem enc_one : Wd.enc ⟨1, 0, 0, 0, [], [], [], [], []⟩ = [2, 0, 0, 0, 0, 0, 0, 0, 0] := by
  simp [Wd.enc, Wd.wr, Wd.nums, Wd.num, Wd.zz, Wd.vl_small]
end Go.Proofs.YthccneiafofakaaDoor
