/- Kinds: their text is short; a text's kinds are told by their parts. -/
import Derived.Test.YtkceccajamdbjaaDoorKpM
import Derived.Test.YtkceccajamdbjaaDoorKdA
import Derived.WideShapes
namespace Go.Proofs.YtkceccajamdbjaaDoor
open Tx
set_option linter.unusedVariables false

theorem join_short (c : UInt8) : ∀ ws : List (List UInt8), (join c ws).length ≤ (ws.map (·.length)).sum + ws.length
  | [] => by simp [join]
  | [w] => by simp [join]
  | w :: v :: ws => by
    have := join_short c (v :: ws)
    rw [join_cons (by simp), List.length_append, List.length_cons]
    simp only [List.map_cons, List.sum_cons, List.length_cons] at *
    omega
theorem kline_short {k : Kd.K} (hf : Kd.Fit k) (hn : Kd.nameOk k.name = true) : (Kd.kline k).length ≤ 60 := by
  have h1 := join_short 32 (Kd.words k)
  have hname : k.name.length ≤ 8 := by
    unfold Kd.nameOk at hn
    simp only [Bool.and_eq_true, decide_eq_true_eq] at hn
    exact hn.2.1
  have hnum : ∀ l : List Int, (∀ n ∈ l, 0 ≤ n ∧ n < 10000) → ((l.map fun n => dig n.toNat).map (·.length)).sum ≤ 4 * l.length := by
    intro l
    induction l with
    | nil => intro _; simp
    | cons n l ih =>
      intro h
      have a := ih (fun x hx => h x (List.mem_cons_of_mem _ hx))
      have b := h n (List.mem_cons_self ..)
      have c : (dig n.toNat).length ≤ 4 := dig_len (by decide) (by show n.toNat < 10000; omega)
      simp only [List.map_cons, List.sum_cons, List.length_cons]
      omega
  have h2 := hnum k.nums hf.low
  have hfl : ∀ (b : Bool) (c : UInt8), (Kd.flag b c).length = 1 := by
    intro b c
    unfold Kd.flag
    split <;> rfl
  have h3 : ((Kd.words k).map (·.length)).sum = k.name.length + ((k.nums.map fun n => dig n.toNat).map (·.length)).sum + 2 := by
    unfold Kd.words
    rw [List.map_cons, List.map_append, List.sum_cons, List.sum_append]
    simp [hfl]
    omega
  have h4 : (Kd.words k).length = 11 := by
    unfold Kd.words
    simp [hf.len]
  have h5 := hf.len
  unfold Kd.kline
  omega
theorem prt_short : ∀ {l : List Kd.K}, (∀ k ∈ l, Kd.Fit k ∧ Kd.nameOk k.name = true) → (Kd.prt l).length ≤ 61 * l.length
  | [], _ => by simp [Kd.prt]
  | k :: l, h => by
    have a := kline_short (h k (List.mem_cons_self ..)).1 (h k (List.mem_cons_self ..)).2
    have b := prt_short (l := l) (fun x hx => h x (List.mem_cons_of_mem _ hx))
    have e : Kd.prt (k :: l) = (Kd.kline k ++ [10]) ++ Kd.prt l := rfl
    rw [e, List.length_append, List.length_append]
    simp only [List.length_cons, List.length_nil]
    omega
theorem k_inj {x y : KV} (h : x.k = y.k) : x = y := by
  obtain ⟨a, n0, n1, n2, n3, n4, n5, n6, n7, f, t⟩ := x
  obtain ⟨a', m0, m1, m2, m3, m4, m5, m6, m7, f', t'⟩ := y
  simp only [KV.k, Kd.K.mk.injEq, List.cons.injEq, and_true] at h
  obtain ⟨h0, ⟨h1, h2, h3, h4, h5, h6, h7, h8⟩, h9, h10⟩ := h
  have : a = a' := WideShapes.bytes_inj h0
  subst this h1 h2 h3 h4 h5 h6 h7 h8 h9 h10
  rfl
theorem ks_inj : ∀ {xs ys : List KV}, xs.map KV.k = ys.map KV.k → xs = ys
  | [], [], _ => rfl
  | [], y :: ys, h => by simp at h
  | x :: xs, [], h => by simp at h
  | x :: xs, y :: ys, h => by
    simp only [List.map_cons, List.cons.injEq] at h
    rw [k_inj h.1, ks_inj h.2]
theorem nums8 (ks : List KV) : ∀ k ∈ ks.map KV.k, k.nums.length = 8 := by
  intro k hk
  obtain ⟨x, _, rfl⟩ := List.mem_map.1 hk
  rfl
set_option maxRecDepth 100000 in
theorem fact_base : Kd.parseL [98, 97, 115, 101, 32, 53, 48, 32, 48, 32, 48, 32, 52, 32, 48, 32, 53, 48, 32, 53, 32, 48, 32, 45, 32, 116, 10] = .inr [⟨[98, 97, 115, 101], [50, 0, 0, 4, 0, 50, 5, 0], false, true⟩] := by rfl
end Go.Proofs.YtkceccajamdbjaaDoor
