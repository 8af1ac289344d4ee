/- The program's kinds: Parse. -/
import Derived.Test.YtkceccajamdbjaaDoorLnD
import Derived.Test.YtkceccajamdbjaaDoorRdN
import Derived.Test.YtkceccajamdbjaaDoorKdO
namespace Go.Proofs.YtkceccajamdbjaaDoor
open Go.RowKit
set_option linter.unusedVariables false

attribute [local go_sem] Oper.semAt_some

/-- one more, in a round. -/
theorem app_kd_in {F : Fence} {n : Nat} {ops : Array Oper} {rest : List Oper} {o : Oper} {a : Act} {Q : Exit → Act → World → Prop} (w : World) (hgd : o.guard = none) (s x : Operand)
    (ho : o.op = Op.call { callee := Callee.builtin Builtin.append, args := #[s, x], argTypes := #[22, 22] }) (base : Nat) (v : Value) (ks : List KV) (hs : a.eval s = v) (hown : Kdo w base v ks)
    (b : Nat) (d : KV) (hx : a.eval x = .slice (some ⟨b, 0, none⟩) 1 1) (hd : Kc w ⟨b, 0, none⟩ d) (hl : ks.length ≤ 1000000) (hbase : base ≤ w.heap.size)
    (h : ∀ v' w', Kdo w' base v' (ks ++ [d]) → w.grownBy w' v.ownBlock → wpListIn F n Tryd.prog ops Q rest (a.put o.dst v') w') :
    wpListIn F n Tryd.prog ops Q (o :: rest) a w := by
  obtain ⟨i0, hi, hz0, hz1, hz2⟩ := info_parts info_kd
  refine wpListIn_append_own w hgd s x 22 ho base 28 i0 (.agg #[.string ⟨#[]⟩, .int .i64 0, .int .i64 0, .int .i64 0, .int .i64 0, .int .i64 0, .int .i64 0, .int .i64 0, .int .i64 0, .bool false, .bool false]) 11 88 Tryd.underlying22 hi hz0 hz1 hz2 rfl (by decide) v ks.length _ hs hown ⟨b, 0, none⟩ 1 1 d.cs hx rfl ?_ ?_ (by unfold maxLen; omega) (by omega) hbase ?_
  · intro j u hj
    have hjn : j < 11 := (List.getElem?_eq_some_iff.1 hj).1
    rw [Addr.add_lit, Nat.zero_add]
    match j, hjn, hj with
    | 0, _, hj => simp [KV.cs] at hj; subst hj; exact hd.c0
    | 1, _, hj => simp [KV.cs] at hj; subst hj; exact hd.c1
    | 2, _, hj => simp [KV.cs] at hj; subst hj; exact hd.c2
    | 3, _, hj => simp [KV.cs] at hj; subst hj; exact hd.c3
    | 4, _, hj => simp [KV.cs] at hj; subst hj; exact hd.c4
    | 5, _, hj => simp [KV.cs] at hj; subst hj; exact hd.c5
    | 6, _, hj => simp [KV.cs] at hj; subst hj; exact hd.c6
    | 7, _, hj => simp [KV.cs] at hj; subst hj; exact hd.c7
    | 8, _, hj => simp [KV.cs] at hj; subst hj; exact hd.c8
    | 9, _, hj => simp [KV.cs] at hj; subst hj; exact hd.c9
    | 10, _, hj => simp [KV.cs] at hj; subst hj; exact hd.c10
  · intro u hu
    simp [KV.cs] at hu
    rcases hu with rfl | rfl | rfl | rfl | rfl | rfl | rfl | rfl | rfl | rfl | rfl <;> rfl
  · intro v' w' h1 h2 _
    refine h v' w' ?_ h2
    unfold Kdo
    rw [List.length_append, List.flatMap_append]
    simpa using h1

/-- between two lines: what was read so far. -/
structure KI (w : World) (m : Nat) (xs : List ByteArray) (W : World) : Prop where
  acc : ∃ (acc : List KV) (v : Value), (∀ post, Kd.go [] (xs.map tl ++ post) = Kd.go (acc.map KV.k) post) ∧ acc.length ≤ 8 ∧ (∀ k ∈ acc, k.b.size ≤ 281474976710656) ∧ Boxed W m 22 v ∧ Kdo W (m + 2) v acc
  r0 : Boxed W w.heap.size 22 (.slice none 0 0)
  r1 : Boxed W (w.heap.size + 1) 3 (.int .i64 0)
  r2 : Boxed W (w.heap.size + 1 + 1) 24 .nilIface
  below : Below w.heap.size w W
/-- a line was wrong. -/
structure KX (w : World) (xs : List ByteArray) (W : World) : Prop where
  res : ∃ (k : Nat) (f : Int) (u : Value), f ≠ 0 ∧ (∀ post, Kd.go [] (xs.map tl ++ post) = .inl (k, f)) ∧ Boxed W w.heap.size 22 (.slice none 0 0) ∧ Boxed W (w.heap.size + 1) 3 (.int .i64 k) ∧ Boxed W (w.heap.size + 1 + 1) 24 u ∧ Er u f
  below : Below w.heap.size w W
theorem KI.aside {w : World} {m : Nat} (hb : w.heap.size + 1 + 1 < m) {xs : List ByteArray} {W W' : World} (h : KI w m xs W) (a : Aside (m + 2) (m + 1) W W') : KI w m xs W' := by
  obtain ⟨⟨acc, v, h1, h2, h2b, h3, h4⟩, h7, h8, h9, h10⟩ := h
  exact ⟨⟨acc, v, h1, h2, h2b, boxed_aside h3 a (by omega), ownsRow_aside h4 a (by omega)⟩, boxed_aside h7 a (by omega), boxed_aside h8 a (by omega), boxed_aside h9 a (by omega), below_aside h10 a (by omega) (by omega)⟩
theorem KX.aside {w : World} {m : Nat} (hb : w.heap.size + 1 + 1 < m) {xs : List ByteArray} {W W' : World} (h : KX w xs W) (a : Aside (m + 2) (m + 1) W W') : KX w xs W' := by
  obtain ⟨⟨k, f, u, h0, h1, h2, h3, h4, h5⟩, h6⟩ := h
  exact ⟨⟨k, f, u, h0, h1, boxed_aside h2 a (by omega), boxed_aside h3 a (by omega), boxed_aside h4 a (by omega), h5⟩, below_aside h6 a (by omega) (by omega)⟩
theorem kgo_bad {acc : List Kd.K} {l : List UInt8} {r : List (List UInt8)} (h : klineFault acc l ≠ 0) : Kd.go acc (l :: r) = .inl (acc.length, klineFault acc l) := by
  unfold Kd.go
  unfold klineFault at *
  cases e : Kd.ofLine l with
  | none => rfl
  | some o =>
    rw [e] at h
    simp only at h ⊢
    by_cases h6 : acc.length = 8
    · rw [if_pos h6, if_pos h6]
    · rw [if_neg h6] at h
      rw [if_neg h6, if_neg h, if_neg h6]
theorem kgo_ok {acc : List Kd.K} {l : List UInt8} {r : List (List UInt8)} {o : Kd.K} (h : klineFault acc l = 0) (ho : Kd.ofLine l = some o) : Kd.go acc (l :: r) = Kd.go (acc ++ [o]) r ∧ acc.length ≠ 8 := by
  unfold klineFault at h
  rw [ho] at h
  simp only at h
  by_cases h6 : acc.length = 8
  · rw [if_pos h6] at h; cases h
  · rw [if_neg h6] at h
    refine ⟨?_, h6⟩
    conv => lhs; unfold Kd.go
    rw [ho]
    simp only
    rw [if_neg h6, if_pos h]
def KparSays (l : List UInt8) (w : World) (e : Ending) (w' : World) : Prop := ∃ v k u ks, e = .returned (.tuple #[v, .int .i64 k, u]) ∧ Kl w' v ks ∧ (∀ k ∈ ks, k.b.size ≤ 281474976710656) ∧ ((u = .nilIface ∧ Kd.parseL l = .inr (ks.map KV.k)) ∨ (∃ f n, f ≠ 0 ∧ Er u f ∧ Kd.parseL l = .inl (n, f) ∧ ks = [])) ∧ Below w.heap.size w w'

set_option maxRecDepth 100000 in
set_option maxHeartbeats 8000000 in
theorem kparse_any (s : ByteArray) (w : World) (hsx : s.size ≤ 281474976710656) (hp : Pw w) (hy : Sy w) :
    Calls Tryd.prog 7 #[.string s] w (KparSays (tl s) w) := by
  have P0 : Hid (Pw w ∧ Sy w) := ⟨hp, hy⟩
  clear hp hy
  refine (callsIn_wide (n := 9)).1 ?_
  refine callsIn_of_wp_marks Tryd.func7 rfl trivial ?_ rfl
  simp only [Tryd.ntmps7, List.size_toArray, List.length_cons, List.length_nil, Nat.reduceAdd, Nat.reduceSub, Array.replicate_succ, Array.replicate_zero, List.push_toArray, List.append_toArray, List.nil_append, List.cons_append]
  have X0 := Boxed.new w 22 (.slice none 0 0)
  have X1 := Boxed.new (w.alloc (.cells #[.slice none 0 0] 22)) 3 (.int .i64 0)
  have X2 := Boxed.new ((w.alloc (.cells #[.slice none 0 0] 22)).alloc (.cells #[.int .i64 0] 3)) 24 .nilIface
  have X3 := Boxed.new (((w.alloc (.cells #[.slice none 0 0] 22)).alloc (.cells #[.int .i64 0] 3)).alloc (.cells #[.nilIface] 24)) 22 (.slice none 0 0)
  have X4 := Boxed.new ((((w.alloc (.cells #[.slice none 0 0] 22)).alloc (.cells #[.int .i64 0] 3)).alloc (.cells #[.nilIface] 24)).alloc (.cells #[.slice none 0 0] 22)) 9 (.string s)
  simp only [World.size_alloc] at X1 X2 X3 X4
  have b3 : Below w.heap.size w (((((w.alloc (.cells #[.slice none 0 0] 22)).alloc (.cells #[.int .i64 0] 3)).alloc (.cells #[.nilIface] 24)).alloc (.cells #[.slice none 0 0] 22)).alloc (.cells #[.string s] 9)) := (((((Below.refl _ _).alloc (Nat.le_refl _) _).alloc (by simp) _).alloc (by simp; omega) _).alloc (by simp; omega) _).alloc (by simp; omega) _
  have I0 : KI w (w.heap.size + 1 + 1 + 1) [] (((((w.alloc (.cells #[.slice none 0 0] 22)).alloc (.cells #[.int .i64 0] 3)).alloc (.cells #[.nilIface] 24)).alloc (.cells #[.slice none 0 0] 22)).alloc (.cells #[.string s] 9)) :=
    ⟨⟨[], .slice none 0 0, fun _ => rfl, by simp, by simp, X3.alloc _, Kdo.nil _ _⟩, (((X0.alloc _).alloc _).alloc _).alloc _, ((X1.alloc _).alloc _).alloc _, (X2.alloc _).alloc _, b3⟩
  have Sz : (((((w.alloc (.cells #[.slice none 0 0] 22)).alloc (.cells #[.int .i64 0] 3)).alloc (.cells #[.nilIface] 24)).alloc (.cells #[.slice none 0 0] 22)).alloc (.cells #[.string s] 9)).heap.size = w.heap.size + 1 + 1 + 1 + 2 := by simp
  have HI : Hid _ := I0
  have HX4 : Hid _ := X4
  have HSz : Hid _ := Sz
  clear X0 X1 X2 X3 b3 I0 X4 Sz
  gi_wp2
  refine ⟨trivial, (callsIn_wide.2 (lines_any s _)).mono ?_⟩
  rintro e w' ⟨rfl, hw⟩
  obtain rfl := hw.symm
  gi_wp2
  generalize (((((w.alloc (.cells #[.slice none 0 0] 22)).alloc (.cells #[.int .i64 0] 3)).alloc (.cells #[.nilIface] 24)).alloc (.cells #[.slice none 0 0] 22)).alloc (.cells #[.string s] 9)) = w3 at *
  have I0 := HI.out
  have E2 := HX4.out
  have Sz := HSz.out
  clear HI HX4 HSz
  have HG : w.heap.size + 1 + 1 < w.heap.size + 1 + 1 + 1 := by omega
  generalize hm : w.heap.size + 1 + 1 + 1 = m at *
  refine range_lines s (by omega) (m + 1) rfl E2 (KI w m) (KX w) (fun xs W W' a h => h.aside HG (by rw [Sz] at a; exact a)) (fun xs W W' a h => h.aside HG (by rw [Sz] at a; exact a)) I0
    (fun x => { tmps := #[.string s, undef, .pointer (some ⟨w.heap.size, 0, none⟩), .pointer (some ⟨w.heap.size + 1, 0, none⟩), .pointer (some ⟨w.heap.size + 1 + 1, 0, none⟩), .pointer (some ⟨m, 0, none⟩), .string x, undef, undef, .string s, .func (.func 41) #[] #[.pointer (some ⟨m + 1, 0, none⟩)], .string x, undef, undef, undef, undef, undef, undef, undef, undef, undef, undef, undef, undef, undef, undef, undef, undef], defers := [] }) ?assign ?body ?done ?stop
  case assign =>
    intro l x W K hK
    gi_wp2
    exact hK
  case body =>
    rintro l pre x post W ⟨⟨acc, v, hgo, hlen, hbs, hv, ho⟩, h0, h1, h2, hB⟩ hpx
    obtain ⟨aa, cc, rfl⟩ := ho.len
    have hxs : x.size ≤ 281474976710656 := by
      have h9 : tl x ∈ Tx.lines (tl s) := by rw [← hpx]; simp
      have h8 : (tl x).length ≤ (tl s).length := Tx.lines_len h9
      have h7 : (tl x).length = x.size := rfl
      have h6 : (tl s).length = s.size := rfl
      omega
    have c6 := hv.cell
    have f6 := hv.frozen
    have NX := knext_any (.slice aa acc.length cc) acc x W hxs ho.l (P0.out.1.below hB) (P0.out.2.below hB)
    have NX' : Hid (Calls Tryd.prog 22 #[.slice aa acc.length cc, .string x] W (KnextSays (acc.map KV.k) x.data.toList W)) := NX
    clear NX
    gi_wp2
    refine ⟨trivial, (CallsIn.inRound l (callsIn_wide.2 NX'.out)).mono ?_⟩
    clear NX'
    rintro e w2 ⟨⟨kb, k0, k1, k2, k3, k4, k5, k6, k7, kf, kt⟩, u, rfl, hu, hof, b2⟩
    have bA : Below w2.heap.size w2 (w2.alloc (Obj.cells #[.string kb, .int .i64 k0, .int .i64 k1, .int .i64 k2, .int .i64 k3, .int .i64 k4, .int .i64 k5, .int .i64 k6, .int .i64 k7, .bool kf, .bool kt] 28)) := (Below.refl _ _).alloc (Nat.le_refl _) _
    have b4 : Below W.heap.size W (w2.alloc (Obj.cells #[.string kb, .int .i64 k0, .int .i64 k1, .int .i64 k2, .int .i64 k3, .int .i64 k4, .int .i64 k5, .int .i64 k6, .int .i64 k7, .bool kf, .bool kt] 28)) := b2.trans (bA.mono b2.size)
    have S4 : Stays (m + 2) (m + 1) W (w2.alloc (Obj.cells #[.string kb, .int .i64 k0, .int .i64 k1, .int .i64 k2, .int .i64 k3, .int .i64 k4, .int .i64 k5, .int .i64 k6, .int .i64 k7, .bool kf, .bool kt] 28)) := Stays.below b4
    have g0 := boxed_below h0 b4 h0.lt
    have g1 := boxed_below h1 b4 h1.lt
    have g2 := boxed_below h2 b4 h2.lt
    have g6 := boxed_below hv b4 hv.lt
    have gO := ho.below b4
    have gB := hB.trans (b4.mono hB.size)
    have gR : Kb (w2.alloc (Obj.cells #[.string kb, .int .i64 k0, .int .i64 k1, .int .i64 k2, .int .i64 k3, .int .i64 k4, .int .i64 k5, .int .i64 k6, .int .i64 k7, .bool kf, .bool kt] 28)) w2.heap.size ⟨kb, k0, k1, k2, k3, k4, k5, k6, k7, kf, kt⟩ := Kb.mk' w2 ⟨kb, k0, k1, k2, k3, k4, k5, k6, k7, kf, kt⟩
    clear h0 h1 h2 hv ho hB b2 bA b4 c6 f6
    unfold KV.val
    simp only
    rcases hu with ⟨hf, rfl⟩ | ⟨hf, rfl⟩
    · obtain ⟨hol, hkz⟩ := hof hf
      have h8 : acc.length ≠ 8 := by
        have := (kgo_ok (r := ([] : List (List UInt8))) hf hol).2
        simpa using this
      have HGo : ∀ post, Kd.go [] ((pre ++ [x]).map tl ++ post) = Kd.go ((acc ++ [(⟨kb, k0, k1, k2, k3, k4, k5, k6, k7, kf, kt⟩ : KV)]).map KV.k) post := fun post => by
        rw [List.map_append, List.append_assoc, hgo, List.map_append]
        exact (kgo_ok hf hol).1
      have HBs : ∀ k ∈ acc ++ [(⟨kb, k0, k1, k2, k3, k4, k5, k6, k7, kf, kt⟩ : KV)], k.b.size ≤ 281474976710656 := fun k hk => by
        rcases List.mem_append.1 hk with hk | hk
        · exact hbs k hk
        · simp at hk
          subst hk
          simp only at hkz ⊢
          have h7 : (tl x).length = x.size := rfl
          have h6 : x.data.toList.length = x.size := rfl
          omega
      have cg6 := g6.cell
      have kf6 := g6.frozen
      obtain ⟨kk0, kk1, kk2, kk3, kk4, kk5, kk6, kk7, kk8, kk9, kk10⟩ := gR.cells
      simp only at kk0 kk1 kk2 kk3 kk4 kk5 kk6 kk7 kk8 kk9 kk10
      have bA2 : Below (w2.alloc (Obj.cells #[.string kb, .int .i64 k0, .int .i64 k1, .int .i64 k2, .int .i64 k3, .int .i64 k4, .int .i64 k5, .int .i64 k6, .int .i64 k7, .bool kf, .bool kt] 28)).heap.size (w2.alloc (Obj.cells #[.string kb, .int .i64 k0, .int .i64 k1, .int .i64 k2, .int .i64 k3, .int .i64 k4, .int .i64 k5, .int .i64 k6, .int .i64 k7, .bool kf, .bool kt] 28)) ((w2.alloc (Obj.cells #[.string kb, .int .i64 k0, .int .i64 k1, .int .i64 k2, .int .i64 k3, .int .i64 k4, .int .i64 k5, .int .i64 k6, .int .i64 k7, .bool kf, .bool kt] 28)).alloc (Obj.cells #[.string kb, .int .i64 k0, .int .i64 k1, .int .i64 k2, .int .i64 k3, .int .i64 k4, .int .i64 k5, .int .i64 k6, .int .i64 k7, .bool kf, .bool kt] 28)) := (Below.refl _ _).alloc (Nat.le_refl _) _
      have Rc : Kc ((w2.alloc (Obj.cells #[.string kb, .int .i64 k0, .int .i64 k1, .int .i64 k2, .int .i64 k3, .int .i64 k4, .int .i64 k5, .int .i64 k6, .int .i64 k7, .bool kf, .bool kt] 28)).alloc (Obj.cells #[.string kb, .int .i64 k0, .int .i64 k1, .int .i64 k2, .int .i64 k3, .int .i64 k4, .int .i64 k5, .int .i64 k6, .int .i64 k7, .bool kf, .bool kt] 28)) ⟨w2.heap.size + 1, 0, none⟩ ⟨kb, k0, k1, k2, k3, k4, k5, k6, k7, kf, kt⟩ := Kc.mk' ⟨kb, k0, k1, k2, k3, k4, k5, k6, k7, kf, kt⟩ (by simp)
      have O5 := gO.alloc (Obj.cells #[.string kb, .int .i64 k0, .int .i64 k1, .int .i64 k2, .int .i64 k3, .int .i64 k4, .int .i64 k5, .int .i64 k6, .int .i64 k7, .bool kf, .bool kt] 28)
      have L5 : m + 2 ≤ ((w2.alloc (Obj.cells #[.string kb, .int .i64 k0, .int .i64 k1, .int .i64 k2, .int .i64 k3, .int .i64 k4, .int .i64 k5, .int .i64 k6, .int .i64 k7, .bool kf, .bool kt] 28)).alloc (Obj.cells #[.string kb, .int .i64 k0, .int .i64 k1, .int .i64 k2, .int .i64 k3, .int .i64 k4, .int .i64 k5, .int .i64 k6, .int .i64 k7, .bool kf, .bool kt] 28)).heap.size := by have := g6.lt; simp at this ⊢; omega
      gi_wp2_with (gi_at_builtin; refine app_kd_in _ rfl _ _ rfl (m + 2) _ acc rfl O5 _ ⟨kb, k0, k1, k2, k3, k4, k5, k6, k7, kf, kt⟩ rfl Rc (by omega) L5 ?_; intro v' w6 o6 q6; have g6b := boxed_grown (g6.alloc _) q6 (by intro e; have := (O5.block _ e).1; omega); obtain ⟨a9, c9, rfl⟩ := o6.len; have k6b := g6b.cell; have f6b := g6b.frozen)
      have nb : ∀ k, k < m + 2 → (Value.slice aa acc.length cc).ownBlock ≠ some k := fun k hk e => by have := (O5.block _ e).1; omega
      have nb' : ∀ k, k < m + 2 → (Value.slice a9 (acc ++ [(⟨kb, k0, k1, k2, k3, k4, k5, k6, k7, kf, kt⟩ : KV)]).length c9).ownBlock ≠ some k := fun k hk e => by have := (o6.block _ e).1; omega
      have O7 := o6.kept (grownBy_setCell' w6 m (.slice a9 (acc ++ [(⟨kb, k0, k1, k2, k3, k4, k5, k6, k7, kf, kt⟩ : KV)]).length c9)) (.inr (nb' _ (by omega)))
      have v7 := boxed_put g6b (.slice a9 (acc ++ [(⟨kb, k0, k1, k2, k3, k4, k5, k6, k7, kf, kt⟩ : KV)]).length c9)
      have d0 := boxed_other (u := (.slice a9 (acc ++ [(⟨kb, k0, k1, k2, k3, k4, k5, k6, k7, kf, kt⟩ : KV)]).length c9)) (boxed_grown (g0.alloc _) q6 (nb _ (by omega))) (show w.heap.size ≠ m by omega)
      have d1 := boxed_other (u := (.slice a9 (acc ++ [(⟨kb, k0, k1, k2, k3, k4, k5, k6, k7, kf, kt⟩ : KV)]).length c9)) (boxed_grown (g1.alloc _) q6 (nb _ (by omega))) (show w.heap.size + 1 ≠ m by omega)
      have d2 := boxed_other (u := (.slice a9 (acc ++ [(⟨kb, k0, k1, k2, k3, k4, k5, k6, k7, kf, kt⟩ : KV)]).length c9)) (boxed_grown (g2.alloc _) q6 (nb _ (by omega))) (show w.heap.size + 1 + 1 ≠ m by omega)
      have dB := ((gB.trans (bA2.mono gB.size)).grown q6 (Nat.le_trans (by omega) L5) (fun k hk => by have := (O5.block _ hk).1; omega)).setCell (p := ⟨m, 0, none⟩) (show w.heap.size ≤ m by omega) (.slice a9 (acc ++ [(⟨kb, k0, k1, k2, k3, k4, k5, k6, k7, kf, kt⟩ : KV)]).length c9)
      have St := ((S4.trans (Stays.below bA2)).trans (Stays.grownRow O5 q6 (by omega))).trans (Stays.setBoxed (B := m + 2) (cb := m + 1) g6b (by omega) (.slice a9 (acc ++ [(⟨kb, k0, k1, k2, k3, k4, k5, k6, k7, kf, kt⟩ : KV)]).length c9))
      have XX : KI w m (pre ++ [x]) _ := ⟨⟨acc ++ [(⟨kb, k0, k1, k2, k3, k4, k5, k6, k7, kf, kt⟩ : KV)], _, HGo, by simp; omega, HBs, v7, O7⟩, d0, d1, d2, dB⟩
      simp only [List.length_append, List.length_cons, List.length_nil, Nat.zero_add] at St XX
      try rw [Sz]
      exact ⟨St, XX⟩
    · have HGo : ∀ post, Kd.go [] ((pre ++ [x]).map tl ++ post) = .inl (acc.length, klineFault (acc.map KV.k) (tl x)) := fun post => by
        rw [List.map_append, List.append_assoc, hgo]
        have := kgo_bad (r := post) hf
        rw [List.length_map] at this
        exact this
      have e0 := boxed_put g0 (.slice none 0 0)
      have e1 := boxed_put (boxed_other (u := .slice none 0 0) g1 (show w.heap.size + 1 ≠ w.heap.size by omega)) (.int .i64 (acc.length : Nat))
      have e2 := boxed_put (boxed_other (u := .int .i64 (acc.length : Nat)) (boxed_other (u := .slice none 0 0) g2 (show w.heap.size + 1 + 1 ≠ w.heap.size by omega)) (show w.heap.size + 1 + 1 ≠ w.heap.size + 1 by omega)) (.iface 68 (.int .i64 (klineFault (acc.map KV.k) x.data.toList)))
      have t0 := Stays.setBoxed (B := m + 2) (cb := m + 1) g0 (by omega) (.slice none 0 0)
      have t1 := Stays.setBoxed (B := m + 2) (cb := m + 1) (boxed_other (u := .slice none 0 0) g1 (show w.heap.size + 1 ≠ w.heap.size by omega)) (by omega) (.int .i64 (acc.length : Nat))
      have t2 := Stays.setBoxed (B := m + 2) (cb := m + 1) (boxed_other (u := .int .i64 (acc.length : Nat)) (boxed_other (u := .slice none 0 0) g2 (show w.heap.size + 1 + 1 ≠ w.heap.size by omega)) (show w.heap.size + 1 + 1 ≠ w.heap.size + 1 by omega)) (by omega) (.iface 68 (.int .i64 (klineFault (acc.map KV.k) x.data.toList)))
      have St := ((S4.trans t0).trans t1).trans t2
      have Bt := ((gB.setCell (p := ⟨w.heap.size, 0, none⟩) (Nat.le_refl _) (.slice none 0 0)).setCell (p := ⟨w.heap.size + 1, 0, none⟩) (by simp) (.int .i64 (acc.length : Nat))).setCell (p := ⟨w.heap.size + 1 + 1, 0, none⟩) (by simp; omega) (.iface 68 (.int .i64 (klineFault (acc.map KV.k) x.data.toList)))
      have q0 := boxed_other (u := .iface 68 (.int .i64 (klineFault (acc.map KV.k) x.data.toList))) (boxed_other (u := .int .i64 (acc.length : Nat)) e0 (show w.heap.size ≠ w.heap.size + 1 by omega)) (show w.heap.size ≠ w.heap.size + 1 + 1 by omega)
      have q1 := boxed_other (u := .iface 68 (.int .i64 (klineFault (acc.map KV.k) x.data.toList))) e1 (show w.heap.size + 1 ≠ w.heap.size + 1 + 1 by omega)
      have XX : KX w (pre ++ [x]) _ := ⟨⟨acc.length, klineFault (acc.map KV.k) (tl x), _, hf, HGo, q0, q1, e2, Er.no hf⟩, Bt⟩
      have SX : Hid (Stays w3.heap.size (m + 1) W ((((w2.alloc (Obj.cells #[.string kb, .int .i64 k0, .int .i64 k1, .int .i64 k2, .int .i64 k3, .int .i64 k4, .int .i64 k5, .int .i64 k6, .int .i64 k7, .bool kf, .bool kt] 28)).setCell ⟨w.heap.size, 0, none⟩ (.slice none 0 0)).setCell ⟨w.heap.size + 1, 0, none⟩ (.int .i64 (acc.length : Nat))).setCell ⟨w.heap.size + 1 + 1, 0, none⟩ (.iface 68 (.int .i64 (klineFault (acc.map KV.k) x.data.toList)))).drew ∧ KX w (pre ++ [x]) ((((w2.alloc (Obj.cells #[.string kb, .int .i64 k0, .int .i64 k1, .int .i64 k2, .int .i64 k3, .int .i64 k4, .int .i64 k5, .int .i64 k6, .int .i64 k7, .bool kf, .bool kt] 28)).setCell ⟨w.heap.size, 0, none⟩ (.slice none 0 0)).setCell ⟨w.heap.size + 1, 0, none⟩ (.int .i64 (acc.length : Nat))).setCell ⟨w.heap.size + 1 + 1, 0, none⟩ (.iface 68 (.int .i64 (klineFault (acc.map KV.k) x.data.toList)))).drew) := by
        unfold Hid
        rw [Sz]
        exact ⟨St.drew, XX.res, XX.below.drew⟩
      clear e0 e1 e2 t0 t1 t2 St Bt q0 q1 XX
      have k0_ := g0.cell
      have k1_ := g1.cell
      have k2_ := g2.cell
      have k6_ := g6.cell
      have kf0 := g0.frozen
      have kf1 := g1.frozen
      have kf2 := g2.frozen
      gi_wp2
      all_goals gi_region
      all_goals gi_wp2
      all_goals exact SX
  case done =>
    rintro D xs W hD hxs ⟨⟨acc, v, hgo, hlen, hbs, hv, ho⟩, h0, h1, h2, hB⟩ hK
    obtain ⟨aa, cc, rfl⟩ := ho.len
    rw [Sz] at hD
    have c6 := hv.cell
    have c0 := h0.cell
    have c1 := h1.cell
    have c2 := h2.cell
    have f0 := h0.frozen
    have f1 := h1.frozen
    have f2 := h2.frozen
    have PS : Kd.parseL (tl s) = .inr (acc.map KV.k) := by
      unfold Kd.parseL
      rw [← hxs]
      have := hgo []
      rw [List.append_nil] at this
      rw [this]
      rfl
    have e0 := boxed_put h0 (.slice aa acc.length cc)
    have e1 := boxed_put (boxed_other (u := .slice aa acc.length cc) h1 (show w.heap.size + 1 ≠ w.heap.size by omega)) (.int .i64 0)
    have e2 := boxed_put (boxed_other (u := .int .i64 0) (boxed_other (u := .slice aa acc.length cc) h2 (show w.heap.size + 1 + 1 ≠ w.heap.size by omega)) (show w.heap.size + 1 + 1 ≠ w.heap.size + 1 by omega)) .nilIface
    have q0 := boxed_other (u := .nilIface) (boxed_other (u := .int .i64 0) e0 (show w.heap.size ≠ w.heap.size + 1 by omega)) (show w.heap.size ≠ w.heap.size + 1 + 1 by omega)
    have q1 := boxed_other (u := .nilIface) e1 (show w.heap.size + 1 ≠ w.heap.size + 1 + 1 by omega)
    have Bt := ((hB.setCell (p := ⟨w.heap.size, 0, none⟩) (Nat.le_refl _) (.slice aa acc.length cc)).setCell (p := ⟨w.heap.size + 1, 0, none⟩) (by simp) (.int .i64 0)).setCell (p := ⟨w.heap.size + 1 + 1, 0, none⟩) (by simp; omega) .nilIface
    have K9 : ((((W.setCell ⟨w.heap.size, 0, none⟩ (.slice aa acc.length cc)).setCell ⟨w.heap.size + 1, 0, none⟩ (.int .i64 0)).setCell ⟨w.heap.size + 1 + 1, 0, none⟩ .nilIface)).heap[D]? = some (.deferred (some [])) := by
      rw [Below.heap_setCell _ _ _ _ (by show D ≠ _; simp; omega), Below.heap_setCell _ _ _ _ (by show D ≠ _; simp; omega), Below.heap_setCell _ _ _ _ (by show D ≠ _; simp; omega)]
      exact hK
    have nb' : ∀ k, k < m + 2 → (Value.slice aa acc.length cc).ownBlock ≠ some k := fun k hk e => by have := (ho.block _ e).1; omega
    have O9 := ((ho.kept (grownBy_setCell' W w.heap.size (.slice aa acc.length cc)) (.inr (nb' _ (by omega)))).kept (grownBy_setCell' _ (w.heap.size + 1) (.int .i64 0)) (.inr (nb' _ (by omega)))).kept (grownBy_setCell' _ (w.heap.size + 1 + 1) .nilIface) (.inr (nb' _ (by omega)))
    gi_wp2
    generalize ((((W.setCell ⟨w.heap.size, 0, none⟩ (.slice aa acc.length cc)).setCell ⟨w.heap.size + 1, 0, none⟩ (.int .i64 0)).setCell ⟨w.heap.size + 1 + 1, 0, none⟩ .nilIface)) = w9 at *
    refine ⟨by simp, .inl ⟨_, _, rfl, run_takeDeferred K9, ?_⟩⟩
    have z0 : Boxed (w9.putObj D (.deferred none)) w.heap.size 22 (.slice aa acc.length cc) := (World.putObj_heap_other (by omega)).trans q0
    have z1 : Boxed (w9.putObj D (.deferred none)) (w.heap.size + 1) 3 (.int .i64 0) := (World.putObj_heap_other (by omega)).trans q1
    have z2 : Boxed (w9.putObj D (.deferred none)) (w.heap.size + 1 + 1) 24 .nilIface := (World.putObj_heap_other (by omega)).trans e2
    have y0 := z0.cell
    have y1 := z1.cell
    have y2 := z2.cell
    have O10 : Kdo (w9.putObj D (.deferred none)) (m + 2) (.slice aa acc.length cc) acc := ownsRow_putObj O9 _ K9 rfl
    have B10 : Below w.heap.size w (w9.putObj D (.deferred none)) := Bt.trans (belowK_b (w := w) (Nat.le_refl _) w9 D _ _ (by omega) K9 rfl rfl)
    refine ⟨.tuple #[.slice aa acc.length cc, .int .i64 0, .nilIface], by simp [results, Tryd.results7, go_sem, y0, y1, y2], ?_⟩
    exact ⟨_, _, _, acc, rfl, O10.l, hbs, .inl ⟨rfl, PS⟩, B10⟩
  case stop =>
    rintro D pre post W hD hpre ⟨⟨k, f, u, hf, hgo, h0, h1, h2, he⟩, hB⟩ hK
    rw [Sz] at hD
    have PS : Kd.parseL (tl s) = .inl (k, f) := by
      unfold Kd.parseL
      rw [← hpre]
      exact hgo post
    gi_wp2
    refine ⟨by simp, .inl ⟨_, _, rfl, run_takeDeferred hK, ?_⟩⟩
    have z0 : Boxed (W.putObj D (.deferred none)) w.heap.size 22 (.slice none 0 0) := (World.putObj_heap_other (by omega)).trans h0
    have z1 : Boxed (W.putObj D (.deferred none)) (w.heap.size + 1) 3 (.int .i64 k) := (World.putObj_heap_other (by omega)).trans h1
    have z2 : Boxed (W.putObj D (.deferred none)) (w.heap.size + 1 + 1) 24 u := (World.putObj_heap_other (by omega)).trans h2
    have y0 := z0.cell
    have y1 := z1.cell
    have y2 := z2.cell
    have B10 : Below w.heap.size w (W.putObj D (.deferred none)) := hB.trans (belowK_b (w := w) (Nat.le_refl _) W D _ _ (by omega) hK rfl rfl)
    refine ⟨.tuple #[.slice none 0 0, .int .i64 k, u], by simp [results, Tryd.results7, go_sem, y0, y1, y2], ?_⟩
    exact ⟨_, _, _, [], rfl, (Kdo.nil _ 0).l, by simp, .inr ⟨f, k, hf, he, PS, rfl⟩, B10⟩
end Go.Proofs.YtkceccajamdbjaaDoor
