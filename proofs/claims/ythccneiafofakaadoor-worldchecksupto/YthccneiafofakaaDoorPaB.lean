/- Numbers in bytes: Write. -/
import Derived.Test.YthccneiafofakaaDoorPaF
import Derived.Test.YthccneiafofakaaDoorObt
import Derived.Test.YthccneiafofakaaDoorWdR
namespace Go.Proofs.YthccneiafofakaaDoor
open Go.RowKit
set_option linter.unusedVariables false

theorem vl_len {x : Nat} (h : x < 18446744073709551616) : (Wd.vl x).length ≤ 10 := by
  have h1 := Wd.rd_vl x x 0 0 [] (Nat.le_refl _) (by omega) (by simpa using h) (.inl rfl)
  have h2 := (Wd.rd_le _ 0 0 _ _ (by omega) (by decide) h1).2.2.1
  omega
theorem num_len {n : Int} (h : Wd.In64 n) : (Wd.num n).length ≤ 10 := vl_len (Wd.zz_lt h)
theorem wr_len : ∀ {xs : List Int}, (∀ n ∈ xs, Wd.In64 n) → (Wd.wr xs).length ≤ 10 * xs.length
  | [], _ => by simp [Wd.wr]
  | x :: xs, h => by
    have h1 := num_len (h x (by simp))
    have h2 := wr_len (xs := xs) (fun n hn => h n (by simp [hn]))
    have : Wd.wr (x :: xs) = Wd.num x ++ Wd.wr xs := by simp [Wd.wr]
    rw [this, List.length_append, List.length_cons]
    omega
theorem wr_next {xs : List Int} {k : Nat} {n : Int} (h : xs[k]? = some n) : Wd.wr (xs.take (k + 1)) = Wd.wr (xs.take k) ++ Wd.num n := by
  obtain ⟨hi, e⟩ := List.getElem?_eq_some_iff.1 h
  rw [List.take_succ_eq_append_getElem hi, Wd.wr_append, e, Wd.wr_one]
set_option maxRecDepth 100000 in
set_option maxHeartbeats 4000000 in
theorem write_any (v : Value) (xs : List Int) (w : World) (h : Ro w v xs) (hi : ∀ n ∈ xs, Wd.In64 n) (hl : xs.length ≤ 100000000) :
    Calls Tryd.prog 60 #[v] w fun e w' => ∃ u, e = .returned u ∧ Ob w' w.heap.size u (Wd.wr xs) ∧ Below w.heap.size w w' := by
  have R : Hid (Ro w v xs) := h
  have HI : Hid (∀ n ∈ xs, Wd.In64 n) := hi
  obtain ⟨ad, cap, rfl, h1, h2, h3⟩ := h
  clear h3 hi
  go_enter Tryd.func60, Tryd.ntmps60
  go_wp2
  go_loopw [3, 9] (fun bv iv W => ∃ (k : Nat), iv = .int .i64 (k : Nat) ∧ k ≤ xs.length ∧ Ob W w.heap.size bv (Wd.wr (xs.take k)) ∧ Below w.heap.size w W) (fun _ iv _ => xs.length - (intOf iv).toNat)
  case atStart => exact ⟨0, rfl, Nat.zero_le _, Ob.nil _ _, Below.refl _ _⟩
  case round =>
    obtain ⟨k, rfl, hk, ho, hb⟩ := hrel
    have O : Hid (Ob wr w.heap.size u3 (Wd.wr (xs.take k))) := ho
    have B : Hid (Below w.heap.size w wr) := hb
    clear ho hb
    by_cases he : k = xs.length
    · subst he
      go_wp2
      go_ret
      exact ⟨_, rfl, by have := O.out; rwa [List.take_length] at this, B.out⟩
    · have hlt : k < xs.length := by omega
      have hli : (k : Int) < (xs.length : Int) := by omega
      obtain ⟨n, hn⟩ : ∃ n, xs[k]? = some n := ⟨_, List.getElem?_eq_getElem hlt⟩
      have HN : Hid (xs[k]? = some n) := hn
      have IN : Hid (Wd.In64 n) := HI.out n (List.mem_of_getElem? hn)
      obtain ⟨ad', cap', e, -, -, hc⟩ := R.out.below B.out
      injection e with e1 e2 e3
      subst e1 e3
      obtain ⟨y, rfl, hy, hcell⟩ := hc (by intro e; subst e; simp at hlt)
      have c1 : wr.cell? (y.add k) = some (.int .i64 n) := hcell k n hn
      clear hc hcell hy hn
      go_wp2_with fail
      refine (fold_any n _ IN.out).mono ?_
      rintro e w1 ⟨rfl, rfl⟩
      have PL : Hid ((Wd.wr (xs.take k)).length ≤ 1000000000) := by
        unfold Hid
        have := wr_len (xs := xs.take k) (fun n hn => HI.out n (List.mem_of_mem_take hn))
        rw [List.length_take] at this
        omega
      obtain ⟨P, hP⟩ : ∃ P, Wd.wr (xs.take k) = P := ⟨_, rfl⟩
      have HP : Hid (Wd.wr (xs.take (k + 1)) = P ++ Wd.num n) := by unfold Hid; rw [wr_next HN.out, hP]
      rw [hP] at O PL
      obtain ⟨x, hx⟩ : ∃ x, Wd.zz n = x := ⟨_, rfl⟩
      have HX : Hid (Wd.num n = Wd.vl x ∧ x < 18446744073709551616) := ⟨by unfold Wd.num; rw [hx], by rw [← hx]; exact Wd.zz_lt IN.out⟩
      rw [hx]
      clear hx hP c1
      go_wp2
      go_loopw [3, 6] (fun bv xv W => ∃ (y : Nat) (D : List UInt8), xv = .int .u64 (y : Nat) ∧ y < 18446744073709551616 ∧ D ++ Wd.vl y = Wd.vl x ∧ Ob W w.heap.size bv (P ++ D) ∧ Below w.heap.size w W) (fun _ xv _ => (intOf xv).toNat)
      case atStart => exact ⟨x, [], rfl, HX.out.2, rfl, by rw [List.append_nil]; exact O.out, B.out⟩
      case round =>
        obtain ⟨y, D, rfl, hy, hv, ho, hb⟩ := hrel
        have O2 : Hid (Ob wr w.heap.size u3 (P ++ D)) := ho
        have B2 : Hid (Below w.heap.size w wr) := hb
        have HV : Hid (D ++ Wd.vl y = Wd.vl x) := hv
        have DL : Hid ((P ++ D).length ≤ 1000000010) := by
          unfold Hid
          have h1 := vl_len HX.out.2
          have h2 := congrArg List.length hv
          have h3 := PL.out
          rw [List.length_append] at h2 ⊢
          omega
        clear ho hb hv
        obtain ⟨L, hL⟩ : ∃ L, P ++ D = L := ⟨_, rfl⟩
        have HL : Hid (P ++ D = L) := hL
        rw [hL] at O2 DL
        clear hL
        by_cases h128 : 128 ≤ y
        · obtain ⟨m, hm⟩ : ∃ m, y % 128 = m := ⟨_, rfl⟩
          obtain ⟨d, hd⟩ : ∃ d, y / 128 = d := ⟨_, rfl⟩
          have hmi : (y : Int) % 128 = m := by omega
          have hdi : (y : Int) / 128 = d := by omega
          have m1 : m < 128 := by omega
          have hgi : (128 : Int) ≤ (y : Int) := by omega
          obtain ⟨c, hc⟩ : ∃ c, UInt8.ofNat (m + 128) = c := ⟨_, rfl⟩
          have em : c.toNat = m + 128 := by rw [← hc, UInt8.toNat_ofNat']; omega
          have HE : Hid (Wd.vl y = c :: Wd.vl d) := by unfold Hid; rw [Wd.vl_great h128, hm, hd, hc]
          have hdl : Hid (d < y) := by unfold Hid; omega
          clear hm hd h128 hc
          go_wp2_with (at_builtin; refine app_byte _ rfl _ _ rfl w.heap.size _ L rfl (O2.out.alloc _) ⟨wr.heap.size, 0, none⟩ c rfl (by rw [em]; simp) (by have := DL.out; omega) (by have := B2.out.size; simp; omega) ?_)
          intro g cap2 w5 o5 g5 l5
          have O5 : Hid (Ob w5 w.heap.size (.slice (some ⟨g, 0, none⟩) (L.length + 1) cap2) (P ++ (D ++ [c]))) := by unfold Hid; rw [← List.append_assoc, HL.out]; exact o5
          have B5 : Hid (Below w.heap.size w w5) := (B2.out.alloc B2.out.size _).grown g5 (by have := B2.out.size; simp; omega) (fun b hb => (O2.out.block b hb).1)
          clear o5 g5 l5
          go_wp2
          go_roundw
          case rel =>
            refine ⟨d, D ++ [c], rfl, by have := hdl.out; omega, ?_, O5.out, B5.out⟩
            rw [List.append_assoc, ← HV.out, HE.out]
            rfl
          case measure => have := hdl.out; simp [intOf]; omega
        · have hgi : ¬ (128 : Int) ≤ (y : Int) := by omega
          obtain ⟨c, hc⟩ : ∃ c, UInt8.ofNat y = c := ⟨_, rfl⟩
          have em : c.toNat = y := by rw [← hc, UInt8.toNat_ofNat']; omega
          have wy : IntKind.u8.wrap (y : Int) = (y : Int) := by rw [IntKind.wrap_u8]; omega
          have HE : Hid (D ++ [c] = Wd.num n) := by unfold Hid; rw [HX.out.1, ← HV.out, Wd.vl_small (by omega), hc]
          clear h128 hc
          go_wp2_with (at_builtin; refine app_byte _ rfl _ _ rfl w.heap.size _ L rfl (O2.out.alloc _) ⟨wr.heap.size, 0, none⟩ c rfl (by rw [em]; simp) (by have := DL.out; omega) (by have := B2.out.size; simp; omega) ?_)
          intro g cap2 w5 o5 g5 l5
          have O5 : Hid (Ob w5 w.heap.size (.slice (some ⟨g, 0, none⟩) (L.length + 1) cap2) (Wd.wr (xs.take (k + 1)))) := by unfold Hid; rw [HP.out, ← HE.out, ← List.append_assoc, HL.out]; exact o5
          have B5 : Hid (Below w.heap.size w w5) := (B2.out.alloc B2.out.size _).grown g5 (by have := B2.out.size; simp; omega) (fun b hb => (O2.out.block b hb).1)
          clear o5 g5 l5
          go_wp2
          go_roundw
          case rel => exact ⟨k + 1, rfl, by omega, O5.out, B5.out⟩
          case measure => simp [intOf]; omega
end Go.Proofs.YthccneiafofakaaDoor
