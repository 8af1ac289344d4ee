/- The walk of KindsBack. -/
import Derived.Test.YtkceccajamdbjaaDoorKdP
import Derived.Test.YtkceccajamdbjaaDoorPkC
import Derived.Test.YtkceccajamdbjaaDoorSmK
import Derived.Test.YtkceccajamdbjaaDoorKpB
import Derived.Test.YtkceccajamdbjaaDoorKdG
import Derived.ProofKit
import Derived.OpenShut
import Derived.IntWalk
namespace Go.Proofs.YtkceccajamdbjaaDoor.kindsBack
open Go.RowKit
set_option linter.unusedVariables false

set_option maxRecDepth 100000 in
set_option maxHeartbeats 8000000 in
theorem walk (v0 : Value) (ks0 : List KV) (s1 : ByteArray) (w : World) (h0 : Kl w v0 ks0 ∧ ∀ k ∈ ks0, k.b.size ≤ maxLen) (hs1 : s1.size ≤ 140737488351232) (hp : Pw w) (hy : Sy w) :
    Calls Tryd.prog 3 #[v0, .string s1] w fun e w' => e = .returned (.bool true) ∧ Below w.heap.size w w' := by
  have G0 : Hid (Pw w ∧ Sy w) := ⟨hp, hy⟩
  have K0 : Hid (Kl w v0 ks0) := h0.1
  have M0 : Hid (∀ k ∈ ks0, k.b.size ≤ 9223372036854775807) := fun k hk => by have := h0.2 k hk; unfold maxLen at this; omega
  clear hp hy h0
  go_enter Tryd.func3, Tryd.ntmps3
  go_wp2_with fail
  refine (kparse_any ⟨#[98, 97, 115, 101, 32, 53, 48, 32, 48, 32, 48, 32, 52, 32, 48, 32, 53, 48, 32, 53, 32, 48, 32, 45, 32, 116, 10]⟩ _ (by decide) G0.out.1 G0.out.2).mono ?_
  rintro e w1 ⟨v1, k1, u1, ks1, rfl, hl1, -, hr1, b1⟩
  have B1 : Hid (Below w.heap.size w w1) := b1
  have hfact : Kd.parseL (tl ⟨#[98, 97, 115, 101, 32, 53, 48, 32, 48, 32, 48, 32, 52, 32, 48, 32, 53, 48, 32, 53, 32, 48, 32, 45, 32, 116, 10]⟩) = .inr [⟨[98, 97, 115, 101], [50, 0, 0, 4, 0, 50, 5, 0], false, true⟩] := fact_base
  obtain ⟨rfl, hks⟩ : u1 = .nilIface ∧ ks1.map KV.k = [⟨[98, 97, 115, 101], [50, 0, 0, 4, 0, 50, 5, 0], false, true⟩] := by
    rcases hr1 with ⟨h1, h2⟩ | ⟨f, n, -, -, h2, -⟩
    · rw [hfact] at h2
      injection h2 with h2
      exact ⟨h1, h2.symm⟩
    · rw [hfact] at h2
      cases h2
  clear hr1 b1 hfact
  obtain ⟨kx, rfl⟩ : ∃ kx, ks1 = [kx] := List.length_eq_one_iff.1 (by have := congrArg List.length hks; simpa using this)
  obtain ⟨kb, k0, k1', k2, k3, k4, k5, k6, k7, kf, kt⟩ := kx
  simp only [List.map_cons, List.map_nil, KV.k, List.cons.injEq, and_true, Kd.K.mk.injEq] at hks
  obtain ⟨-, ⟨rfl, -⟩, -, rfl⟩ := hks
  obtain ⟨xa, xc, rfl, hx1, hx2, hx3⟩ := hl1
  obtain ⟨x, rfl, hxb, hxc⟩ := hx3 (by simp)
  have cx := hxc 0 _ rfl
  have c1 : w1.cell? ⟨x.block, x.off + 1, none⟩ = some (.int .i64 50) := by have := cx.c1; simpa [Addr.add] using this
  have c10 : w1.cell? ⟨x.block, x.off + 10, none⟩ = some (.bool true) := by have := cx.c10; simpa [Addr.add] using this
  simp only [List.length_cons, List.length_nil, Nat.zero_add] at hx1 ⊢
  clear hxc cx hx3
  go_wp2_with fail
  refine (kprint_any v0 ks0 _ (K0.out.below B1.out) M0.out (G0.out.1.below B1.out)).mono ?_
  rintro e w2 ⟨s2, u2, rfl, b2, hp2⟩
  have B2 : Hid (Below w.heap.size w w2) := B1.out.trans (b2.mono B1.out.size)
  clear b2 c1 c10
  rcases hp2 with ⟨hx, -, hu2⟩ | ⟨hz, hs2, hu2⟩
  · rcases hu2 with ⟨h, -⟩ | ⟨h, rfl⟩
    · exact absurd h hx
    · clear hx h
      go_wp2_with fail
      refine (kparse_any s1 _ (by omega) (G0.out.1.below B2.out) (G0.out.2.below B2.out)).mono ?_
      rintro e w8 ⟨v8, k8, u8, ks8, rfl, hl8, hb8, hr8, b8⟩
      have B8 : Hid (Below w.heap.size w w8) := B2.out.trans (b8.mono B2.out.size)
      clear b8
      rcases hr8 with ⟨rfl, hp8⟩ | ⟨f8, n8, hf8, he8, hp8, rfl⟩
      · obtain ⟨t1, t2, t3⟩ := Kd.prt_parseL hp8
        have L8 : Hid (Kl w8 v8 ks8) := hl8
        have HB8 : Hid (∀ k ∈ ks8, k.b.size ≤ 281474976710656) := hb8
        have T1 : Hid (Kd.prt (ks8.map KV.k) = tl s1) := t1
        have T2 : Hid (Kd.kindsFault (ks8.map KV.k) = 0) := t2
        clear hl8 hb8 hp8 t1 t2 t3
        go_wp2_with fail
        refine (kprint_any v8 ks8 _ L8.out (fun k hk => by have := HB8.out k hk; omega) (G0.out.1.below B8.out)).mono ?_
        rintro e w9 ⟨s9, u9, rfl, b9, hp9⟩
        have B9 : Hid (Below w.heap.size w w9) := B8.out.trans (b9.mono B8.out.size)
        clear b9
        rcases hp9 with ⟨hx, -, -⟩ | ⟨-, hs9, hu9⟩
        · exact absurd T2.out hx
        · obtain rfl : u9 = .nilIface := by
            rcases hu9 with ⟨-, h⟩ | ⟨h, -⟩
            · exact h
            · exact absurd rfl h
          obtain rfl : s9 = s1 := by
            rw [hs9]
            exact WideShapes.bytes_inj (by rw [bytesOf_list]; exact T1.out)
          clear hs9 hu9
          go_wp2
          go_ret
          exact ⟨by simp, B9⟩
      · rcases he8 with ⟨h, -⟩ | ⟨h, rfl⟩
        · exact absurd h hf8
        · clear hl8 hb8 hp8
          go_wp2
          go_ret
          exact ⟨rfl, B8⟩
  · obtain rfl : u2 = .nilIface := by
      rcases hu2 with ⟨-, h⟩ | ⟨h, -⟩
      · exact h
      · exact absurd rfl h
    have HZ : Hid (Kd.kindsFault (ks0.map KV.k) = 0) := hz
    have LZ : s2.size ≤ 281474976710656 := by
      have h1 := hz
      unfold Kd.kindsFault at h1
      split at h1
      · omega
      · rename_i h8
        have h2 := prt_short (Kd.kindsGo_all h1 (nums8 ks0))
        have h3 : s2.size = (Kd.prt (ks0.map KV.k)).length := by rw [hs2]; rfl
        omega
    have HS : Hid (tl s2 = Kd.prt (ks0.map KV.k)) := by unfold Hid; rw [hs2]; exact bytesOf_list _
    clear hz hs2 hu2
    go_wp2_with fail
    refine (kparse_any s2 _ LZ (G0.out.1.below B2.out) (G0.out.2.below B2.out)).mono ?_
    rintro e w3 ⟨v3, k3_, u3, ks3, rfl, hl3, -, hr3, b3⟩
    have B3 : Hid (Below w.heap.size w w3) := B2.out.trans (b3.mono B2.out.size)
    obtain ⟨rfl, rfl⟩ : u3 = .nilIface ∧ ks3 = ks0 := by
      have hpp := Kd.parseL_prt HZ.out (nums8 ks0)
      rw [← HS.out] at hpp
      rcases hr3 with ⟨h1, h2⟩ | ⟨f, n, -, -, h2, -⟩
      · rw [hpp] at h2
        injection h2 with h2
        exact ⟨h1, (ks_inj h2).symm⟩
      · rw [hpp] at h2
        cases h2
    have L3 : Hid (Kl w3 v3 ks3) := hl3
    clear hr3 b3 hl3
    go_wp2_with fail
    refine (kinds_like v3 v0 ks3 _ L3.out (K0.out.below B3.out)).mono ?_
    rintro e w4 ⟨rfl, b4⟩
    have B4 : Hid (Below w.heap.size w w4) := B3.out.trans (b4.mono B3.out.size)
    clear b4
    go_wp2_with fail
    refine (kparse_any s1 _ (by omega) (G0.out.1.below B4.out) (G0.out.2.below B4.out)).mono ?_
    rintro e w8 ⟨v8, k8, u8, ks8, rfl, hl8, hb8, hr8, b8⟩
    have B8 : Hid (Below w.heap.size w w8) := B4.out.trans (b8.mono B4.out.size)
    clear b8
    rcases hr8 with ⟨rfl, hp8⟩ | ⟨f8, n8, hf8, he8, hp8, rfl⟩
    · obtain ⟨t1, t2, t3⟩ := Kd.prt_parseL hp8
      have L8 : Hid (Kl w8 v8 ks8) := hl8
      have HB8 : Hid (∀ k ∈ ks8, k.b.size ≤ 281474976710656) := hb8
      have T1 : Hid (Kd.prt (ks8.map KV.k) = tl s1) := t1
      have T2 : Hid (Kd.kindsFault (ks8.map KV.k) = 0) := t2
      clear hl8 hb8 hp8 t1 t2 t3
      go_wp2_with fail
      refine (kprint_any v8 ks8 _ L8.out (fun k hk => by have := HB8.out k hk; omega) (G0.out.1.below B8.out)).mono ?_
      rintro e w9 ⟨s9, u9, rfl, b9, hp9⟩
      have B9 : Hid (Below w.heap.size w w9) := B8.out.trans (b9.mono B8.out.size)
      clear b9
      rcases hp9 with ⟨hx, -, -⟩ | ⟨-, hs9, hu9⟩
      · exact absurd T2.out hx
      · obtain rfl : u9 = .nilIface := by
          rcases hu9 with ⟨-, h⟩ | ⟨h, -⟩
          · exact h
          · exact absurd rfl h
        obtain rfl : s9 = s1 := by
          rw [hs9]
          exact WideShapes.bytes_inj (by rw [bytesOf_list]; exact T1.out)
        clear hs9 hu9
        go_wp2
        go_ret
        exact ⟨by simp, B9⟩
    · rcases he8 with ⟨h, -⟩ | ⟨h, rfl⟩
      · exact absurd h hf8
      · clear hl8 hb8 hp8
        go_wp2
        go_ret
        exact ⟨rfl, B8⟩
end Go.Proofs.YtkceccajamdbjaaDoor.kindsBack
