import Derived.Test.YtnkjadpmigpneaaGreatDoorBrG
import Derived.Test.YtnkjadpmigpneaaGreatDoorLgD
set_option linter.unusedSimpArgs false
set_option linter.unusedVariables false
set_option maxRecDepth 100000
namespace Go.Proofs.YtnkjadpmigpneaaGreatDoor
open Go.RowKit LgM
def Vx (b : Nat) (x : Int) (w : World) : Prop := ∃ a k c, Cl b [.slice a k c, .bool (decide (x < 0))] 66 w ∧ LN w (.slice a k c) x.natAbs
set_option maxHeartbeats 8000000 in
theorem bsum_any (k n : Nat) (w : World) (hk : k ≤ 60) (hn : n ≤ 1000000000000000000) (hT : Tb w) :
    Calls Tryz.prog 51 #[.int .i64 (k : Int), .int .i64 (n : Int)] w fun e w' => ∃ u, e = .returned (.agg #[u, .bool false]) ∧ LN w' u (BN.pk k n) ∧ Below w.heap.size w w' := by
  obtain ⟨K2, hK2⟩ : ∃ K2, K2 = k + 2 := ⟨_, rfl⟩
  have HK2 : Hid (K2 = k + 2) := hK2
  have hK2l : K2 ≤ 62 := by omega
  obtain ⟨W0, hW0⟩ : ∃ W0, W0 = w.alloc (.cells #[.slice none 0 0, .bool false] 66) := ⟨_, rfl⟩
  have H0 : Hid (Cl w.heap.size [.slice none 0 0, .bool false] 66 W0 ∧ Below w.heap.size w W0 ∧ Tb W0 ∧ W0.heap.size = w.heap.size + 1) := by
    show _ ∧ _
    rw [hW0]
    exact ⟨Cl.new _ _ _, (Below.refl _ _).alloc (Nat.le_refl _) _, hT.below ((Below.refl _ _).alloc (Nat.le_refl _) _), by simp⟩
  have HFm : Hid (Calls Tryz.prog 50 #[.int .i64 (k : Int)] W0 fun e w' => ∃ v u, e = .returned (.tuple #[v, .agg #[u, .bool false]]) ∧ VA w' v K2 (BN.cf k) ∧ LN w' u (BN.prm (k + 1) * (k + 1)) ∧ Below W0.heap.size W0 w') := by
    show Calls _ _ _ _ _
    rw [hK2]
    exact formula_any k W0 hk H0.out.2.2.1
  clear hT hK2
  go_enter Tryz.func51, Tryz.ntmps51
  go_wp2_with fail
  rw [← hW0]
  clear hW0
  refine HFm.out.mono ?_
  rintro e w1 ⟨v1, u1, rfl, va1, l1, k1⟩
  obtain ⟨a1, m1, c1, rfl⟩ := l1.shape
  obtain ⟨ga, oa, ca, rfl, hga, hal⟩ := va1.look (by have := HK2.out; omega)
  have HSg : Hid (∀ W, Calls Tryz.prog 86 #[.int .i64 (n : Int)] W fun e w' => ∃ v, e = .returned (.agg #[v, .bool false]) ∧ LN w' v n ∧ Below W.heap.size W w') := fun W => by
    have h := SignedOf_any (n : Int) W (by omega) (by omega)
    rw [decide_eq_false (by omega), Int.natAbs_natCast] at h
    exact h
  obtain ⟨W2, hW2⟩ : ∃ W2, W2 = w1.alloc (.cells #[.slice a1 m1 c1, .bool false] 66) := ⟨_, rfl⟩
  obtain ⟨b6, hb6⟩ : ∃ b6, b6 = w1.heap.size := ⟨_, rfl⟩
  have k2 : Below w1.heap.size w1 W2 := by rw [hW2]; exact (Below.refl _ _).alloc (Nat.le_refl _) _
  have H2 : Hid (Cl w.heap.size [.slice none 0 0, .bool false] 66 W2 ∧ Cl b6 [.slice a1 m1 c1, .bool false] 66 W2 ∧ LN W2 (.slice a1 m1 c1) (BN.prm (k + 1) * (k + 1)) ∧ Below w.heap.size w W2 ∧ ga < W2.heap.size ∧ w.heap.size < b6 ∧ W2.heap.size = b6 + 1 ∧ (∀ W, Below W2.heap.size W2 W → ∀ j, j < K2 → ∃ sa sk sc, W.cell? ⟨ga, oa + j * 2, none⟩ = some (.slice sa sk sc) ∧ W.cell? ⟨ga, oa + j * 2 + 1, none⟩ = some (.bool (decide (BN.cf k j < 0))) ∧ LN W (.slice sa sk sc) (BN.cf k j).natAbs)) := by
    have hz := k1.size
    rw [H0.out.2.2.2] at hz
    refine ⟨(H0.out.1.below k1).below k2, by rw [hW2, hb6]; exact Cl.new _ _ _, l1.below k2, (H0.out.2.1.trans (k1.mono (by rw [H0.out.2.2.2]; omega))).trans (k2.mono (by omega)), Nat.lt_of_lt_of_le hga k2.size, by omega, by rw [hW2, hb6]; simp, fun W kk => hal W (k2.trans (kk.mono k2.size))⟩
  clear va1 l1 k1 hga hal HFm H0 k2
  go_wp2_with fail
  rw [← hW2]
  rw [← hb6]
  clear hW2 hb6
  refine (HSg.out W2).mono ?_
  rintro e w3 ⟨v3, rfl, l3, k3⟩
  obtain ⟨a3, m3, c3, rfl⟩ := l3.shape
  obtain ⟨W4, hW4⟩ : ∃ W4, W4 = (w3.alloc (.cells #[.slice a3 m3 c3, .bool false] 66)).alloc (.cells #[.slice none 0 0, .bool false] 66) := ⟨_, rfl⟩
  obtain ⟨b7, hb7⟩ : ∃ b7, b7 = w3.heap.size := ⟨_, rfl⟩
  have k4 : Below w3.heap.size w3 W4 := by rw [hW4]; exact ((Below.refl _ _).alloc (Nat.le_refl _) _).alloc (by simp) _
  have H4 : Hid (Cl b7 [.slice a3 m3 c3, .bool false] 66 W4 ∧ LN W4 (.slice a3 m3 c3) n ∧ Vx (b7 + 1) (BN.hz (BN.cf k) (n : Int) K2 0) W4 ∧ Below W2.heap.size W2 W4 ∧ W2.heap.size ≤ b7 ∧ W4.heap.size = b7 + 2) := by
    have hz := k3.size
    refine ⟨by rw [hW4, hb7]; exact (Cl.new _ _ _).alloc _, l3.below k4, ⟨none, 0, 0, ?_, LN.zero _⟩, k3.trans (k4.mono hz), by omega, by rw [hW4, hb7]; simp⟩
    rw [hW4, hb7]
    have := Cl.new [.slice none 0 0, .bool false] 66 (w3.alloc (.cells #[.slice a3 m3 c3, .bool false] 66))
    simpa [BN.hz] using this
  clear l3 k3 k4 HSg
  go_wp2
  rw [← hW4]
  rw [← hb7]
  clear hW4 hb7
  obtain ⟨b8, hb8⟩ : ∃ b8, b8 = b7 + 1 := ⟨_, rfl⟩
  rw [← hb8] at H4 ⊢
  have HB8 : Hid (b8 = b7 + 1) := hb8
  clear hb8
  go_loopw [21] (fun iv wx => ∃ i : Nat, i ≤ K2 ∧ iv = .int .i64 (i : Int) ∧ Hid (Vx b8 (BN.hz (BN.cf k) (n : Int) K2 i) wx ∧ Cl b7 [.slice a3 m3 c3, .bool false] 66 wx ∧ LN wx (.slice a3 m3 c3) n ∧ Below W2.heap.size W2 wx)) (fun iv _ => K2 - (intOf iv).toNat)
  case atStart => exact ⟨0, Nat.zero_le _, rfl, H4.out.2.2.1, H4.out.1, H4.out.2.1, H4.out.2.2.2.1⟩
  case round =>
    obtain ⟨i, hin, rfl, HR⟩ := hrel
    by_cases hlt : i < K2
    · have HLt : Hid (i < K2) := hlt
      obtain ⟨D, hD⟩ : ∃ D, D = K2 - 1 - i := ⟨_, rfl⟩
      have HD : Hid (D = K2 - 1 - i ∧ D < K2) := ⟨hD, by omega⟩
      obtain ⟨K1, hK1⟩ : ∃ K1, K1 = K2 - 1 := ⟨_, rfl⟩
      have hK1i : (K2 : Int) - 1 = (K1 : Int) := by omega
      have hDi : (K1 : Int) - (i : Int) = (D : Int) := by omega
      have hwK : IntKind.i64.wrap (K1 : Int) = (K1 : Int) := by rw [IntKind.wrap_i64]; have := HK2.out; omega
      have hwD : IntKind.i64.wrap (D : Int) = (D : Int) := by rw [IntKind.wrap_i64]; have := HK2.out; omega
      clear hK1
      have hDK : D < K2 := by omega
      obtain ⟨xa, xk, xc, q1, q2, lx⟩ := H2.out.2.2.2.2.2.2.2 wr HR.out.2.2.2 D hDK
      obtain ⟨ta, tk, tc, ct, lt⟩ := HR.out.1
      obtain ⟨zx, hzx⟩ : ∃ zx, zx = decide (BN.cf k D < 0) := ⟨_, rfl⟩
      obtain ⟨zt, hzt⟩ : ∃ zt, zt = decide (BN.hz (BN.cf k) (n : Int) K2 i < 0) := ⟨_, rfl⟩
      obtain ⟨zp, hzp⟩ : ∃ zp, zp = decide (BN.hz (BN.cf k) (n : Int) K2 i * (n : Int) < 0) := ⟨_, rfl⟩
      obtain ⟨zs, hzs⟩ : ∃ zs, zs = decide (BN.hz (BN.cf k) (n : Int) K2 (i + 1) < 0) := ⟨_, rfl⟩
      rw [← hzx] at q2
      rw [← hzt] at ct
      have HL : Hid (LN wr (.slice xa xk xc) (BN.cf k D).natAbs ∧ LN wr (.slice ta tk tc) (BN.hz (BN.cf k) (n : Int) K2 i).natAbs ∧ Cl b8 [.slice ta tk tc, .bool zt] 66 wr) := ⟨lx, lt, ct⟩
      have HZ : Hid (zs = decide (BN.hz (BN.cf k) (n : Int) K2 (i + 1) < 0)) := hzs
      have HPr : Hid (∀ W, Below wr.heap.size wr W → Calls Tryz.prog 84 #[.agg #[.slice ta tk tc, .bool zt], .agg #[.slice a3 m3 c3, .bool false]] W fun e w' => ∃ v, e = .returned (.agg #[v, .bool zp]) ∧ LN w' v (BN.hz (BN.cf k) (n : Int) K2 i * (n : Int)).natAbs ∧ Below W.heap.size W w') := fun W kk => by
        have h1 := hz_bs hk hn i
        rw [← HK2.out] at h1
        have h := SProduct_any (.slice ta tk tc) (.slice a3 m3 c3) (BN.hz (BN.cf k) (n : Int) K2 i) (n : Int) (46 + 3 * i) W (lt.below kk) (by rw [Int.natAbs_natCast]; exact HR.out.2.2.1.below kk) h1 (by rw [Int.natAbs_natCast]; exact Nat.lt_of_le_of_lt hn (Nat.lt_of_lt_of_le (show 1000000000000000000 < Bs ^ 3 by decide +kernel) (Nat.pow_le_pow_right (by decide) (by omega)))) (by have := HK2.out; omega)
        rw [← hzt, decide_eq_false (show ¬ (n : Int) < 0 by omega), ← hzp] at h
        exact h
      have HPl : Hid (∀ W v, Below wr.heap.size wr W → LN W v (BN.hz (BN.cf k) (n : Int) K2 i * (n : Int)).natAbs → Calls Tryz.prog 87 #[.agg #[v, .bool zp], .agg #[.slice xa xk xc, .bool zx]] W fun e w' => ∃ v, e = .returned (.agg #[v, .bool zs]) ∧ LN w' v (BN.hz (BN.cf k) (n : Int) K2 (i + 1)).natAbs ∧ Below W.heap.size W w') := fun W v kk l => by
        have h1 := hz_bs hk hn i
        rw [← HK2.out] at h1
        have e : BN.hz (BN.cf k) (n : Int) K2 i * (n : Int) + BN.cf k D = BN.hz (BN.cf k) (n : Int) K2 (i + 1) := by rw [hD]; rfl
        have h2 : (BN.hz (BN.cf k) (n : Int) K2 i * (n : Int)).natAbs < Bs ^ (49 + 3 * i) := by
          rw [Int.natAbs_mul, Int.natAbs_natCast]
          have h3 : (BN.hz (BN.cf k) (n : Int) K2 i).natAbs * n ≤ Bs ^ (46 + 3 * i) * n := Nat.mul_le_mul_right _ (Nat.le_of_lt h1)
          have h4 : Bs ^ (46 + 3 * i) * n < Bs ^ (46 + 3 * i) * Bs ^ 3 := Nat.mul_lt_mul_of_pos_left (Nat.lt_of_le_of_lt hn (by decide +kernel)) (Nat.pow_pos (by decide))
          rw [← Nat.pow_add, show 46 + 3 * i + 3 = 49 + 3 * i by omega] at h4
          omega
        have h := SPlus_any v (.slice xa xk xc) (BN.hz (BN.cf k) (n : Int) K2 i * (n : Int)) (BN.cf k D) (49 + 3 * i) W l (lx.below kk) h2 (Nat.lt_of_lt_of_le (cf_bs hk) (Nat.pow_le_pow_right (by decide) (by omega))) (by have := HK2.out; omega)
        rw [e, ← hzp, ← hzx, ← hzs] at h
        exact h
      have HK : Hid (∀ W, Below wr.heap.size wr W → (W.cell? ⟨b8, 0, none⟩ = some (.slice ta tk tc) ∧ W.cell? ⟨b8, 1, none⟩ = some (.bool zt)) ∧ (W.cell? ⟨b7, 0, none⟩ = some (.slice a3 m3 c3) ∧ W.cell? ⟨b7, 1, none⟩ = some (.bool false)) ∧ (W.cell? ⟨ga, oa + D * 2, none⟩ = some (.slice xa xk xc) ∧ W.cell? ⟨ga, oa + D * 2 + 1, none⟩ = some (.bool zx))) := fun W kk => by
        have hg := Nat.lt_of_lt_of_le H2.out.2.2.2.2.1 HR.out.2.2.2.size
        have d1 := HL.out.2.2.below kk
        have d2 := HR.out.2.1.below kk
        have e1 := d1.cell 0
        have e2 := d1.cell 1
        have e3 := d2.cell 0
        have e4 := d2.cell 1
        simp at e1 e2 e3 e4
        exact ⟨⟨e1, e2⟩, ⟨e3, e4⟩, (kk.cell (p := ⟨ga, oa + D * 2, none⟩) hg).trans q1, (kk.cell (p := ⟨ga, oa + D * 2 + 1, none⟩) hg).trans q2⟩
      clear lx lt ct q1 q2 hzx hzt hzp hzs hD
      go_wp2
      refine wp_region_G (fun W => (W.cell? ⟨b8, 0, none⟩ = some (.slice ta tk tc) ∧ W.cell? ⟨b8, 1, none⟩ = some (.bool zt)) ∧ (W.cell? ⟨b7, 0, none⟩ = some (.slice a3 m3 c3) ∧ W.cell? ⟨b7, 1, none⟩ = some (.bool false)) ∧ (W.cell? ⟨ga, oa + D * 2, none⟩ = some (.slice xa xk xc) ∧ W.cell? ⟨ga, oa + D * 2 + 1, none⟩ = some (.bool zx))) 12 (by kernel_rfl) (HK.out _ (Below.refl _ _).drew) (fun hHeld => ?_)
      refine wpAnyG_take (i := 0) (v := ?v0x1) rfl (by kernel_rfl) (fun _ _ _ h => h) (Or.inl ⟨by rfl, ?y0x1⟩) hHeld ?r0x1
      case y0x1 => (intro wS hSw; obtain ⟨⟨s1, s2⟩, ⟨s3, s4⟩, s5, s6⟩ := hSw; go_simp; try with_reducible rfl)
      simp only [Act.put, List.getElem_toArray, List.getElem_cons_zero, List.getElem_cons_succ, List.setIfInBounds_toArray, List.set_cons_zero, List.set_cons_succ]
      refine wpAnyG_take (i := 1) (v := ?v1x2) rfl (by kernel_rfl) (fun _ _ _ h => h) (Or.inl ⟨by rfl, ?y1x2⟩) hHeld ?r1x2
      case y1x2 => (intro wS hSw; obtain ⟨⟨s1, s2⟩, ⟨s3, s4⟩, s5, s6⟩ := hSw; go_simp; try with_reducible rfl)
      simp only [Act.put, List.getElem_toArray, List.getElem_cons_zero, List.getElem_cons_succ, List.setIfInBounds_toArray, List.set_cons_zero, List.set_cons_succ]
      refine wpAnyG_take (i := 3) (v := ?v3x3) rfl (by kernel_rfl) (fun _ _ _ h => h) (Or.inl ⟨by rfl, ?y3x3⟩) hHeld ?r3x3
      case y3x3 => (intro wS hSw; obtain ⟨⟨s1, s2⟩, ⟨s3, s4⟩, s5, s6⟩ := hSw; go_simp; try with_reducible rfl)
      simp only [Act.put, List.getElem_toArray, List.getElem_cons_zero, List.getElem_cons_succ, List.setIfInBounds_toArray, List.set_cons_zero, List.set_cons_succ]
      refine wpAnyG_take (i := 4) (v := ?v4x4) rfl (by kernel_rfl) (fun _ _ _ h => h) (Or.inl ⟨by rfl, ?y4x4⟩) hHeld ?r4x4
      case y4x4 => (intro wS hSw; obtain ⟨⟨s1, s2⟩, ⟨s3, s4⟩, s5, s6⟩ := hSw; go_simp; try with_reducible rfl)
      simp only [Act.put, List.getElem_toArray, List.getElem_cons_zero, List.getElem_cons_succ, List.setIfInBounds_toArray, List.set_cons_zero, List.set_cons_succ]
      refine wpAnyG_take (i := 5) (v := ?v5x5) rfl (by kernel_rfl) (fun _ _ _ h => h) (Or.inl ⟨by rfl, ?y5x5⟩) hHeld ?r5x5
      case y5x5 => (intro wS hSw; obtain ⟨⟨s1, s2⟩, ⟨s3, s4⟩, s5, s6⟩ := hSw; go_simp; try with_reducible rfl)
      simp only [Act.put, List.getElem_toArray, List.getElem_cons_zero, List.getElem_cons_succ, List.setIfInBounds_toArray, List.set_cons_zero, List.set_cons_succ]
      refine wpAnyG_take (i := 6) (v := ?v6x6) rfl (by kernel_rfl) (fun _ _ _ h => h) (Or.inl ⟨by rfl, ?y6x6⟩) hHeld ?r6x6
      case y6x6 => (intro wS hSw; obtain ⟨⟨s1, s2⟩, ⟨s3, s4⟩, s5, s6⟩ := hSw; go_simp; try with_reducible rfl)
      simp only [Act.put, List.getElem_toArray, List.getElem_cons_zero, List.getElem_cons_succ, List.setIfInBounds_toArray, List.set_cons_zero, List.set_cons_succ]
      refine wpAnyG_take (i := 7) (v := ?v7x7) rfl (by kernel_rfl) (fun _ _ _ h => h) (Or.inl ⟨by rfl, ?y7x7⟩) hHeld ?r7x7
      case y7x7 => (intro wS hSw; obtain ⟨⟨s1, s2⟩, ⟨s3, s4⟩, s5, s6⟩ := hSw; go_simp; try with_reducible rfl)
      simp only [Act.put, List.getElem_toArray, List.getElem_cons_zero, List.getElem_cons_succ, List.setIfInBounds_toArray, List.set_cons_zero, List.set_cons_succ]
      refine wpAnyG_take (i := 8) (v := ?v8x8) rfl (by kernel_rfl) (fun _ _ _ h => h) (Or.inl ⟨by rfl, ?y8x8⟩) hHeld ?r8x8
      case y8x8 => (intro wS hSw; obtain ⟨⟨s1, s2⟩, ⟨s3, s4⟩, s5, s6⟩ := hSw; go_simp; try with_reducible rfl)
      simp only [Act.put, List.getElem_toArray, List.getElem_cons_zero, List.getElem_cons_succ, List.setIfInBounds_toArray, List.set_cons_zero, List.set_cons_succ]
      refine wpAnyG_take (i := 9) (v := ?v9x9) rfl (by kernel_rfl) (fun _ _ _ h => h) (Or.inl ⟨by rfl, ?y9x9⟩) hHeld ?r9x9
      case y9x9 => (intro wS hSw; obtain ⟨⟨s1, s2⟩, ⟨s3, s4⟩, s5, s6⟩ := hSw; go_simp; try with_reducible rfl)
      simp only [Act.put, List.getElem_toArray, List.getElem_cons_zero, List.getElem_cons_succ, List.setIfInBounds_toArray, List.set_cons_zero, List.set_cons_succ]
      refine wpAnyG_take (i := 10) (v := ?v10x10) rfl (by kernel_rfl) (fun _ _ _ h => h) (Or.inl ⟨by rfl, ?y10x10⟩) hHeld ?r10x10
      case y10x10 => (intro wS hSw; obtain ⟨⟨s1, s2⟩, ⟨s3, s4⟩, s5, s6⟩ := hSw; go_simp; try with_reducible rfl)
      simp only [Act.put, List.getElem_toArray, List.getElem_cons_zero, List.getElem_cons_succ, List.setIfInBounds_toArray, List.set_cons_zero, List.set_cons_succ]
      refine wpAnyG_one (i := 2) rfl (by kernel_rfl) (fun K hK => ?_)
      go_simp
      refine (HPr.out _ (Below.refl _ _).drew).mono ?_
      rintro e w5 ⟨v5, rfl, l5, k5⟩
      obtain ⟨a5, m5, c5, rfl⟩ := l5.shape
      have HL5 : Hid (LN w5 (.slice a5 m5 c5) (BN.hz (BN.cf k) (n : Int) K2 i * (n : Int)).natAbs ∧ Below wr.heap.size wr w5) := ⟨l5, (Below.refl _ _).drew.trans k5⟩
      clear l5 k5
      refine hK.out _ _ (HK.out _ HL5.out.2) ?_
      clear hK K hHeld
      have hHeld := HK.out _ HL5.out.2
      refine wpAnyG_one (i := 11) rfl (by kernel_rfl) (fun K hK => ?_)
      go_simp
      refine (HPl.out w5 (.slice a5 m5 c5) HL5.out.2 HL5.out.1).mono ?_
      rintro e w6 ⟨v6, rfl, l6, k6⟩
      obtain ⟨a6, m6, c6, rfl⟩ := l6.shape
      have HK6 : Hid (Below wr.heap.size wr w6) := HL5.out.2.trans (k6.mono HL5.out.2.size)
      have HC6 : Hid (Cl b8 [.slice ta tk tc, .bool zt] 66 w6) := HL.out.2.2.below HK6.out
      have HN : Hid (Vx b8 (BN.hz (BN.cf k) (n : Int) K2 (i + 1)) ((w6.setCell ⟨b8, 0, none⟩ (.slice a6 m6 c6)).setCell ⟨b8, 1, none⟩ (.bool zs)) ∧ Cl b7 [.slice a3 m3 c3, .bool false] 66 ((w6.setCell ⟨b8, 0, none⟩ (.slice a6 m6 c6)).setCell ⟨b8, 1, none⟩ (.bool zs)) ∧ LN ((w6.setCell ⟨b8, 0, none⟩ (.slice a6 m6 c6)).setCell ⟨b8, 1, none⟩ (.bool zs)) (.slice a3 m3 c3) n ∧ Below W2.heap.size W2 ((w6.setCell ⟨b8, 0, none⟩ (.slice a6 m6 c6)).setCell ⟨b8, 1, none⟩ (.bool zs))) := by
        have hb := HB8.out
        have hz := H4.out.2.2.2.2.1
        refine ⟨⟨a6, m6, c6, by rw [← HZ.out]; exact HC6.out.two _ _, l6.setTwo HC6.out⟩, ((HR.out.2.1.below HK6.out).other (by simp; omega) _).other (by simp; omega) _, (HR.out.2.2.1.below HK6.out).setTwo HC6.out, (((HR.out.2.2.2.trans (HK6.out.mono HR.out.2.2.2.size)).setCell (by simp; omega) _).setCell (by simp; omega) _)⟩
      have u1 := HC6.out.cell 0
      have u2 := HC6.out.cell 1
      have u3 := HC6.out.frozen 0
      have u4 := HC6.out.frozen 1
      simp at u1 u2
      clear l6 k6
      refine hK.out _ _ (HK.out _ HK6.out) ?_
      clear hK K hHeld
      have hHeld := HK.out _ HK6.out
      refine wpAnyG_last (i := 12) rfl (by kernel_rfl) (by kernel_rfl) (fun K hK => ?_)
      go_simp
      refine hK.out _ _ ?_
      clear hK K
      refine wpAnyG_done (by kernel_rfl) ?_ _
      clear u1 u2 u3 u4 hHeld
      go_wp2
      go_roundw
      case rel => exact ⟨i + 1, by have := HLt.out; omega, by go_num, HN.out⟩
      case measure => have := HLt.out; simp [intOf]; omega
    · obtain rfl : K2 = i := by omega
      obtain ⟨ta, tk, tc, ct, lt⟩ := HR.out.1
      have hv : BN.hz (BN.cf k) (n : Int) K2 K2 = ((BN.prm (k + 1) * (k + 1) * BN.pk k n : Nat) : Int) := by
        rw [HK2.out, BN.hz_faul k n (by omega)]
        simp only [Int.natCast_mul, Int.natCast_add, Int.natCast_one]
        grind
      rw [hv] at ct lt
      rw [decide_eq_false (by omega)] at ct
      rw [Int.natAbs_natCast] at lt
      have hvb : BN.prm (k + 1) * (k + 1) * BN.pk k n < Bs ^ (46 + 3 * K2) := by
        have := hz_bs hk hn K2
        rw [← HK2.out, hv, Int.natAbs_natCast] at this
        exact this
      have hlb := below_bs hk
      have hc0 : 0 < BN.prm (k + 1) * (k + 1) := Nat.mul_pos (BN.prm_pos _) (by omega)
      obtain ⟨B, hB⟩ : ∃ B, B = BN.prm (k + 1) * (k + 1) := ⟨_, rfl⟩
      have HDv : Hid (Calls Tryz.prog 88 #[.agg #[.slice ta tk tc, .bool false], .agg #[.slice a1 m1 c1, .bool false]] wr fun e w' => ∃ qa qk qc ea ek ec, e = .returned (.tuple #[.agg #[.slice qa qk qc, .bool false], .agg #[.slice ea ek ec, .bool false]]) ∧ LN w' (.slice qa qk qc) (BN.pk k n) ∧ Below wr.heap.size wr w') := by
        have h := SDivide_any (.slice ta tk tc) (.slice a1 m1 c1) ((B * BN.pk k n : Nat) : Int) (B : Int) (46 + 3 * K2) wr (by rw [Int.natAbs_natCast, hB]; exact lt) (by rw [Int.natAbs_natCast, hB]; exact H2.out.2.2.1.below HR.out.2.2.2) (by rw [Int.natAbs_natCast, hB]; exact hvb) (by rw [Int.natAbs_natCast, hB]; exact Nat.lt_of_lt_of_le hlb (Nat.pow_le_pow_right (by decide) (by omega))) (by have := HK2.out; omega) (by omega)
        have hq := fdiv_uniq (x := ((B * BN.pk k n : Nat) : Int)) (y := (B : Int)) (q := ((BN.pk k n : Nat) : Int)) (r := 0) (by omega) (by rw [Int.natCast_mul, Int.add_zero, Int.mul_comm]) (by rw [Int.natAbs_natCast]; show 0 < B; omega) (fun _ => by omega) (fun _ => by omega)
        rw [hq.1, hq.2, decide_eq_false (by omega), decide_eq_false (by omega), decide_eq_false (by omega), Int.natAbs_natCast] at h
        refine h.mono fun e w' ⟨v, u, h1, h2, h3, h4⟩ => ?_
        obtain ⟨qa, qk, qc, rfl⟩ := h2.shape
        obtain ⟨ea, ek, ec, rfl⟩ := h3.shape
        exact ⟨qa, qk, qc, ea, ek, ec, h1, h2, h4⟩
      have C8 := ct
      have C6 := H2.out.2.1.below HR.out.2.2.2
      have q1 := C8.cell 0
      have q2 := C8.cell 1
      have q3 := C6.cell 0
      have q4 := C6.cell 1
      simp at q1 q2 q3 q4
      clear ct lt hv hvb hlb hc0 C8 C6
      go_wp2_with fail
      refine HDv.out.mono ?_
      rintro e w5 ⟨qa, qk, qc, ea, ek, ec, rfl, l5, k5⟩
      have H5 : Hid (LN w5 (.slice qa qk qc) (BN.pk k n) ∧ Below W2.heap.size W2 w5) := ⟨l5, HR.out.2.2.2.trans (k5.mono HR.out.2.2.2.size)⟩
      have hzw : w.heap.size < w5.heap.size := by have h1 := H5.out.2.size; have h2 := H2.out.2.2.2.2.2.1; have h3 := H2.out.2.2.2.2.2.2.1; omega
      have HC5 : Hid (Cl w.heap.size [.slice none 0 0, .bool false] 66 w5) := H2.out.1.below H5.out.2
      have hc5 := HC5.out
      have r1 := hc5.cell 0
      have r2 := hc5.cell 1
      have r3 := hc5.frozen 0
      have r4 := hc5.frozen 1
      simp at r1 r2
      obtain ⟨W6, hW6⟩ : ∃ W6, W6 = (w5.setCell ⟨w.heap.size, 0, none⟩ (.slice qa qk qc)).setCell ⟨w.heap.size, 1, none⟩ (.bool false) := ⟨_, rfl⟩
      obtain ⟨W7, hW7⟩ : ∃ W7, W7 = (W6.alloc (.cells #[.slice qa qk qc, .bool false] 66)).alloc (.cells #[.slice ea ek ec, .bool false] 66) := ⟨_, rfl⟩
      have HF : Hid (Cl w.heap.size [.slice qa qk qc, .bool false] 66 W7 ∧ LN W7 (.slice qa qk qc) (BN.pk k n) ∧ Below w.heap.size w W7) := by
        have kw : Below w.heap.size w w5 := H2.out.2.2.2.1.trans (H5.out.2.mono (by have h2 := H2.out.2.2.2.2.2.1; have h3 := H2.out.2.2.2.2.2.2.1; omega))
        have c6 : Cl w.heap.size [.slice qa qk qc, .bool false] 66 W6 := by rw [hW6]; exact hc5.two _ _
        have k7 : Below W6.heap.size W6 W7 := by rw [hW7]; exact ((Below.refl _ _).alloc (Nat.le_refl _) _).alloc (by simp) _
        have l6 : LN W6 (.slice qa qk qc) (BN.pk k n) := by rw [hW6]; exact H5.out.1.setTwo hc5
        have kw6 : Below w.heap.size w W6 := by rw [hW6]; exact (kw.setCell (by simp) _).setCell (by simp) _
        exact ⟨c6.below k7, l6.below k7, kw6.trans (k7.mono kw6.size)⟩
      have HW7 : Hid (W7 = ((((w5.setCell ⟨w.heap.size, 0, none⟩ (.slice qa qk qc)).setCell ⟨w.heap.size, 1, none⟩ (.bool false)).alloc (.cells #[.slice qa qk qc, .bool false] 66)).alloc (.cells #[.slice ea ek ec, .bool false] 66))) := by show _ = _; rw [hW7, hW6]
      clear q1 q2 q3 q4 HDv HR hc5 hW6 hW7
      clear l5 k5
      go_wp2
      rw [← HW7.out]
      have C3 := HF.out.1
      have e1 := C3.cell 0
      have e2 := C3.cell 1
      simp at e1 e2
      exact bodyPost_ret (v := .agg #[.slice qa qk qc, .bool false]) (by simp [results, Tryz.results51, go_sem, e1, e2]) rfl ⟨_, rfl, HF.out.2.1, HF.out.2.2⟩
set_option maxHeartbeats 2000000 in
theorem SString_any (v : Value) (n m : Nat) (w : World) (h : LN w v n) (hn : n < Bs ^ m) (hm1 : 1 ≤ m) (hm : m ≤ 1000000) (hT : Tq w) :
    Calls Tryz.prog 52 #[.agg #[v, .bool false]] w fun e w' => e = .returned (.string ⟨(Lib.decDigits n).toArray⟩) ∧ Below w.heap.size w w' := by
  obtain ⟨a, k, c, rfl⟩ := h.shape
  obtain ⟨W0, hW0⟩ : ∃ W0, W0 = w.alloc (.cells #[.slice a k c, .bool false] 66) := ⟨_, rfl⟩
  have k0 : Below w.heap.size w W0 := by rw [hW0]; exact (Below.refl _ _).alloc (Nat.le_refl _) _
  have HS : Hid (Calls Tryz.prog 68 #[.agg #[.slice a k c]] W0 fun e w' => e = .returned (.string ⟨(Lib.decDigits n).toArray⟩) ∧ Below W0.heap.size W0 w') := String_any (.slice a k c) n m W0 (h.below k0) hn hm1 hm (hT.below k0)
  have HK : Hid (Below w.heap.size w W0) := k0
  clear h hT k0
  go_enter Tryz.func52, Tryz.ntmps52
  go_wp2_with fail
  rw [← hW0]
  clear hW0
  refine HS.out.mono ?_
  rintro e w1 ⟨rfl, k1⟩
  have HK1 : Hid (Below w.heap.size w w1) := HK.out.trans (k1.mono HK.out.size)
  clear k1
  go_wp2
  go_ret
  exact ⟨rfl, HK1.out⟩
end Go.Proofs.YtnkjadpmigpneaaGreatDoor
