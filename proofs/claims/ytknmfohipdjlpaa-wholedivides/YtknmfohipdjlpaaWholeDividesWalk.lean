/- The law WholeDivides: the walk. -/
import Derived.Test.YtknmfohipdjlpaaWholeH
set_option linter.unusedSimpArgs false
set_option linter.unusedVariables false
namespace Go.Proofs.Ytknmfohipdjlpaa.wholeDivides
open Go.RowKit

theorem nf_two_ne {a b : Int} (h : okB a b = false) : ((nf 0 [a, b]).1 != 0) = true := by
  unfold okB at h; unfold nf nf nf; cases h1 : numB a <;> cases h2 : numB b <;> simp_all

set_option maxHeartbeats 2000000 in
theorem walk_bad (a b : Int) (w : World) (h : okB a b = false) :
    Calls Try.prog 3 #[.int .i64 a, .int .i64 b] w fun e w' => e = .returned (.bool true) ∧ Below w.heap.size w w' := by
  have hne := nf_two_ne h
  have hB := fun w => Bezout_bad a b w h
  have hG := fun w => Gcd_bad a b w h
  have hN := fun W B hB h0 h1 => refNumbersFault_any [a, b] B 0 2 W (by simp) hB (two_cells a b W B h0 h1)
  obtain ⟨c, d, hcd⟩ : ∃ c d, nf 0 [a, b] = (c, d) := ⟨_, _, rfl⟩
  rw [hcd] at hne hB hG hN
  simp only at hne hB hG hN
  have HB : Hid (∀ w, _) := hB
  have HG : Hid (∀ w, _) := hG
  have HN : Hid (∀ W B _ _ _, _) := hN
  clear hB hG hN hcd h
  go_enter Try.func3, Try.ntmps3
  go_wp2_with fail
  refine (HN.out _ _ ?_ ?_ ?_).mono ?_
  · simp
  · go_simp
  · go_simp
  rintro e w1 ⟨rfl, k1⟩
  go_wp2_with fail
  refine (HG.out _).mono ?_
  rintro e w2 ⟨rfl, k2⟩
  go_wp2_with fail
  refine (HB.out _).mono ?_
  rintro e w3 ⟨rfl, k3⟩
  go_wp2_with fail
  refine (begun_any _).mono ?_
  rintro e w4 ⟨rfl, k4⟩
  have z1 := k1.size
  have z2 := k2.size
  have z3 := k3.size
  have z4 := k4.size
  simp at z1 z2 z3 z4
  have c1 := newB k2 (i := 0) (v := .int .i64 c) rfl
  have c2 := newB k2 (i := 1) (v := .int .i64 d) rfl
  have c3 := newB k3 (i := 0) (v := .int .i64 c) rfl
  have c4 := newB k3 (i := 1) (v := .int .i64 d) rfl
  have e1 := keepB k4 (keepB k3 c1)
  have e2 := keepB k4 (keepB k3 c2)
  have e3 := keepB k4 c3
  have e4 := keepB k4 c4
  have e5 := newB k4 (i := 0) (v := .int .i64 c) rfl
  have e6 := newB k4 (i := 1) (v := .int .i64 d) rfl
  clear c1 c2 c3 c4
  have HK : Hid (Below w.heap.size w w4) := (((((((Below.alloc_self w _).trans (k1.mono (by simp))).trans ((Below.alloc_self w1 _).mono (by omega))).trans (k2.mono (by simp; omega))).trans ((Below.alloc_self w2 _).mono (by omega))).trans (k3.mono (by simp; omega))).trans ((Below.alloc_self w3 _).mono (by omega))).trans (k4.mono (by simp; omega))
  clear k1 k2 k3 k4 HB HG HN
  go_wp2
  go_ret
  exact ⟨rfl, HK.out⟩

theorem cmpZ_same {x y : Int} (h : x = y) : (cmpZ x y != 0) = false := by subst h; simp [cmpZ]

set_option maxHeartbeats 4000000 in
theorem walk_ok (a b : Int) (w : World) (h : okB a b = true) :
    Calls Try.prog 3 #[.int .i64 a, .int .i64 b] w fun e w' => e = .returned (.bool true) ∧ Below w.heap.size w w' := by
  obtain ⟨ha, hb⟩ := okB_bounds h
  have hB := fun w => Bezout_ok a b w h
  have hG := fun w => Gcd_ok a b w h
  have hN := fun W B hB h0 h1 => refNumbersFault_any [a, b] B 0 2 W (by simp) hB (two_cells a b W B h0 h1)
  rw [okB_nf h] at hN
  simp only at hN
  have hgle : Int.gcd a b ≤ 1000000000000000000 := by
    rcases Int.lt_trichotomy a 0 with c | c | c
    · exact Nat.le_trans (Nat.le_of_dvd (by omega) (Int.gcd_dvd_natAbs_left a b)) ha
    · subst c; rw [Int.gcd_zero_left]; exact hb
    · exact Nat.le_trans (Nat.le_of_dvd (by omega) (Int.gcd_dvd_natAbs_left a b)) ha
  have HB : Hid (∀ w, _) := hB
  have HG : Hid (∀ w, _) := hG
  have HN : Hid (∀ W B _ _ _, _) := hN
  clear hB hG hN h
  go_enter Try.func3, Try.ntmps3
  go_wp2_with fail
  refine (HN.out _ _ ?_ ?_ ?_).mono ?_
  · simp
  · go_simp
  · go_simp
  rintro e w1 ⟨rfl, k1⟩
  go_wp2_with fail
  refine (HG.out _).mono ?_
  rintro e w2 ⟨rfl, k2⟩
  go_wp2_with fail
  refine (HB.out _).mono ?_
  rintro e w3 ⟨u, v, rfl, hbz, k3⟩
  go_wp2_with fail
  refine (begun_any _).mono ?_
  rintro e w4 ⟨rfl, k4⟩
  have z1 := k1.size
  have z2 := k2.size
  have z3 := k3.size
  have z4 := k4.size
  simp at z1 z2 z3 z4
  have c1 := newB k2 (i := 0) (v := .int .i64 0) rfl
  have c2 := newB k2 (i := 1) (v := .int .i64 0) rfl
  have c3 := newB k3 (i := 0) (v := .int .i64 0) rfl
  have c4 := newB k3 (i := 1) (v := .int .i64 0) rfl
  have e1 := keepB k4 (keepB k3 c1)
  have e2 := keepB k4 (keepB k3 c2)
  have e3 := keepB k4 c3
  have e4 := keepB k4 c4
  have e5 := newB k4 (i := 0) (v := .int .i64 0) rfl
  have e6 := newB k4 (i := 1) (v := .int .i64 0) rfl
  clear c1 c2 c3 c4
  have HK : Hid (Below w.heap.size w w4) := (((((((Below.alloc_self w _).trans (k1.mono (by simp))).trans ((Below.alloc_self w1 _).mono (by omega))).trans (k2.mono (by simp; omega))).trans ((Below.alloc_self w2 _).mono (by omega))).trans (k3.mono (by simp; omega))).trans ((Below.alloc_self w3 _).mono (by omega))).trans (k4.mono (by simp; omega))
  clear k1 k2 k3 k4 HB HG HN
  have ub : -1000000000000000000 ≤ u ∧ u ≤ 1000000000000000000 := by
    by_cases h0 : b = 0
    · rw [(hbz.nul h0).2]
      rcases Int.lt_trichotomy a 0 with c | c | c
      · rw [Int.sign_eq_neg_one_of_neg c]; omega
      · subst c; decide
      · rw [Int.sign_eq_one_of_pos c]; omega
    · have h1 := hbz.low h0
      have h2 := hbz.high h0
      have h3 := Nat.div_le_self b.natAbs (Int.gcd a b)
      omega
  have vb := hbz.vb
  have HZ : Hid (Bez a b u v) := hbz
  clear hbz
  have hsz : w.heap.size ≤ w4.heap.size := by omega
  go_wp2_with fail
  refine (refGcd_nat a.natAbs b.natAbs _ ha hb a b rfl rfl).mono ?_
  rintro e w5 ⟨rfl, rfl⟩
  go_wp2_with fail
  refine (Combined_any u a v b _ (by omega) (by omega) (by omega) (by omega)).mono ?_
  rintro e w6 ⟨z, rfl, gz, iz, kz⟩
  go_wp2_with fail
  refine (B_any (Int.gcd a b : Int) _ (by omega) (by omega)).mono ?_
  rintro e w7 ⟨y, rfl, gy, iy, ky⟩
  go_wp2_with fail
  refine (Cmp_any z y (u * a + v * b) (Int.gcd a b : Int) 5 2 _ (iz.below ky (Nat.le_refl _)) iy (add_lt_pw (mul_lt_pw (lt_pw2 (by omega) (by omega)) (lt_pw2 (by omega) (by omega))) (mul_lt_pw (lt_pw2 (by omega) (by omega)) (lt_pw2 (by omega) (by omega)))) (lt_pw2 (by omega) (by omega)) (by omega) (by omega)).mono ?_
  have hcz := cmpZ_same HZ.out.lin
  obtain ⟨cz, gcz⟩ : ∃ cz, cz = cmpZ (u * a + v * b) (Int.gcd a b : Int) := ⟨_, rfl⟩
  rw [← gcz] at hcz ⊢
  clear gcz
  rintro e w8 ⟨rfl, nq, hw8⟩
  have HK8 : Hid (Below w.heap.size w w8) := by
    show Below _ _ _
    rw [hw8]
    exact below_drewN' ((HK.out.trans (kz.mono hsz)).trans (ky.mono (by have := kz.size; omega)))
  clear hw8 kz ky iz iy HK
  by_cases h0 : b = 0
  · obtain ⟨hv0, hu0⟩ := HZ.out.nul h0
    subst h0 hv0
    rcases Int.lt_trichotomy a 0 with c | c | c
    · rw [Int.sign_eq_neg_one_of_neg c] at hu0
      subst hu0
      have d1 : decide (0 < a) = false := by simp; omega
      have d2 : decide (a < 0) = true := by simp; omega
      clear c
      go_wp2
      go_ret
      exact ⟨rfl, HK8.out⟩
    · subst c
      have : u = 0 := hu0
      subst this
      clear ha hb hgle ub vb hu0
      go_wp2
      go_ret
      exact ⟨rfl, HK8.out⟩
    · rw [Int.sign_eq_one_of_pos c] at hu0
      subst hu0
      go_wp2
      go_ret
      exact ⟨rfl, HK8.out⟩
  · have t0 : (b == 0) = false := beq_eq_false_iff_ne.2 h0
    have hu0 := HZ.out.low h0
    have hu1 : u < (b.natAbs : Int) / (Int.gcd a b : Int) := by rw [← Int.natCast_ediv]; exact HZ.out.high h0
    have hg0 : 0 < Int.gcd a b := Int.gcd_pos_of_ne_zero_right _ h0
    have hdb : (b.natAbs : Int) / (Int.gcd a b : Int) ≤ 1000000000000000000 := by
      rw [← Int.natCast_ediv]; have := Nat.div_le_self b.natAbs (Int.gcd a b); generalize b.natAbs / Int.gcd a b = q at *; omega
    go_wp2_with (go_at_call 15; refine (refSize_any _ _ (by omega) (by omega)).mono ?_; rintro e w' ⟨rfl, rfl⟩)
    go_ret
    exact ⟨rfl, HK8.out⟩

theorem walk (a b : Int) (w : World) :
    Calls Try.prog 3 #[.int .i64 a, .int .i64 b] w fun e w' => e = .returned (.bool true) ∧ Below w.heap.size w w' := by
  cases h : okB a b
  · exact walk_bad a b w h
  · exact walk_ok a b w h

end Go.Proofs.Ytknmfohipdjlpaa.wholeDivides
