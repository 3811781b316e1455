/- The law WholeLaws: the walk. -/
import Derived.Test.YtknmfohipdjlpaaWholeJ
import Derived.Test.YtknmfohipdjlpaaWholeH
import Derived.Test.YtknmfohipdjlpaaBigN
set_option linter.unusedSimpArgs false
set_option linter.unusedVariables false
namespace Go.Proofs.Ytknmfohipdjlpaa.wholeLaws
open Go.RowKit

/-- Two powers' product is the power of the sum. -/
theorem pow_sum (A n k m : Nat) : ((A ^ n % m : Nat) : Int) * ((A ^ k % m : Nat) : Int) % (m : Int) = ((A ^ (n + k) % m : Nat) : Int) := by
  rw [← Int.natCast_mul, ← Int.natCast_emod, ← Nat.mul_mod, ← Nat.pow_add]

/-- An inverse's inverse is the number. -/
theorem inv_inv {a m i b : Int} (hm : 0 < m) (h1 : (i * a) % m = 1 % m) (h2 : (b * i) % m = 1 % m) (hb0 : 0 ≤ b) (hbm : b < m) : b = a % m := by
  have e1 : (b * (i * a)) % m = b % m := by
    rw [Int.mul_emod, h1, ← Int.mul_emod, Int.mul_one]
  have e2 : (b * (i * a)) % m = a % m := by
    rw [← Int.mul_assoc, Int.mul_emod, h2, ← Int.mul_emod, Int.one_mul]
  rw [Int.emod_eq_of_lt hb0 hbm] at e1
  rw [← e1, e2]

theorem gcd_inv {a m i : Int} (hm : 0 < m) (h1 : (i * a) % m = 1 % m) : Int.gcd i m = 1 := by
  have h2 : (Int.gcd i m : Int) ∣ 1 := by
    have d1 : (Int.gcd i m : Int) ∣ i * a := Int.dvd_trans (Int.gcd_dvd_left ..) (Int.dvd_mul_right ..)
    have d2 : (Int.gcd i m : Int) ∣ m := Int.gcd_dvd_right ..
    have d3 : m ∣ i * a - 1 := Int.dvd_of_emod_eq_zero (Int.emod_eq_emod_iff_emod_sub_eq_zero.1 h1)
    have d4 := Int.dvd_sub d1 (Int.dvd_trans d2 d3)
    rwa [Int.sub_sub_self] at d4
  have h3 : (Int.gcd i m) ∣ 1 := by
    have := Int.natAbs_dvd_natAbs.2 h2
    simpa using this
  exact Nat.dvd_one.1 h3

theorem refLeft_any (a : Int) (m : Nat) (w : World) (ha : a.natAbs ≤ 4000000000000000000) (h0 : 0 < m) (hm : (m : Int) ≤ 1000000000000000000) :
    Calls Try.prog 29 #[.int .i64 a, .int .i64 m] w fun e w' => e = .returned (.int .i64 (a % (m : Int))) ∧ w' = w := by
  have hb : (a.tmod (m : Int)).natAbs < m := by rw [Int.natAbs_tmod]; exact Nat.mod_lt _ h0
  have t1 : ((m : Int) == 0) = false := beq_eq_false_iff_ne.2 (by omega)
  by_cases h : 0 ≤ a
  · have e : a.tmod (m : Int) = a % (m : Int) := Int.tmod_eq_emod_of_nonneg h
    have h1 : 0 ≤ a % (m : Int) := Int.emod_nonneg _ (by omega)
    have h2 : a % (m : Int) < (m : Int) := Int.emod_lt_of_pos _ (by omega)
    clear hb e
    go_enter Try.func29, Try.ntmps29
    go_wp2
    go_ret
    exact ⟨rfl, rfl⟩
  · by_cases hz : a.tmod (m : Int) < 0
    · have HE : Hid (a.tmod (m : Int) + (m : Int) = a % (m : Int)) := by
        show _ = _
        have e1 := Int.tmod_eq_emod (a := a) (b := (m : Int))
        rw [e1] at hz ⊢
        split at hz
        · have := Int.emod_nonneg a (show (m : Int) ≠ 0 by omega); omega
        · rename_i hc; rw [if_neg hc]; simp
      go_enter Try.func29, Try.ntmps29
      go_wp2
      go_ret
      exact ⟨ret_int HE.out, rfl⟩
    · have HE : Hid (a.tmod (m : Int) = a % (m : Int)) := by
        show _ = _
        have e1 := Int.tmod_eq_emod (a := a) (b := (m : Int))
        rw [e1] at hz ⊢
        split at hz
        · rename_i hc; rw [if_pos hc]; omega
        · have := Int.emod_lt_of_pos a (show 0 < (m : Int) by omega); simp at hz; omega
      go_enter Try.func29, Try.ntmps29
      go_wp2
      go_ret
      exact ⟨ret_int HE.out, rfl⟩

theorem newF {W w' : World} {C : Array Value} {t : TypeId} (k : Below (W.alloc (.cells C t)).heap.size (W.alloc (.cells C t)) w') (i : Nat) : w'.frozen? ⟨W.heap.size, i, none⟩ = false :=
  (k.frozen (p := ⟨W.heap.size, i, none⟩) (by show W.heap.size < (W.alloc _).heap.size; simp)).trans (by simp)
theorem keepF {W w' : World} {C : Array Value} {t : TypeId} {b i : Nat} (k : Below (W.alloc (.cells C t)).heap.size (W.alloc (.cells C t)) w') (hb : b < W.heap.size) (h : W.frozen? ⟨b, i, none⟩ = false) : w'.frozen? ⟨b, i, none⟩ = false :=
  (k.frozen (p := ⟨b, i, none⟩) (by show b < (W.alloc _).heap.size; simp; omega)).trans ((frozen?_alloc_cells _ _ _ _).trans h)

set_option maxHeartbeats 2000000 in
theorem walk_far (a n k m : Int) (w : World) (h : n < 0 ∨ k < 0 ∨ 1000000000 < n ∨ 1000000000 < k) :
    Calls Try.prog 6 #[.int .i64 a, .int .i64 n, .int .i64 k, .int .i64 m] w fun e w' => e = .returned (.bool true) ∧ Below w.heap.size w w' := by
  by_cases h1 : n < 0
  · go_enter Try.func6, Try.ntmps6
    go_wp2_with fail
    refine (begun_any _).mono ?_
    rintro e w1 ⟨rfl, k1⟩
    go_wp2
    go_ret
    exact ⟨rfl, k1⟩
  · by_cases h2 : k < 0
    · go_enter Try.func6, Try.ntmps6
      go_wp2_with fail
      refine (begun_any _).mono ?_
      rintro e w1 ⟨rfl, k1⟩
      go_wp2
      go_ret
      exact ⟨rfl, k1⟩
    · by_cases h3 : 1000000000 < n
      · go_enter Try.func6, Try.ntmps6
        go_wp2_with fail
        refine (begun_any _).mono ?_
        rintro e w1 ⟨rfl, k1⟩
        go_wp2
        go_ret
        exact ⟨rfl, k1⟩
      · have h4 : 1000000000 < k := by omega
        clear h
        go_enter Try.func6, Try.ntmps6
        go_wp2_with fail
        refine (begun_any _).mono ?_
        rintro e w1 ⟨rfl, k1⟩
        go_wp2
        go_ret
        exact ⟨rfl, k1⟩

set_option maxHeartbeats 2000000 in
theorem walk_bad (a n k m : Int) (w : World) (h1 : 0 ≤ n) (h2 : n ≤ 1000000000) (h3 : 0 ≤ k) (h4 : k ≤ 1000000000) (h : okB a m = false) :
    Calls Try.prog 6 #[.int .i64 a, .int .i64 n, .int .i64 k, .int .i64 m] w fun e w' => e = .returned (.bool true) ∧ Below w.heap.size w w' := by
  have hn : numB n = true := by simp [numB]; omega
  have hk : numB k = true := by simp [numB]; omega
  have hnk : numB (n + k) = true := by simp [numB]; omega
  have g1 : okB3 a n m = false := by unfold okB at h; unfold okB3; rw [hn]; simpa using h
  have g2 : okB3 a k m = false := by unfold okB at h; unfold okB3; rw [hk]; simpa using h
  have g3 : okB3 a (n + k) m = false := by unfold okB at h; unfold okB3; rw [hnk]; simpa using h
  have hP1 := fun w => Power_bad a n m w g1
  have hP2 := fun w => Power_bad a k m w g2
  have hP3 := fun w => Power_bad a (n + k) m w g3
  have hne := okB3_ne g1
  obtain ⟨c1, d1, hc1⟩ : ∃ c d, nf 0 [a, n, m] = (c, d) := ⟨_, _, rfl⟩
  obtain ⟨c2, d2, hc2⟩ : ∃ c d, nf 0 [a, k, m] = (c, d) := ⟨_, _, rfl⟩
  obtain ⟨c3, d3, hc3⟩ : ∃ c d, nf 0 [a, n + k, m] = (c, d) := ⟨_, _, rfl⟩
  rw [hc1] at hne hP1
  rw [hc2] at hP2
  rw [hc3] at hP3
  simp only at hne hP1 hP2 hP3
  have HP1 : Hid (∀ w, _) := hP1
  have HP2 : Hid (∀ w, _) := hP2
  have HP3 : Hid (∀ w, _) := hP3
  clear hP1 hP2 hP3 g1 g2 g3 hn hk hnk hc1 hc2 hc3 h
  go_enter Try.func6, Try.ntmps6
  go_wp2_with fail
  refine (begun_any _).mono ?_
  rintro e w1 ⟨rfl, k1⟩
  go_wp2_with fail
  refine (HP1.out _).mono ?_
  rintro e w2 ⟨rfl, k2⟩
  go_wp2_with fail
  refine (HP2.out _).mono ?_
  rintro e w3 ⟨rfl, k3⟩
  go_wp2_with fail
  refine (HP3.out _).mono ?_
  rintro e w4 ⟨rfl, k4⟩
  have z2 := k2.size
  have z3 := k3.size
  have z4 := k4.size
  have z1 := k1.size
  simp at z1 z2 z3 z4
  have e1 := keepB k4 (newB k3 (i := 0) (v := .int .i64 c1) rfl)
  have hlt : w2.heap.size < w4.heap.size := by omega
  have HK : Hid (Below w.heap.size w w4) := ((((k1.trans (k2.mono (by omega))).trans ((Below.alloc_self w2 _).mono (by omega))).trans (k3.mono (by simp; omega))).trans ((Below.alloc_self w3 _).mono (by omega))).trans (k4.mono (by simp; omega))
  clear k1 k2 k3 k4 HP1 HP2 HP3
  go_wp2
  go_ret
  exact ⟨rfl, HK.out.trans ((Below.alloc_self w4 _).mono (by omega))⟩

set_option maxHeartbeats 2000000 in
theorem walk_low (a n k m : Int) (w : World) (h1 : 0 ≤ n) (h2 : n ≤ 1000000000) (h3 : 0 ≤ k) (h4 : k ≤ 1000000000) (h : okB a m = true) (hm : m < 1) :
    Calls Try.prog 6 #[.int .i64 a, .int .i64 n, .int .i64 k, .int .i64 m] w fun e w' => e = .returned (.bool true) ∧ Below w.heap.size w w' := by
  have hn : numB n = true := by simp [numB]; omega
  have hk : numB k = true := by simp [numB]; omega
  have hnk : numB (n + k) = true := by simp [numB]; omega
  have g1 : okB3 a n m = true := by unfold okB at h; unfold okB3; rw [hn]; simpa using h
  have g2 : okB3 a k m = true := by unfold okB at h; unfold okB3; rw [hk]; simpa using h
  have g3 : okB3 a (n + k) m = true := by unfold okB at h; unfold okB3; rw [hnk]; simpa using h
  have HP1 : Hid (∀ w, _) := fun w => Power_low a n m w g1 (by omega) hm
  have HP2 : Hid (∀ w, _) := fun w => Power_low a k m w g2 (by omega) hm
  have HP3 : Hid (∀ w, _) := fun w => Power_low a (n + k) m w g3 (by omega) hm
  clear g1 g2 g3 hn hk hnk h
  go_enter Try.func6, Try.ntmps6
  go_wp2_with fail
  refine (begun_any _).mono ?_
  rintro e w1 ⟨rfl, k1⟩
  go_wp2_with fail
  refine (HP1.out _).mono ?_
  rintro e w2 ⟨rfl, k2⟩
  go_wp2_with fail
  refine (HP2.out _).mono ?_
  rintro e w3 ⟨rfl, k3⟩
  go_wp2_with fail
  refine (HP3.out _).mono ?_
  rintro e w4 ⟨rfl, k4⟩
  have z2 := k2.size
  have z3 := k3.size
  have z4 := k4.size
  have z1 := k1.size
  simp at z1 z2 z3 z4
  have e1 := keepB k4 (newB k3 (i := 0) (v := .int .i64 3) rfl)
  have hlt : w2.heap.size < w4.heap.size := by omega
  have HK : Hid (Below w.heap.size w w4) := ((((k1.trans (k2.mono (by omega))).trans ((Below.alloc_self w2 _).mono (by omega))).trans (k3.mono (by simp; omega))).trans ((Below.alloc_self w3 _).mono (by omega))).trans (k4.mono (by simp; omega))
  clear k1 k2 k3 k4 HP1 HP2 HP3
  go_wp2
  go_ret
  exact ⟨rfl, HK.out.trans ((Below.alloc_self w4 _).mono (by omega))⟩

set_option maxHeartbeats 4000000 in
theorem walk_ok (a : Int) (n k m : Nat) (w : World) (h2 : n ≤ 1000000000) (h4 : k ≤ 1000000000) (h : okB a (m : Int) = true) (hm : 1 ≤ m) :
    Calls Try.prog 6 #[.int .i64 a, .int .i64 n, .int .i64 k, .int .i64 m] w fun e w' => e = .returned (.bool true) ∧ Below w.heap.size w w' := by
  obtain ⟨ba, bm⟩ := okB_bounds h
  have hna : numB a = true := by unfold okB at h; rw [Bool.and_eq_true] at h; exact h.1
  have hnm : numB (m : Int) = true := by unfold okB at h; rw [Bool.and_eq_true] at h; exact h.2
  have hn : numB (n : Int) = true := by simp [numB]; omega
  have hk : numB (k : Int) = true := by simp [numB]; omega
  have hnk : numB ((n : Int) + (k : Int)) = true := by simp [numB]; omega
  have g1 : okB3 a n m = true := by unfold okB at h; unfold okB3; rw [hn]; simpa using h
  have g2 : okB3 a k m = true := by unfold okB at h; unfold okB3; rw [hk]; simpa using h
  have g3 : okB3 a ((n : Int) + (k : Int)) m = true := by unfold okB at h; unfold okB3; rw [hnk]; simpa using h
  have hP1 := fun w => Power_ok a n m w g1 n m rfl rfl hm
  have hP2 := fun w => Power_ok a k m w g2 k m rfl rfl hm
  have hP3 := fun w => Power_ok a ((n : Int) + (k : Int)) m w g3 (n + k) m (by simp) rfl hm
  have hsum := pow_sum (a % (m : Int)).toNat n k m
  have x1 : (a % (m : Int)).toNat ^ n % m < m := Nat.mod_lt _ hm
  have y1 : (a % (m : Int)).toNat ^ k % m < m := Nat.mod_lt _ hm
  have z1 : (a % (m : Int)).toNat ^ (n + k) % m < m := Nat.mod_lt _ hm
  obtain ⟨x, gx⟩ : ∃ x, x = (a % (m : Int)).toNat ^ n % m := ⟨_, rfl⟩
  obtain ⟨y, gy⟩ : ∃ y, y = (a % (m : Int)).toNat ^ k % m := ⟨_, rfl⟩
  obtain ⟨z, gz⟩ : ∃ z, z = (a % (m : Int)).toNat ^ (n + k) % m := ⟨_, rfl⟩
  rw [← gx] at hP1 hsum x1
  rw [← gy] at hP2 hsum y1
  rw [← gz] at hP3 hsum z1
  have HP1 : Hid (∀ w, _) := hP1
  have HP2 : Hid (∀ w, _) := hP2
  have HP3 : Hid (∀ w, _) := hP3
  have HS : Hid ((x : Int) * (y : Int) % (m : Int) = (z : Int)) := hsum
  have HOK : Hid (okB a (m : Int) = true) := h
  clear hP1 hP2 hP3 g1 g2 g3 hn hk hnk h hsum gx gy gz
  go_enter Try.func6, Try.ntmps6
  go_wp2_with fail
  refine (begun_any _).mono ?_
  rintro e w1 ⟨rfl, k1⟩
  go_wp2_with fail
  refine (HP1.out _).mono ?_
  rintro e w2 ⟨rfl, k2⟩
  go_wp2_with fail
  refine (HP2.out _).mono ?_
  rintro e w3 ⟨rfl, k3⟩
  go_wp2_with fail
  refine (HP3.out _).mono ?_
  rintro e w4 ⟨rfl, k4⟩
  have s2 := k2.size
  have s3 := k3.size
  have s4 := k4.size
  have s1 := k1.size
  simp at s1 s2 s3 s4
  have e1 := keepB k4 (newB k3 (i := 0) (v := .int .i64 0) rfl)
  have e2 := newB k4 (i := 0) (v := .int .i64 0) rfl
  have e1b := keepB k4 (newB k3 (i := 1) (v := .int .i64 0) rfl)
  have f1 := keepF k4 (by omega) (newF k3 0)
  have f1b := keepF k4 (by omega) (newF k3 1)
  have hlt : w2.heap.size < w4.heap.size := by omega
  have hlt3 : w3.heap.size < w4.heap.size := by omega
  have HK : Hid (Below w.heap.size w w4) := ((((k1.trans (k2.mono (by omega))).trans ((Below.alloc_self w2 _).mono (by omega))).trans (k3.mono (by simp; omega))).trans ((Below.alloc_self w3 _).mono (by omega))).trans (k4.mono (by simp; omega))
  clear k1 k2 k3 k4 HP1 HP2 HP3
  go_wp2_with (go_at_call 21; refine (number_any _ _).mono ?_; rintro e w' ⟨rfl, rfl⟩)
  obtain ⟨w5, hw5⟩ : ∃ w5, w5 = ((w4.alloc (.cells #[.int .i64 0, .int .i64 0] 23)).alloc (.cells #[.bool false, .slice none 0 0] 49)).alloc (.cells #[.bool false, .slice none 0 0] 49) := ⟨_, rfl⟩
  rw [← hw5]
  have s5 : w5.heap.size = w4.heap.size + 3 := by rw [hw5]; simp
  have L1 : Hid (Slot w5 (w4.heap.size + 1)) := by
    rw [hw5]
    have h := (slot_new (w4.alloc (.cells #[.int .i64 0, .int .i64 0] 23)) (.bool false) (.slice none 0 0)).below (Below.alloc_self _ (.cells #[.bool false, .slice none 0 0] 49)) (Nat.le_refl _)
    show Slot _ _
    simpa using h
  have L2 : Hid (Slot w5 (w4.heap.size + 2)) := by
    rw [hw5]
    have h := slot_new ((w4.alloc (.cells #[.int .i64 0, .int .i64 0] 23)).alloc (.cells #[.bool false, .slice none 0 0] 49)) (.bool false) (.slice none 0 0)
    show Slot _ _
    simpa using h
  have k5 : Below w4.heap.size w4 w5 := by
    rw [hw5]
    exact Below.alloc (Below.alloc (Below.alloc (Below.refl _ _) (Nat.le_refl _) _) (by simp) _) (by simp; omega) _
  have HC : Hid (w5.cell? ⟨w2.heap.size, 0, none⟩ = some (.int .i64 0) ∧ w5.cell? ⟨w2.heap.size, 1, none⟩ = some (.int .i64 0) ∧ w5.frozen? ⟨w2.heap.size, 0, none⟩ = false ∧ w5.frozen? ⟨w2.heap.size, 1, none⟩ = false) :=
    ⟨cell_later k5 e1, cell_later k5 e1b, (k5.frozen (p := ⟨w2.heap.size, 0, none⟩) hlt).trans f1, (k5.frozen (p := ⟨w2.heap.size, 1, none⟩) hlt).trans f1b⟩
  have HK5 : Hid (Below w.heap.size w w5) := HK.out.trans (k5.mono (by omega))
  clear hw5 k5 e1 e1b e2 f1 f1b HK
  refine (B_any (x : Int) _ (by omega) (by omega)).mono ?_
  rintro e w6 ⟨b1, rfl, p1, i1, k6⟩
  have s6 := k6.size
  have HI1 : Hid (BigAt w6 b1 x) := i1
  have HK6 : Hid (Below w5.heap.size w5 w6) := k6
  clear i1 k6
  go_wp2_with fail
  refine (B_any (y : Int) _ (by omega) (by omega)).mono ?_
  rintro e w7 ⟨b2, rfl, p2, i2, k7⟩
  have s7 := k7.size
  have HI1' : Hid (BigAt w7 b1 x) := HI1.out.below k7 (Nat.le_refl _)
  have HI2 : Hid (BigAt w7 b2 y) := i2
  have HK7 : Hid (Below w5.heap.size w5 w7) := HK6.out.trans (k7.mono (by omega))
  have L2' : Hid (Slot w7 (w4.heap.size + 2)) := L2.out.below HK7.out (Nat.le_refl _)
  have L1' : Hid (Slot w7 (w4.heap.size + 1)) := L1.out.below HK7.out (Nat.le_refl _)
  clear i2 k7 HK6 HI1 L1 L2
  go_wp2_with fail
  refine (Mul_any (w4.heap.size + 2) b1 b2 x y 2 2 w7 L2'.out HI1'.out HI2.out (lt_pw2 (by omega) (by omega)) (lt_pw2 (by omega) (by omega)) (by omega) (by omega)).mono ?_
  rintro e w8 ⟨rfl, i8, k8⟩
  have s8 := k8.size
  have HI8 : Hid (BigAt w8 (w4.heap.size + 2) ((x : Int) * (y : Int))) := i8
  have HK8 : Hid (Below (w4.heap.size + 1) w5 w8) := (HK7.out.mono (by omega)).trans (k8.below (by omega) (by omega))
  have L1 : Hid (Slot w8 (w4.heap.size + 1)) := L1'.out.upd k8 (by omega)
  clear i8 k8 HK7 HI1' HI2 L1' L2'
  go_wp2_with fail
  refine (B_any (m : Int) _ (by omega) (by omega)).mono ?_
  rintro e w9 ⟨b3, rfl, p3, i9, k9⟩
  have s9 := k9.size
  have HI9 : Hid (BigAt w9 b3 (m : Int)) := i9
  have HI8' : Hid (BigAt w9 (w4.heap.size + 2) ((x : Int) * (y : Int))) := HI8.out.below k9 (Nat.le_refl _)
  have HK9 : Hid (Below (w4.heap.size + 1) w5 w9) := HK8.out.trans (k9.mono (by omega))
  have L1' : Hid (Slot w9 (w4.heap.size + 1)) := L1.out.below k9 (Nat.le_refl _)
  clear i9 k9 HK8 HI8 L1
  go_wp2_with fail
  refine (Mod_any (w4.heap.size + 1) (w4.heap.size + 2) b3 ((x : Int) * (y : Int)) (m : Int) 4 2 w9 L1'.out HI8'.out HI9.out (by omega) (mul_lt_pw (lt_pw2 (by omega) (by omega)) (lt_pw2 (by omega) (by omega))) (lt_pw2 (by omega) (by omega)) (by omega) (by omega)).mono ?_
  rw [HS.out]
  rintro e w10 ⟨rfl, i10, k10⟩
  have s10 := k10.size
  have HI10 : Hid (BigAt w10 (w4.heap.size + 1) (z : Int)) := i10
  have HK10 : Hid (Below (w4.heap.size + 1) w5 w10) := HK9.out.trans (k10.below (by omega) (by omega))
  clear i10 k10 HK9 HI8' HI9 L1'
  go_wp2_with fail
  refine (B_any (z : Int) _ (by omega) (by omega)).mono ?_
  rintro e w11 ⟨b4, rfl, p4, i11, k11⟩
  have s11 := k11.size
  have HI11 : Hid (BigAt w11 b4 (z : Int)) := i11
  have HI10' : Hid (BigAt w11 (w4.heap.size + 1) (z : Int)) := HI10.out.below k11 (Nat.le_refl _)
  have HK11 : Hid (Below (w4.heap.size + 1) w5 w11) := HK10.out.trans (k11.mono (by omega))
  clear i11 k11 HK10 HI10
  go_wp2_with fail
  refine (Cmp_any (w4.heap.size + 1) b4 (z : Int) (z : Int) 2 2 w11 HI10'.out HI11.out (lt_pw2 (by omega) (by omega)) (lt_pw2 (by omega) (by omega)) (by omega) (by omega)).mono ?_
  rw [show cmpZ (z : Int) (z : Int) = 0 by simp [cmpZ]]
  rintro e w12 ⟨rfl, hq⟩
  have HK12 : Hid (Below (w4.heap.size + 1) w5 w12) := by obtain ⟨q, rfl⟩ := hq; exact below_drewN' HK11.out
  have s12 : w5.heap.size ≤ w12.heap.size := HK12.out.size
  have HA12 : Hid (Below w.heap.size w w12) := HK5.out.trans (HK12.out.mono (by omega))
  have c0 : w12.cell? ⟨w2.heap.size, 0, none⟩ = some (.int .i64 0) := (HK12.out.cell (p := ⟨w2.heap.size, 0, none⟩) (show w2.heap.size < w4.heap.size + 1 by omega)).trans HC.out.1
  have c1 : w12.cell? ⟨w2.heap.size, 1, none⟩ = some (.int .i64 0) := (HK12.out.cell (p := ⟨w2.heap.size, 1, none⟩) (show w2.heap.size < w4.heap.size + 1 by omega)).trans HC.out.2.1
  have f0 : w12.frozen? ⟨w2.heap.size, 0, none⟩ = false := (HK12.out.frozen (p := ⟨w2.heap.size, 0, none⟩) (show w2.heap.size < w4.heap.size + 1 by omega)).trans HC.out.2.2.1
  have f1 : w12.frozen? ⟨w2.heap.size, 1, none⟩ = false := (HK12.out.frozen (p := ⟨w2.heap.size, 1, none⟩) (show w2.heap.size < w4.heap.size + 1 by omega)).trans HC.out.2.2.2
  have hsz : w2.heap.size < w12.heap.size := by omega
  have hws : w.heap.size ≤ w2.heap.size := by omega
  clear hq HK11 HK12 HC HK5 HI10' HI11 s5 s6 s7 s8 s9 s10 s11 s12 p1 p2 p3 p4 hlt hlt3 s1 s2 s3 s4
  by_cases hg : Int.gcd a (m : Int) = 1
  · go_wp2_with fail
    refine (Inverse_ok a m _ HOK.out (by omega) hg).mono ?_
    rintro e w13 ⟨i, rfl, i0, i1, i2, k13⟩
    have s13 := k13.size
    have HI : Hid ((i * a) % (m : Int) = 1 % (m : Int)) := i2
    have d0 : w13.cell? ⟨w2.heap.size, 0, none⟩ = some (.int .i64 0) := cell_later k13 c0
    have d1 : w13.cell? ⟨w2.heap.size, 1, none⟩ = some (.int .i64 0) := cell_later k13 c1
    have e0 : w13.frozen? ⟨w2.heap.size, 0, none⟩ = false := (k13.frozen (p := ⟨w2.heap.size, 0, none⟩) hsz).trans f0
    have e1 : w13.frozen? ⟨w2.heap.size, 1, none⟩ = false := (k13.frozen (p := ⟨w2.heap.size, 1, none⟩) hsz).trans f1
    have HA13 : Hid (Below w.heap.size w w13) := HA12.out.trans (k13.mono (by omega))
    have HOK2 : Hid (okB i (m : Int) = true) := by
      show _ = _
      unfold okB
      rw [hnm, Bool.and_true]
      simp [numB]; omega
    have HG2 : Hid (Int.gcd i (m : Int) = 1) := gcd_inv (by omega) i2
    clear i2 k13 c0 c1 f0 f1 HA12
    go_wp2_with fail
    refine (Inverse_ok i m _ HOK2.out (by omega) HG2.out).mono ?_
    rintro e w14 ⟨b, rfl, b0, b1, b2, k14⟩
    have HBK : Hid (b = a % (m : Int)) := inv_inv (by omega) HI.out b2 b0 b1
    clear b2
    have s14 := k14.size
    simp at s14
    have g0 : w14.cell? ⟨w2.heap.size, 0, none⟩ = some (.int .i64 0) := cell_later k14 (by go_simp)
    have g1 : w14.cell? ⟨w2.heap.size, 1, none⟩ = some (.int .i64 0) := cell_later k14 (by go_simp)
    have q0 : w14.frozen? ⟨w2.heap.size, 0, none⟩ = false := (k14.frozen (p := ⟨w2.heap.size, 0, none⟩) (by simp; omega)).trans (by go_simp)
    have q1 : w14.frozen? ⟨w2.heap.size, 1, none⟩ = false := (k14.frozen (p := ⟨w2.heap.size, 1, none⟩) (by simp; omega)).trans (by go_simp)
    have HA14 : Hid (Below w.heap.size w w14) := ((HA13.out.setCell hws _).setCell hws _).trans (k14.mono (by simp; omega))
    clear k14 d0 d1 e0 e1 HA13
    go_wp2_with (go_at_call 29; refine (refLeft_any _ _ _ (by omega) (by omega) (by omega)).mono ?_; rw [← HBK.out]; rintro e w' ⟨rfl, rfl⟩)
    go_ret
    exact ⟨rfl, (HA14.out.setCell hws _).setCell hws _⟩
  · go_wp2_with fail
    refine (Inverse_none a m _ HOK.out (by omega) hg).mono ?_
    rintro e w13 ⟨rfl, k13⟩
    have s13 := k13.size
    have d0 : w13.cell? ⟨w2.heap.size, 0, none⟩ = some (.int .i64 0) := cell_later k13 c0
    have d1 : w13.cell? ⟨w2.heap.size, 1, none⟩ = some (.int .i64 0) := cell_later k13 c1
    have e0 : w13.frozen? ⟨w2.heap.size, 0, none⟩ = false := (k13.frozen (p := ⟨w2.heap.size, 0, none⟩) hsz).trans f0
    have e1 : w13.frozen? ⟨w2.heap.size, 1, none⟩ = false := (k13.frozen (p := ⟨w2.heap.size, 1, none⟩) hsz).trans f1
    have HA13 : Hid (Below w.heap.size w w13) := HA12.out.trans (k13.mono (by omega))
    clear k13 c0 c1 f0 f1 HA12
    go_wp2
    go_ret
    exact ⟨rfl, (HA13.out.setCell hws _).setCell hws _⟩

theorem walk (a n k m : Int) (w : World) :
    Calls Try.prog 6 #[.int .i64 a, .int .i64 n, .int .i64 k, .int .i64 m] w fun e w' => e = .returned (.bool true) ∧ Below w.heap.size w w' := by
  by_cases hf : n < 0 ∨ k < 0 ∨ 1000000000 < n ∨ 1000000000 < k
  · exact walk_far a n k m w hf
  · cases h : okB a m
    · exact walk_bad a n k m w (by omega) (by omega) (by omega) (by omega) h
    · by_cases hm : m < 1
      · exact walk_low a n k m w (by omega) (by omega) (by omega) (by omega) h hm
      · obtain ⟨N, rfl⟩ := Int.eq_ofNat_of_zero_le (show 0 ≤ n by omega)
        obtain ⟨K, rfl⟩ := Int.eq_ofNat_of_zero_le (show 0 ≤ k by omega)
        obtain ⟨M, rfl⟩ := Int.eq_ofNat_of_zero_le (show 0 ≤ m by omega)
        exact walk_ok a N K M w (by omega) (by omega) h (by omega)

end Go.Proofs.Ytknmfohipdjlpaa.wholeLaws
