/- Contracts of the reference: Product, Power, Above. -/
import Derived.Test.YtknmfohipdjlpabGreatDoorBigP
import Derived.Test.YtknmfohipdjlpabGreatDoorWholeH
set_option linter.unusedSimpArgs false
set_option linter.unusedVariables false
set_option maxRecDepth 100000
namespace Go.Proofs.YtknmfohipdjlpabGreatDoor
open Go.RowKit
theorem pow_cast (a : Int) (n m : Nat) (h0 : 0 < m) : (a % (m : Int)) ^ n % (m : Int) = (((a % (m : Int)).toNat ^ n % m : Nat) : Int) := by
  have h1 := Int.emod_nonneg a (show (m : Int) ≠ 0 by omega)
  obtain ⟨A, hA⟩ := Int.eq_ofNat_of_zero_le h1
  rw [hA]
  simp

set_option maxHeartbeats 1000000 in
theorem refPower_any (a : Int) (n m : Nat) (w : World) (ha : -9223372036854775808 ≤ a ∧ a ≤ 9223372036854775807) (h0 : 0 < m) (hm : m ≤ 9223372036854775807) (hn : n ≤ 9223372036854775807) :
    Calls Tryz.prog 17 #[.int .i64 a, .int .i64 n, .int .i64 m] w fun e w' => e = .returned (.int .i64 (((a % (m : Int)).toNat ^ n % m : Nat) : Int)) ∧ Below w.heap.size w w' := by
  go_enter Tryz.func17, Tryz.ntmps17
  go_wp2_with fail
  refine (B_any a _ ha.1 ha.2).mono ?_
  rintro e w1 ⟨b1, rfl, p1, i1, k1⟩
  have s1 : Slot (w.alloc (.cells #[.bool false, .slice none 0 0] 51)) w.heap.size := slot_new w _ _
  have s2 : Slot ((w.alloc (.cells #[.bool false, .slice none 0 0] 51)).alloc (.cells #[.bool false, .slice none 0 0] 51)) (w.heap.size + 1) := by
    have h := slot_new (w.alloc (.cells #[.bool false, .slice none 0 0] 51)) (.bool false) (.slice none 0 0)
    simpa using h
  have S1 : Hid (Slot w1 w.heap.size) := (s1.below (Below.alloc_self _ _) (Nat.le_refl _)).below k1 (Nat.le_refl _)
  have S2 : Hid (Slot w1 (w.heap.size + 1)) := s2.below k1 (Nat.le_refl _)
  have I1 : Hid (BigAt w1 b1 a) := i1
  have z1 := k1.size
  simp at z1
  have K1 : Hid (Below w.heap.size w w1) := ((Below.alloc_self w _).trans ((Below.alloc_self _ _).mono (by simp))).trans (k1.mono (by simp; omega))
  clear i1 k1 p1 s1 s2
  go_wp2_with fail
  refine (B_any (m : Int) _ (by omega) (by omega)).mono ?_
  rintro e w2 ⟨b2, rfl, p2, i2, k2⟩
  have z2 := k2.size
  have S1' : Hid (Slot w2 w.heap.size) := S1.out.below k2 (Nat.le_refl _)
  have S2' : Hid (Slot w2 (w.heap.size + 1)) := S2.out.below k2 (Nat.le_refl _)
  have I1' : Hid (BigAt w2 b1 a) := I1.out.below k2 (Nat.le_refl _)
  have I2 : Hid (BigAt w2 b2 (m : Int)) := i2
  have K2 : Hid (Below w.heap.size w w2) := K1.out.trans (k2.mono (by omega))
  clear i2 k2 p2 S1 S2 I1 K1
  go_wp2_with fail
  refine (Mod_any (w.heap.size + 1) b1 b2 a (m : Int) 2 2 w2 S2'.out I1'.out I2.out (by omega) (lt_pw2 ha.1 ha.2) (lt_pw2 (by omega) (by omega)) (by omega) (by omega)).mono ?_
  have hpc := pow_cast a n m h0
  have hrl : (a % (m : Int)).toNat ^ n % m < m := Nat.mod_lt _ h0
  have r0 := Int.emod_nonneg a (show (m : Int) ≠ 0 by omega)
  have r1 := Int.emod_lt_of_pos a (show 0 < (m : Int) by omega)
  obtain ⟨R, gR⟩ : ∃ R, R = (a % (m : Int)).toNat ^ n % m := ⟨_, rfl⟩
  rw [← gR] at hpc hrl
  obtain ⟨A, gA⟩ : ∃ A, A = a % (m : Int) := ⟨_, rfl⟩
  rw [← gA] at hpc r0 r1 ⊢
  have HR : Hid (A ^ n % (m : Int) = (R : Int)) := hpc
  have HRR : Hid ((a % (m : Int)).toNat ^ n % m = R) := gR.symm
  rintro e w3 ⟨rfl, i3, u3⟩
  have z3 := u3.size
  have I3 : Hid (BigAt w3 (w.heap.size + 1) A) := i3
  have S3 : Hid (Slot w3 w.heap.size) := S1'.out.upd u3 (by omega)
  have K3 : Hid (Below w.heap.size w w3) := K2.out.trans (u3.below (by omega) (by omega))
  clear i3 u3 S1' S2' I1' I2 K2 hpc gR gA
  go_wp2_with fail
  refine (B_any (n : Int) _ (by omega) (by omega)).mono ?_
  rintro e w4 ⟨b4, rfl, p4, i4, k4⟩
  have z4 := k4.size
  have I4 : Hid (BigAt w4 b4 (n : Int)) := i4
  have I3' : Hid (BigAt w4 (w.heap.size + 1) A) := I3.out.below k4 (Nat.le_refl _)
  have S4 : Hid (Slot w4 w.heap.size) := S3.out.below k4 (Nat.le_refl _)
  have K4 : Hid (Below w.heap.size w w4) := K3.out.trans (k4.mono (by omega))
  clear i4 k4 p4 I3 K3 S3
  go_wp2_with fail
  refine (B_any (m : Int) _ (by omega) (by omega)).mono ?_
  rintro e w5 ⟨b5, rfl, p5, i5, k5⟩
  have z5 := k5.size
  have I5 : Hid (BigAt w5 b5 (m : Int)) := i5
  have I4' : Hid (BigAt w5 b4 (n : Int)) := I4.out.below k5 (Nat.le_refl _)
  have I3 : Hid (BigAt w5 (w.heap.size + 1) A) := I3'.out.below k5 (Nat.le_refl _)
  have S5 : Hid (Slot w5 w.heap.size) := S4.out.below k5 (Nat.le_refl _)
  have K5 : Hid (Below w.heap.size w w5) := K4.out.trans (k5.mono (by omega))
  clear i5 k5 p5 I3' I4 K4 S4
  go_wp2_with fail
  refine (Exp_mod w.heap.size (w.heap.size + 1) b4 b5 A n m 2 2 2 w5 S5.out I3.out I4'.out I5.out h0 (lt_pw2 (by omega) (by omega)) (by rw [pw_two]; omega) (by rw [pw_two]; omega) (by omega) (by omega) (by omega)).mono ?_
  rw [HR.out]
  rintro e w6 ⟨rfl, i6, u6⟩
  have z6 := u6.size
  have I6 : Hid (BigAt w6 w.heap.size (R : Int)) := i6
  have K6 : Hid (Below w.heap.size w w6) := K5.out.trans (u6.below (by omega) (Nat.le_refl _))
  clear i6 u6 I3 I4' I5 S5 K5
  go_wp2_with fail
  refine (Int64_any w.heap.size (R : Int) w6 I6.out (by omega)).mono ?_
  rintro e w7 ⟨rfl, q, rfl⟩
  have er : (R : Int) % (m : Int) = (R : Int) := Int.emod_eq_of_lt (by omega) (by omega)
  have er2 : (R : Int).tmod (m : Int) = (R : Int) := (Int.tmod_eq_emod_of_nonneg (by omega)).trans er
  have tt : ((m : Int) == 0) = false := beq_eq_false_iff_ne.2 (by omega)
  go_wp2
  go_ret
  rw [HRR.out]
  exact ⟨rfl, below_drewN' K6.out⟩

end Go.Proofs.YtknmfohipdjlpabGreatDoor
