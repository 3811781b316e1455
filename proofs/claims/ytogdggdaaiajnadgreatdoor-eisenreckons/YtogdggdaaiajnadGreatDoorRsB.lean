/- The roots of 4 by 3 and by 5: residue.raised, noSquare, rootByOdd, rootsOfUnit, familyBy. -/
import Derived.Test.YtogdggdaaiajnadGreatDoorRsA
import Derived.Test.YtogdggdaaiajnadGreatDoorWholeI
import Derived.Test.YtogdggdaaiajnadGreatDoorRsK
set_option linter.unusedSimpArgs false
set_option linter.unusedVariables false
set_option maxRecDepth 100000
namespace Go.Proofs.YtogdggdaaiajnadGreatDoor
open Go.RowKit

theorem raised_zero (p : Nat) (w : World) : Calls Tryz.prog 161 #[.int .i64 p, .int .i64 0] w fun e w' => e = .returned (.int .i64 1) ∧ w' = w := by
  go_enter Tryz.func161, Tryz.ntmps161
  go_wp2
  go_loopw [5, 7] (fun av iv wx => av = .int .i64 1 ∧ iv = .int .i64 0 ∧ Hid (wx = w)) (fun _ _ _ => 0)
  case atStart => exact ⟨rfl, rfl, rfl⟩
  case round =>
    obtain ⟨rfl, rfl, HW⟩ := hrel
    go_wp2
    go_ret
    exact ⟨rfl, HW.out⟩

theorem raised_one (p : Nat) (w : World) (hp : p ≤ 100) : Calls Tryz.prog 161 #[.int .i64 p, .int .i64 1] w fun e w' => e = .returned (.int .i64 p) ∧ w' = w := by
  go_enter Tryz.func161, Tryz.ntmps161
  go_wp2
  go_loopw [5, 7] (fun av iv wx => ((av = .int .i64 1 ∧ iv = .int .i64 0) ∨ (av = .int .i64 p ∧ iv = .int .i64 1)) ∧ Hid (wx = w)) (fun _ iv _ => 1 - (intOf iv).toNat)
  case atStart => exact ⟨.inl ⟨rfl, rfl⟩, rfl⟩
  case round =>
    obtain ⟨⟨rfl, rfl⟩ | ⟨rfl, rfl⟩, HW⟩ := hrel
    · go_wp2
      go_roundw
      case rel => exact ⟨.inr ⟨rfl, rfl⟩, HW.out⟩
      case measure => simp [intOf]
    · go_wp2
      go_ret
      exact ⟨rfl, HW.out⟩

theorem jac_small : jac 1 3 = 1 ∧ jac 2 3 = -1 ∧ jac 1 5 = 1 ∧ jac 2 5 = -1 ∧ jac 4 5 = 1 := by
  refine ⟨jac_one 3, by have := jac_two 3 (by decide); simpa [twoS] using this, jac_one 5, by have := jac_two 5 (by decide); simpa [twoS] using this, ?_⟩
  have := jac_out 2 1 5 (by decide)
  rw [jac_one] at this
  simpa [twoS] using this

theorem sym1_is (n p b : Nat) (c : Bool) (w : World) (hb : w.cell? ⟨b, 0, none⟩ = some (.int .i64 p)) (hp : p = 3 ∨ p = 5) (hn : n = 1 ∨ n = 2) (hc : c = decide (n = 2)) (hT : Tb w) :
    Calls Tryz.prog 207 #[.int .i64 n, .pointer (some ⟨b, 0, none⟩)] w fun e w' => e = .returned (.bool c) ∧ w' = w := by
  have hj : (jac ((n : Int) % (p : Int)).toNat p == -1) = c := by
    obtain ⟨h1, h2, h3, h4, _⟩ := jac_small
    rcases hp with rfl | rfl <;> rcases hn with rfl | rfl <;> simp at hc <;> subst hc
    · exact (by rw [show (((1 : Nat) : Int) % ((3 : Nat) : Int)).toNat = 1 from rfl, h1]; rfl)
    · exact (by rw [show (((2 : Nat) : Int) % ((3 : Nat) : Int)).toNat = 2 from rfl, h2]; rfl)
    · exact (by rw [show (((1 : Nat) : Int) % ((5 : Nat) : Int)).toNat = 1 from rfl, h3]; rfl)
    · exact (by rw [show (((2 : Nat) : Int) % ((5 : Nat) : Int)).toNat = 2 from rfl, h4]; rfl)
  have HS : Hid (∀ w, Tb w → Calls Tryz.prog 189 #[.int .i64 n, .int .i64 p] w fun e w' => e = .returned (.int .i64 (jac ((n : Int) % (p : Int)).toNat p)) ∧ w' = w) := fun w h => symbol_any n p w (by omega) (by omega) (by omega) h
  obtain ⟨J, hJ⟩ : ∃ J, J = jac ((n : Int) % (p : Int)).toNat p := ⟨_, rfl⟩
  rw [← hJ] at hj HS
  have HT : Hid (Tb w) := hT
  clear hJ hT hp hn hc
  go_enter Tryz.func207, Tryz.ntmps207
  go_wp2_with fail
  refine (HS.out _ HT.out).mono ?_
  rintro e w1 ⟨rfl, rfl⟩
  go_wp2
  go_ret
  exact ⟨rfl, rfl⟩

theorem Least_is (p b : Nat) (w : World) (hb : w.cell? ⟨b, 0, none⟩ = some (.int .i64 p)) (hp : p = 3 ∨ p = 5) (hT : Tb w) :
    Calls Tryz.prog 206 #[.func (.func 207) #[] #[.pointer (some ⟨b, 0, none⟩)]] w fun e w' => e = .returned (.int .i64 2) ∧ w' = w := by
  have H1 : Hid (Calls Tryz.prog 207 #[.int .i64 1, .pointer (some ⟨b, 0, none⟩)] w fun e w' => e = .returned (.bool false) ∧ w' = w) := sym1_is 1 p b false w hb hp (.inl rfl) rfl hT
  have H2 : Hid (Calls Tryz.prog 207 #[.int .i64 2, .pointer (some ⟨b, 0, none⟩)] w fun e w' => e = .returned (.bool true) ∧ w' = w) := sym1_is 2 p b true w hb hp (.inr rfl) rfl hT
  clear hb hp hT
  go_enter Tryz.func206, Tryz.ntmps206
  go_wp2
  go_loopw [3] (fun nv wx => (nv = .int .i64 1 ∨ nv = .int .i64 2) ∧ Hid (wx = w)) (fun nv _ => 2 - (intOf nv).toNat)
  case atStart => exact ⟨.inl rfl, rfl⟩
  case round =>
    obtain ⟨rfl | rfl, HW⟩ := hrel
    · have hw := HW.out
      subst hw
      go_wp2_with fail
      refine H1.out.mono ?_
      rintro e w1 ⟨rfl, rfl⟩
      go_wp2
      go_roundw
      case rel => exact ⟨.inr rfl, by first | rfl | trivial⟩
      case measure => simp [intOf]
    · have hw := HW.out
      subst hw
      go_wp2_with fail
      refine H2.out.mono ?_
      rintro e w1 ⟨rfl, rfl⟩
      go_wp2
      go_ret
      exact ⟨rfl, rfl⟩

theorem noSquare_is (p : Nat) (w : World) (hp : p = 3 ∨ p = 5) (hT : Tb w) : Calls Tryz.prog 199 #[.int .i64 p] w fun e w' => e = .returned (.int .i64 2) ∧ Below w.heap.size w w' := by
  have HT : Hid (Tb w) := hT
  have HP : Hid (p = 3 ∨ p = 5) := hp
  clear hT hp
  go_enter Tryz.func199, Tryz.ntmps199
  go_wp2_with fail
  refine (Least_is p w.heap.size _ (by simp) HP.out (HT.out.alloc _)).mono ?_
  rintro e w1 ⟨rfl, rfl⟩
  go_wp2
  go_ret
  exact ⟨rfl, Below.alloc (Below.refl _ _) (Nat.le_refl _) _⟩

theorem tz_two (w : World) (hT : Tb w) : Calls Tryz.prog 173 #[.int .u64 2] w fun e w' => e = .returned (.int .i64 1) ∧ w' = w :=
  tz_core 2 1 1 w (by decide) (by decide) (by decide) (by decide) (hT 1 (by decide))
theorem tz_four (w : World) (hT : Tb w) : Calls Tryz.prog 173 #[.int .u64 4] w fun e w' => e = .returned (.int .i64 2) ∧ w' = w :=
  tz_core 4 2 3 w (by decide) (by decide) (by decide) (by decide) (hT 3 (by decide))

theorem pow_val (a n m r : Nat) (w : World) (h0 : 0 < m) (hm : m ≤ 100) (ha : a < 100) (hn : n ≤ 100) (hr : (a % m) ^ n % m = r) :
    Calls Tryz.prog 174 #[.int .i64 a, .int .i64 n, .int .i64 m] w fun e w' => e = .returned (.int .i64 r) ∧ Below w.heap.size w w' := by
  refine (modPower_any a n m w (by omega) h0 (by omega) (by omega)).mono ?_
  rintro e w' ⟨rfl, q, rfl⟩
  rw [show ((a : Int) % (m : Int)).toNat = a % m by rw [← Int.natCast_emod, Int.toNat_natCast], hr]
  exact ⟨rfl, below_drewN' (Below.refl _ _)⟩
theorem prod_val (a b m r : Nat) (w : World) (ha : a < m) (hb : b < m) (hm : m ≤ 100) (hr : a * b % m = r) :
    Calls Tryz.prog 117 #[.int .i64 a, .int .i64 b, .int .i64 m] w fun e w' => e = .returned (.int .i64 r) ∧ Below w.heap.size w w' := by
  refine (productLeft_any a b m w ha hb (by omega)).mono ?_
  rintro e w' ⟨rfl, q, rfl⟩
  rw [hr]
  exact ⟨rfl, below_drewN' (Below.refl _ _)⟩

set_option maxHeartbeats 1000000 in
theorem rootByOdd_3 (w : World) (hT : Tb w) : Calls Tryz.prog 190 #[.int .i64 1, .int .i64 3, .int .i64 3] w fun e w' => e = .returned (.int .i64 1) ∧ Below w.heap.size w w' := by
  have HT : Hid (Tb w) := hT
  clear hT
  go_enter Tryz.func190, Tryz.ntmps190
  go_wp2_with fail
  refine (tz_two w HT.out).mono ?_
  rintro e w1 ⟨rfl, rfl⟩
  go_wp2_with fail
  refine (pow_val 1 1 3 1 _ (by decide) (by decide) (by decide) (by decide) (by decide)).mono ?_
  rintro e w2 ⟨rfl, k2⟩
  have HT2 : Hid (Tb w2) := HT.out.below k2
  have K2 : Hid (Below w1.heap.size w1 w2) := k2
  clear k2 HT
  go_wp2_with fail
  refine (pow_val 1 1 3 1 _ (by decide) (by decide) (by decide) (by decide) (by decide)).mono ?_
  rintro e w3 ⟨rfl, k3⟩
  have HT3 : Hid (Tb w3) := HT2.out.below k3
  have K3 : Hid (Below w1.heap.size w1 w3) := K2.out.trans (k3.mono K2.out.size)
  clear k3 HT2 K2
  go_wp2_with fail
  refine (noSquare_is 3 w3 (.inl rfl) HT3.out).mono ?_
  rintro e w4 ⟨rfl, k4⟩
  have HT4 : Hid (Tb w4) := HT3.out.below k4
  have K4 : Hid (Below w1.heap.size w1 w4) := K3.out.trans (k4.mono K3.out.size)
  clear k4 HT3 K3
  go_wp2_with fail
  refine (pow_val 2 1 3 2 _ (by decide) (by decide) (by decide) (by decide) (by decide)).mono ?_
  rintro e w5 ⟨rfl, k5⟩
  have HT5 : Hid (Tb w5) := HT4.out.below k5
  have K5 : Hid (Below w1.heap.size w1 w5) := K4.out.trans (k5.mono K4.out.size)
  clear k5 HT4 K4
  go_wp2
  go_loopw [10, 11, 12, 44] (fun rv ov tv iv wx => rv = .int .i64 1 ∧ ov = .int .i64 1 ∧ tv = .int .i64 2 ∧ iv = .int .i64 0 ∧ Hid (wx = w5)) (fun _ _ _ _ _ => 0)
  case atStart => exact ⟨rfl, rfl, rfl, rfl, rfl⟩
  case round =>
    obtain ⟨rfl, rfl, rfl, rfl, HW⟩ := hrel
    go_wp2
    go_ret
    exact ⟨rfl, by rw [HW.out]; exact K5.out⟩

set_option maxHeartbeats 1000000 in
theorem rootByOdd_5 (w : World) (hT : Tb w) : Calls Tryz.prog 190 #[.int .i64 4, .int .i64 5, .int .i64 5] w fun e w' => e = .returned (.int .i64 3) ∧ Below w.heap.size w w' := by
  have HT : Hid (Tb w) := hT
  clear hT
  go_enter Tryz.func190, Tryz.ntmps190
  go_wp2_with fail
  refine (tz_four w HT.out).mono ?_
  rintro e w1 ⟨rfl, rfl⟩
  go_wp2_with fail
  refine (pow_val 4 1 5 4 _ (by decide) (by decide) (by decide) (by decide) (by decide)).mono ?_
  rintro e w2 ⟨rfl, k2⟩
  have HT2 : Hid (Tb w2) := HT.out.below k2
  have K2 : Hid (Below w1.heap.size w1 w2) := k2
  clear k2 HT
  go_wp2_with fail
  refine (pow_val 4 1 5 4 _ (by decide) (by decide) (by decide) (by decide) (by decide)).mono ?_
  rintro e w3 ⟨rfl, k3⟩
  have HT3 : Hid (Tb w3) := HT2.out.below k3
  have K3 : Hid (Below w1.heap.size w1 w3) := K2.out.trans (k3.mono K2.out.size)
  clear k3 HT2 K2
  go_wp2_with fail
  refine (noSquare_is 5 w3 (.inr rfl) HT3.out).mono ?_
  rintro e w4 ⟨rfl, k4⟩
  have HT4 : Hid (Tb w4) := HT3.out.below k4
  have K4 : Hid (Below w1.heap.size w1 w4) := K3.out.trans (k4.mono K3.out.size)
  clear k4 HT3 K3
  go_wp2_with fail
  refine (pow_val 2 1 5 2 _ (by decide) (by decide) (by decide) (by decide) (by decide)).mono ?_
  rintro e w5 ⟨rfl, k5⟩
  have K5 : Hid (Below w1.heap.size w1 w5) := K4.out.trans (k5.mono K4.out.size)
  clear k5 HT4 K4
  go_wp2
  go_loopw [10, 11, 12, 44] (fun rv ov tv iv wx => ((rv = .int .i64 4 ∧ ov = .int .i64 4 ∧ tv = .int .i64 2 ∧ iv = .int .i64 0) ∨ (rv = .int .i64 3 ∧ ov = .int .i64 1 ∧ tv = .int .i64 4 ∧ iv = .int .i64 1)) ∧ Hid (Below w1.heap.size w1 wx)) (fun _ _ _ iv _ => 1 - (intOf iv).toNat)
  case atStart => exact ⟨.inl ⟨rfl, rfl, rfl, rfl⟩, K5.out⟩
  case round =>
    obtain ⟨⟨rfl, rfl, rfl, rfl⟩ | ⟨rfl, rfl, rfl, rfl⟩, HK⟩ := hrel
    · go_wp2_with fail
      refine (prod_val 2 2 5 4 _ (by decide) (by decide) (by decide) (by decide)).mono ?_
      rintro e w6 ⟨rfl, k6⟩
      have K6 : Hid (Below w1.heap.size w1 w6) := HK.out.trans (k6.mono HK.out.size)
      clear k6 HK
      go_wp2_with fail
      refine (pow_val 4 1 5 4 _ (by decide) (by decide) (by decide) (by decide) (by decide)).mono ?_
      rintro e w7 ⟨rfl, k7⟩
      have K7 : Hid (Below w1.heap.size w1 w7) := K6.out.trans (k7.mono K6.out.size)
      clear k7 K6
      go_wp2_with fail
      refine (prod_val 4 2 5 3 _ (by decide) (by decide) (by decide) (by decide)).mono ?_
      rintro e w8 ⟨rfl, k8⟩
      have K8 : Hid (Below w1.heap.size w1 w8) := K7.out.trans (k8.mono K7.out.size)
      clear k8 K7
      go_wp2_with fail
      refine (prod_val 4 4 5 1 _ (by decide) (by decide) (by decide) (by decide)).mono ?_
      rintro e w9 ⟨rfl, k9⟩
      have K9 : Hid (Below w1.heap.size w1 w9) := K8.out.trans (k9.mono K8.out.size)
      clear k9 K8
      go_wp2
      go_roundw
      case rel => exact ⟨.inr ⟨rfl, rfl, rfl, rfl⟩, K9.out⟩
      case measure => simp [intOf]
    · go_wp2
      go_ret
      exact ⟨rfl, HK.out⟩

theorem rootsOfUnit_3 (w : World) (hT : Tb w) : Calls Tryz.prog 162 #[.int .i64 1, .int .i64 3, .int .i64 3] w fun e w' => ∃ g, e = .returned (.slice (some ⟨g, 0, none⟩) 2 2) ∧ w.heap.size ≤ g ∧ Cl g [.int .i64 1, .int .i64 2] 3 w' ∧ Below w.heap.size w w' := by
  have HT : Hid (Tb w) := hT
  have HS : Hid (Calls Tryz.prog 189 #[.int .i64 1, .int .i64 3] w fun e w' => e = .returned (.int .i64 1) ∧ w' = w) := by
    have := symbol_any 1 3 w (by decide) (by decide) (by decide) hT
    rw [show (((1 : Int)) % ((3 : Nat) : Int)).toNat = 1 from rfl, jac_small.1] at this
    exact this
  clear hT
  go_enter Tryz.func162, Tryz.ntmps162
  go_wp2_with fail
  refine HS.out.mono ?_
  rintro e w1 ⟨rfl, rfl⟩
  go_wp2_with fail
  refine (rootByOdd_3 _ HT.out).mono ?_
  rintro e w2 ⟨rfl, k2⟩
  have K2 : Hid (Below w1.heap.size w1 w2) := k2
  have z2 := k2.size
  clear k2
  go_wp2
  go_ret
  exact ⟨w2.heap.size, rfl, z2, Cl.new _ _ _, K2.out.alloc z2 _⟩

theorem rootsOfUnit_5 (w : World) (hT : Tb w) : Calls Tryz.prog 162 #[.int .i64 4, .int .i64 5, .int .i64 5] w fun e w' => ∃ g, e = .returned (.slice (some ⟨g, 0, none⟩) 2 2) ∧ w.heap.size ≤ g ∧ Cl g [.int .i64 3, .int .i64 2] 3 w' ∧ Below w.heap.size w w' := by
  have HT : Hid (Tb w) := hT
  have HS : Hid (Calls Tryz.prog 189 #[.int .i64 4, .int .i64 5] w fun e w' => e = .returned (.int .i64 1) ∧ w' = w) := by
    have := symbol_any 4 5 w (by decide) (by decide) (by decide) hT
    rw [show (((4 : Int)) % ((5 : Nat) : Int)).toNat = 4 from rfl, jac_small.2.2.2.2] at this
    exact this
  clear hT
  go_enter Tryz.func162, Tryz.ntmps162
  go_wp2_with fail
  refine HS.out.mono ?_
  rintro e w1 ⟨rfl, rfl⟩
  go_wp2_with fail
  refine (rootByOdd_5 _ HT.out).mono ?_
  rintro e w2 ⟨rfl, k2⟩
  have K2 : Hid (Below w1.heap.size w1 w2) := k2
  have z2 := k2.size
  clear k2
  go_wp2
  go_ret
  exact ⟨w2.heap.size, rfl, z2, Cl.new _ _ _, K2.out.alloc z2 _⟩

end Go.Proofs.YtogdggdaaiajnadGreatDoor
