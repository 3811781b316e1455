/- Contracts of package whole's bezout, left, Gcd, Bezout and what they call. -/
import Derived.Test.YtcbepaionliepaaWholeA
set_option linter.unusedSimpArgs false
set_option linter.unusedVariables false
set_option maxRecDepth 100000
namespace Go.Proofs.Ytcbepaionliepaa
open Go.RowKit

theorem sign_self (x : Int) : x.sign * x = (x.natAbs : Int) := by
  rcases Int.lt_trichotomy x 0 with h | h | h
  · rw [Int.sign_eq_neg_one_of_neg h]; omega
  · subst h; rfl
  · rw [Int.sign_eq_one_of_pos h]; omega

theorem bez_fix (a b g u v : Int) (hg : 0 < g) (h : u * a + v * b = g) (ha : ∃ k, a = g * k) (hb : ∃ k, b = g * k) :
    (u + (b.natAbs : Int).tdiv g) * a + (v - b.sign * a.tdiv g) * b = g := by
  obtain ⟨x, rfl⟩ := ha
  obtain ⟨y, rfl⟩ := hb
  have e1 : (g * x).tdiv g = x := Int.mul_tdiv_cancel_left _ (by omega)
  have e2 : ((g * y).natAbs : Int).tdiv g = (y.natAbs : Int) := by
    rw [Int.natAbs_mul, Int.natCast_mul, Int.natAbs_of_nonneg (by omega)]; exact Int.mul_tdiv_cancel_left _ (by omega)
  have e3 : (g * y).sign = y.sign := by rw [Int.sign_mul, Int.sign_eq_one_of_pos hg, Int.one_mul]
  have e4 : (y.natAbs : Int) = y.sign * y := (sign_self y).symm
  rw [e1, e2, e3, e4, Int.add_mul, Int.sub_mul]
  have e5 : y.sign * y * (g * x) = y.sign * x * (g * y) := by simp only [Int.mul_assoc, Int.mul_comm, Int.mul_left_comm]
  omega

/-- What Bezout promises. -/
structure Bez (a b u v : Int) : Prop where
  lin : u * a + v * b = (Int.gcd a b : Int)
  nul : b = 0 → v = 0 ∧ u = a.sign
  low : b ≠ 0 → 0 ≤ u
  high : b ≠ 0 → u < (b.natAbs / Int.gcd a b : Nat)
  vb : v.natAbs ≤ 2000000000000000000

set_option maxHeartbeats 1000000 in
theorem bezout_any (a b : Int) (w : World) (ha : a.natAbs ≤ 1000000000000000000) (hb : b.natAbs ≤ 1000000000000000000) :
    Calls Try.prog 43 #[.int .i64 a, .int .i64 b] w fun e w' => ∃ u v : Int, e = .returned (.tuple #[.int .i64 (Int.gcd a b : Int), .int .i64 u, .int .i64 v]) ∧
      Bez a b u v ∧ ∃ n, w' = w.drewN n := by
  by_cases h0 : b = 0
  · subst h0
    have hq : (a.sign * a = (a.natAbs : Int)) := sign_self a
    have HQ : Hid (a.sign * a = (a.natAbs : Int)) := hq
    clear hq
    go_enter Try.func43, Try.ntmps43
    go_wp2_with (first | (go_at_call 58; refine (size_any _ _ (by omega) (by omega)).mono ?_; rintro e w' ⟨rfl, rfl⟩) | (go_at_call 59; refine (sign_any _ _).mono ?_; rintro e w' ⟨rfl, rfl⟩))
    go_ret3
    refine ⟨a.sign, 0, ret3 (by rw [Int.gcd_zero_right]) rfl rfl, ⟨?_, fun _ => ⟨rfl, rfl⟩, fun h => absurd rfl h, fun h => absurd rfl h, by decide⟩, 0, rfl⟩
    rw [Int.gcd_zero_right, HQ.out]; omega
  · have hgp : 0 < Int.gcd a b := Int.gcd_pos_of_ne_zero_right _ h0
    have hgb : (Int.gcd a b : Int) ∣ b := Int.gcd_dvd_right ..
    have hga : (Int.gcd a b : Int) ∣ a := Int.gcd_dvd_left ..
    have hdb : (b.natAbs : Int) / (Int.gcd a b : Int) ≤ 1000000000000000000 ∧ 0 ≤ (b.natAbs : Int) / (Int.gcd a b : Int) := by
      rw [← Int.natCast_ediv]; have := Nat.div_le_self b.natAbs (Int.gcd a b); generalize b.natAbs / Int.gcd a b = z at *; omega
    have hda : -1000000000000000000 ≤ b.sign * a.tdiv (Int.gcd a b : Int) ∧ b.sign * a.tdiv (Int.gcd a b : Int) ≤ 1000000000000000000 := by
      have h1 : (a.tdiv (Int.gcd a b : Int)).natAbs ≤ 1000000000000000000 := by
        rw [Int.natAbs_tdiv]; exact Nat.le_trans (Nat.div_le_self ..) ha
      rcases Int.lt_trichotomy b 0 with h | h | h
      · rw [Int.sign_eq_neg_one_of_neg h]; omega
      · exact absurd h h0
      · rw [Int.sign_eq_one_of_pos h]; omega
    go_enter Try.func43, Try.ntmps43
    go_wp2_with fail
    refine (euclid_any a b _ ha hb h0).mono ?_
    rintro e w1 ⟨u, v, rfl, hl, hu, hv, hw1⟩
    have HW : Hid (∃ n, w1 = w.drewN n) := hw1
    clear hw1
    have HL : Hid (u * a + v * b = (Int.gcd a b : Int)) := hl
    have HU : Hid (u.natAbs < b.natAbs / Int.gcd a b) := hu
    have hu2 : -1000000000000000000 ≤ u ∧ u ≤ 1000000000000000000 := by
      have := Nat.div_le_self b.natAbs (Int.gcd a b); omega
    clear hl hu
    by_cases hneg : u < 0
    · go_wp2_with (go_at_call 58; refine (size_any _ _ (by omega) (by omega)).mono ?_; rintro e w' ⟨rfl, rfl⟩)
      go_quiet ((go_at_call 59; exact Calls.quiet_of_same (sign_any _ _)))
      go_wp2
      go_ret3
      refine ⟨_, _, rfl, ⟨?_, fun h => absurd h h0, fun _ => ?_, fun _ => ?_, by omega⟩, ?_⟩
      · have := bez_fix a b (Int.gcd a b) u v (by omega) HL.out hga hgb
        rwa [Int.tdiv_eq_ediv_of_nonneg (by omega)] at this
      · have := HU.out; rw [← Int.natCast_ediv]; omega
      · rw [← Int.natCast_ediv]; omega
      · obtain ⟨n, rfl⟩ := HW.out; exact ⟨_, World.drewN_drewN ..⟩
    · go_wp2
      go_ret3
      exact ⟨u, v, rfl, ⟨HL.out, fun h => absurd h h0, fun _ => by omega, fun _ => by have := HU.out; omega, by omega⟩, HW.out⟩

end Go.Proofs.Ytcbepaionliepaa
