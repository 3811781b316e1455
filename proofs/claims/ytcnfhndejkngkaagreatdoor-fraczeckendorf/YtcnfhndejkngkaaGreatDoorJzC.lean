import Derived.Test.YtcnfhndejkngkaaGreatDoorRows
import Derived.Test.YtcnfhndejkngkaaGreatDoorJzA
import Derived.WalkKit
import Derived.WalkSpells
import Derived.WalkLawsBesides
import Derived.Deep.QuietTactic
import Derived.BigQuiet
section
/- Contracts of package whole's plain functions (isNumber, size, sign, gcd, euclid, bezout, left) over this translation. -/
set_option linter.unusedSimpArgs false
set_option linter.unusedVariables false
set_option maxRecDepth 100000
namespace Go.Proofs.YtcnfhndejkngkaaGreatDoor
open Go.RowKit

theorem ret_int {k : IntKind} {a b : Int} (h : a = b) : Ending.returned (.int k a) = .returned (.int k b) := by rw [h]
theorem ret3 {k1 k2 k3 : IntKind} {a b c a' b' c' : Int} (h1 : a = a') (h2 : b = b') (h3 : c = c') : Ending.returned (.tuple #[.int k1 a, .int k2 b, .int k3 c]) = .returned (.tuple #[.int k1 a', .int k2 b', .int k3 c']) := by rw [h1, h2, h3]
theorem ret_bool {a b : Bool} (h : a = b) : Ending.returned (.bool a) = .returned (.bool b) := by rw [h]

def numB (n : Int) : Bool := decide (-1000000000000000000 ≤ n) && decide (n ≤ 1000000000000000000)
theorem numB_true {n : Int} (h : numB n = true) : -1000000000000000000 ≤ n ∧ n ≤ 1000000000000000000 := by
  simpa [numB] using h
theorem numB_mk {n : Int} (h1 : -1000000000000000000 ≤ n) (h2 : n ≤ 1000000000000000000) : numB n = true := by
  simp [numB, h1, h2]
theorem numB_false {n : Int} (h : numB n = false) : n < -1000000000000000000 ∨ 1000000000000000000 < n := by
  simp [numB] at h; omega

theorem isNumber_any (n : Int) (w : World) :
    Calls Tryz.prog 64 #[.int .i64 n] w fun e w' => e = .returned (.bool (numB n)) ∧ w' = w := by
  by_cases h1 : -1000000000000000000 ≤ n <;> by_cases h2 : n ≤ 1000000000000000000
  all_goals
    go_enter Tryz.func64, Tryz.ntmps64
    go_wp2
    go_ret
    exact ⟨ret_bool (by simp [numB, *] <;> omega), rfl⟩

theorem size_any (n : Int) (w : World) (h1 : -9223372036854775807 ≤ n) (h2 : n ≤ 9223372036854775807) :
    Calls Tryz.prog 124 #[.int .i64 n] w fun e w' => e = .returned (.int .i64 (n.natAbs : Int)) ∧ w' = w := by
  by_cases h : n < 0
  all_goals
    go_enter Tryz.func124, Tryz.ntmps124
    go_wp2
    go_ret
    exact ⟨ret_int (by omega), rfl⟩

theorem sign_any (n : Int) (w : World) :
    Calls Tryz.prog 125 #[.int .i64 n] w fun e w' => e = .returned (.int .i64 n.sign) ∧ w' = w := by
  rcases Int.lt_trichotomy n 0 with h | h | h
  all_goals
    go_enter Tryz.func125, Tryz.ntmps125
    go_wp2
    go_ret
    refine ⟨ret_int ?_, rfl⟩
  · exact (Int.sign_eq_neg_one_of_neg h).symm
  · subst h; rfl
  · exact (Int.sign_eq_one_of_pos h).symm

theorem gcd_any (a b : Int) (w : World) (ha : a.natAbs ≤ 1000000000000000000) (hb : b.natAbs ≤ 1000000000000000000) :
    Calls Tryz.prog 97 #[.int .i64 a, .int .i64 b] w fun e w' => e = .returned (.int .i64 (Int.gcd a b : Int)) ∧ ∃ n, w' = w.drewN n := by
  go_enter Tryz.func97, Tryz.ntmps97
  go_wp2
  go_loopw [0, 1] (fun x y wr => ∃ p q : Int, x = .int .i64 p ∧ y = .int .i64 q ∧ p.natAbs ≤ 1000000000000000000 ∧ q.natAbs ≤ 1000000000000000000 ∧ Int.gcd p q = Int.gcd a b ∧ ∃ n, wr = w.drewN n) (fun _ y _ => (intOf y).natAbs)
  case atStart => exact ⟨a, b, rfl, rfl, ha, hb, rfl, 0, rfl⟩
  case round =>
    obtain ⟨p, q, rfl, rfl, hp, hq, hg, n, rfl⟩ := hrel
    have HG : Hid (Int.gcd p q = Int.gcd a b) := hg
    clear hg
    by_cases h0 : q = 0
    · subst h0
      go_wp2_with (go_at_call 124; refine (size_any _ _ (by omega) (by omega)).mono ?_; rintro e w' ⟨rfl, rfl⟩)
      go_ret
      refine ⟨ret_int ?_, n, rfl⟩
      rw [← HG.out, Int.gcd_zero_right]
    · have hs := MathA.natAbs_tmod_lt p q h0
      have hs2 := MathA.gcd_step p q
      have HS : Hid (Int.gcd q (p.tmod q) = Int.gcd p q) := hs2
      clear hs2
      go_wp2
      go_region
      all_goals
        go_wp2
        go_roundw
        case rel => exact ⟨q, p.tmod q, rfl, rfl, hq, by omega, HS.out.trans HG.out, n + 1, rfl⟩
        case measure => simpa [intOf] using hs

set_option maxHeartbeats 1000000 in
theorem euclid_any (a b : Int) (w : World) (ha : a.natAbs ≤ 1000000000000000000) (hb : b.natAbs ≤ 1000000000000000000) (h0 : b ≠ 0) :
    Calls Tryz.prog 126 #[.int .i64 a, .int .i64 b] w fun e w' => ∃ u v : Int, e = .returned (.tuple #[.int .i64 (Int.gcd a b : Int), .int .i64 u, .int .i64 v]) ∧
      u * a + v * b = (Int.gcd a b : Int) ∧ u.natAbs < b.natAbs / Int.gcd a b ∧ v.natAbs ≤ 1000000000000000000 ∧ ∃ n, w' = w.drewN n := by
  have HE : Hid (MathA.Eu a b a b 1 0 0 1) := MathA.eu_start a b ha hb h0
  go_enter Tryz.func126, Tryz.ntmps126
  go_wp2
  go_loopw [0, 1, 5, 6, 7, 8] (fun x y s t s2 t2 wr => ∃ p q u v nu nv : Int, x = .int .i64 p ∧ y = .int .i64 q ∧ s = .int .i64 u ∧ t = .int .i64 v ∧ s2 = .int .i64 nu ∧ t2 = .int .i64 nv ∧ MathA.Eu a b p q u v nu nv ∧ ∃ n, wr = w.drewN n) (fun _ y _ _ _ _ _ => (intOf y).natAbs)
  case atStart => exact ⟨a, b, 1, 0, 0, 1, rfl, rfl, rfl, rfl, rfl, rfl, HE.out, 0, rfl⟩
  case round =>
    obtain ⟨p, q, u, v, nu, nv, rfl, rfl, rfl, rfl, rfl, rfl, hE, n, rfl⟩ := hrel
    obtain ⟨b1, b2, b3, b4, b5, b6⟩ := MathA.eu_bounds hE
    by_cases hq : q = 0
    · subst hq
      obtain ⟨c1, c2, c3, c4⟩ := MathA.eu_end h0 hE
      have C1 : Hid (p.natAbs = Int.gcd a b) := c1
      have C3 : Hid (p = u * a + v * b) := c3
      clear c1 c3 hE HE
      by_cases hp : p < 0
      all_goals
        go_wp2
        go_ret3
      · refine ⟨-u, -v, ?_, ?_, by omega, by omega, n, rfl⟩
        · rw [← C1.out]; exact ret3 (by omega) rfl rfl
        · rw [← C1.out, Int.neg_mul, Int.neg_mul]; have := C3.out; omega
      · refine ⟨u, v, ?_, ?_, by omega, by omega, n, rfl⟩
        · rw [← C1.out]; exact ret3 (by omega) rfl rfl
        · rw [← C1.out]; have := C3.out; omega
    · obtain ⟨d1, d2, d3, d4, d5, d6⟩ := MathA.eu_step ha hb hE hq
      have D1 : Hid (MathA.Eu a b q (p - p.tdiv q * q) nu nv (u - p.tdiv q * nu) (v - p.tdiv q * nv)) := d1
      have D2 : Hid ((p - p.tdiv q * q).natAbs < q.natAbs) := d2
      clear d1 d2 hE HE
      go_wp2
      go_roundw
      case rel => exact ⟨q, _, nu, nv, _, _, rfl, rfl, rfl, rfl, rfl, rfl, D1.out, n, rfl⟩
      case measure => exact D2.out

end Go.Proofs.YtcnfhndejkngkaaGreatDoor
end

section
/- Contracts of package whole's bezout, left, Gcd, Bezout and what they call. -/
set_option linter.unusedSimpArgs false
set_option linter.unusedVariables false
set_option maxRecDepth 100000
namespace Go.Proofs.YtcnfhndejkngkaaGreatDoor
open Go.RowKit

theorem sign_self (x : Int) : x.sign * x = (x.natAbs : Int) := by
  rcases Int.lt_trichotomy x 0 with h | h | h
  · rw [Int.sign_eq_neg_one_of_neg h]; omega
  · subst h; rfl
  · rw [Int.sign_eq_one_of_pos h]; omega

theorem bez_fix (a b g u v : Int) (hg : 0 < g) (h : u * a + v * b = g) (ha : ∃ k, a = g * k) (hb : ∃ k, b = g * k) :
    (u + (b.natAbs : Int).tdiv g) * a + (v - b.sign * a.tdiv g) * b = g := by
  obtain ⟨x, rfl⟩ := ha
  obtain ⟨y, rfl⟩ := hb
  have e1 : (g * x).tdiv g = x := Int.mul_tdiv_cancel_left _ (by omega)
  have e2 : ((g * y).natAbs : Int).tdiv g = (y.natAbs : Int) := by
    rw [Int.natAbs_mul, Int.natCast_mul, Int.natAbs_of_nonneg (by omega)]; exact Int.mul_tdiv_cancel_left _ (by omega)
  have e3 : (g * y).sign = y.sign := by rw [Int.sign_mul, Int.sign_eq_one_of_pos hg, Int.one_mul]
  have e4 : (y.natAbs : Int) = y.sign * y := (sign_self y).symm
  rw [e1, e2, e3, e4, Int.add_mul, Int.sub_mul]
  have e5 : y.sign * y * (g * x) = y.sign * x * (g * y) := by simp only [Int.mul_assoc, Int.mul_comm, Int.mul_left_comm]
  omega

/-- What Bezout promises. -/
structure Bez (a b u v : Int) : Prop where
  lin : u * a + v * b = (Int.gcd a b : Int)
  nul : b = 0 → v = 0 ∧ u = a.sign
  low : b ≠ 0 → 0 ≤ u
  high : b ≠ 0 → u < (b.natAbs / Int.gcd a b : Nat)
  vb : v.natAbs ≤ 2000000000000000000

set_option maxHeartbeats 1000000 in
theorem bezout_any (a b : Int) (w : World) (ha : a.natAbs ≤ 1000000000000000000) (hb : b.natAbs ≤ 1000000000000000000) :
    Calls Tryz.prog 98 #[.int .i64 a, .int .i64 b] w fun e w' => ∃ u v : Int, e = .returned (.tuple #[.int .i64 (Int.gcd a b : Int), .int .i64 u, .int .i64 v]) ∧
      Bez a b u v ∧ ∃ n, w' = w.drewN n := by
  by_cases h0 : b = 0
  · subst h0
    have hq : (a.sign * a = (a.natAbs : Int)) := sign_self a
    have HQ : Hid (a.sign * a = (a.natAbs : Int)) := hq
    clear hq
    go_enter Tryz.func98, Tryz.ntmps98
    go_wp2_with (first | (go_at_call 124; refine (size_any _ _ (by omega) (by omega)).mono ?_; rintro e w' ⟨rfl, rfl⟩) | (go_at_call 125; refine (sign_any _ _).mono ?_; rintro e w' ⟨rfl, rfl⟩))
    go_ret3
    refine ⟨a.sign, 0, ret3 (by rw [Int.gcd_zero_right]) rfl rfl, ⟨?_, fun _ => ⟨rfl, rfl⟩, fun h => absurd rfl h, fun h => absurd rfl h, by decide⟩, 0, rfl⟩
    rw [Int.gcd_zero_right, HQ.out]; omega
  · have hgp : 0 < Int.gcd a b := Int.gcd_pos_of_ne_zero_right _ h0
    have hgb : (Int.gcd a b : Int) ∣ b := Int.gcd_dvd_right ..
    have hga : (Int.gcd a b : Int) ∣ a := Int.gcd_dvd_left ..
    have hdb : (b.natAbs : Int) / (Int.gcd a b : Int) ≤ 1000000000000000000 ∧ 0 ≤ (b.natAbs : Int) / (Int.gcd a b : Int) := by
      rw [← Int.natCast_ediv]; have := Nat.div_le_self b.natAbs (Int.gcd a b); generalize b.natAbs / Int.gcd a b = z at *; omega
    have hda : -1000000000000000000 ≤ b.sign * a.tdiv (Int.gcd a b : Int) ∧ b.sign * a.tdiv (Int.gcd a b : Int) ≤ 1000000000000000000 := by
      have h1 : (a.tdiv (Int.gcd a b : Int)).natAbs ≤ 1000000000000000000 := by
        rw [Int.natAbs_tdiv]; exact Nat.le_trans (Nat.div_le_self ..) ha
      rcases Int.lt_trichotomy b 0 with h | h | h
      · rw [Int.sign_eq_neg_one_of_neg h]; omega
      · exact absurd h h0
      · rw [Int.sign_eq_one_of_pos h]; omega
    go_enter Tryz.func98, Tryz.ntmps98
    go_wp2_with fail
    refine (euclid_any a b _ ha hb h0).mono ?_
    rintro e w1 ⟨u, v, rfl, hl, hu, hv, hw1⟩
    have HW : Hid (∃ n, w1 = w.drewN n) := hw1
    clear hw1
    have HL : Hid (u * a + v * b = (Int.gcd a b : Int)) := hl
    have HU : Hid (u.natAbs < b.natAbs / Int.gcd a b) := hu
    have hu2 : -1000000000000000000 ≤ u ∧ u ≤ 1000000000000000000 := by
      have := Nat.div_le_self b.natAbs (Int.gcd a b); omega
    clear hl hu
    by_cases hneg : u < 0
    · go_wp2_with (go_at_call 124; refine (size_any _ _ (by omega) (by omega)).mono ?_; rintro e w' ⟨rfl, rfl⟩)
      go_quiet ((go_at_call 125; exact Calls.quiet_of_same (sign_any _ _)))
      go_wp2
      go_ret3
      refine ⟨_, _, rfl, ⟨?_, fun h => absurd h h0, fun _ => ?_, fun _ => ?_, by omega⟩, ?_⟩
      · have := bez_fix a b (Int.gcd a b) u v (by omega) HL.out hga hgb
        rwa [Int.tdiv_eq_ediv_of_nonneg (by omega)] at this
      · have := HU.out; rw [← Int.natCast_ediv]; omega
      · rw [← Int.natCast_ediv]; omega
      · obtain ⟨n, rfl⟩ := HW.out; exact ⟨_, World.drewN_drewN ..⟩
    · go_wp2
      go_ret3
      exact ⟨u, v, rfl, ⟨HL.out, fun h => absurd h h0, fun _ => by omega, fun _ => by have := HU.out; omega, by omega⟩, HW.out⟩

end Go.Proofs.YtcnfhndejkngkaaGreatDoor
end
