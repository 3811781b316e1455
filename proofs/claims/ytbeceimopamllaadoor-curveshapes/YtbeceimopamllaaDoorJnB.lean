import Derived.Test.YtbeceimopamllaaDoorRows
import Derived.WalkKit
import Derived.WalkSpells
import Derived.WalkLawsBesides
import Derived.Deep.QuietTactic
import Derived.BigQuiet
import Derived.Laws.Bits64b
import Derived.Laws.MathBits
import Derived.Lib.Strings
import Derived.Lib.Slices
import Derived.Lib.Small
import Derived.Lib.Walk
import Derived.Lib.BitFns
section
/- Plain facts on whole numbers: Euclid's way with its cofactors, signs and bounds. Nothing of the program. -/
set_option linter.unusedSimpArgs false
set_option maxRecDepth 100000
namespace Go.Proofs.YtbeceimopamllaaDoor.MathA

theorem gcd_step (a b : Int) : Int.gcd b (a.tmod b) = Int.gcd a b := by
  unfold Int.gcd
  rw [Int.natAbs_tmod, Nat.gcd_comm b.natAbs, ← Nat.gcd_rec, Nat.gcd_comm]

theorem natAbs_tmod_lt (a b : Int) (hb : b ≠ 0) : (a.tmod b).natAbs < b.natAbs := by
  rw [Int.natAbs_tmod]; exact Nat.mod_lt _ (by omega)

/-- The state of the loop: what it started from, and the signs. -/
structure Eu (A B a b u v nu nv : Int) : Prop where
  lin : a = u * A + v * B
  lin2 : b = nu * A + nv * B
  st : ∃ (p r t s : Int) (α β U N V M : Nat), (p = 1 ∨ p = -1) ∧ (r = 1 ∨ r = -1) ∧ (t = 1 ∨ t = -1) ∧ (s = 1 ∨ s = -1) ∧
    a = p * α ∧ b = r * β ∧ u = -(p * r * t) * U ∧ nu = t * N ∧ v = -(p * r * s) * V ∧ nv = s * M ∧
    α * N + β * U = B.natAbs ∧ α * M + β * V = A.natAbs ∧ Nat.gcd α β = Int.gcd A B ∧
    U ≤ 1000000000000000000 ∧ N ≤ 1000000000000000000 ∧ V ≤ 1000000000000000000 ∧ M ≤ 1000000000000000000 ∧
    α ≤ 1000000000000000000 ∧ β ≤ 1000000000000000000 ∧ ((N = 0 ∧ U = 1 ∧ 0 < β) ∨ (β < α ∧ 1 ≤ N ∧ (β = 0 → U < N)))

theorem sgn_form (x : Int) : ∃ p : Int, (p = 1 ∨ p = -1) ∧ x = p * (x.natAbs : Nat) := by
  by_cases h : 0 ≤ x
  · exact ⟨1, Or.inl rfl, by omega⟩
  · exact ⟨-1, Or.inr rfl, by omega⟩

theorem eu_start (A B : Int) (hA : A.natAbs ≤ 1000000000000000000) (hB : B.natAbs ≤ 1000000000000000000) (hb : B ≠ 0) : Eu A B A B 1 0 0 1 := by
  refine ⟨by omega, by omega, ?_⟩
  obtain ⟨p, hp, ep⟩ := sgn_form A
  obtain ⟨r, hr, er⟩ := sgn_form B
  refine ⟨p, r, -(p * r), 1, A.natAbs, B.natAbs, 1, 0, 0, 1, hp, hr, ?_, Or.inl rfl, ep, er, ?_, by simp, by simp, by simp, by omega, by omega, rfl, by omega, by omega, by omega, by omega, hA, hB, Or.inl ⟨rfl, rfl, by omega⟩⟩
  · rcases hp with rfl | rfl <;> rcases hr with rfl | rfl <;> decide
  · rcases hp with rfl | rfl <;> rcases hr with rfl | rfl <;> decide

theorem tdiv_sgn (p r : Int) (α β : Nat) (hp : p = 1 ∨ p = -1) (hr : r = 1 ∨ r = -1) : (p * α).tdiv (r * β) = p * r * ((α / β : Nat) : Int) := by
  have e : (α : Int).tdiv (β : Int) = ((α / β : Nat) : Int) := (Int.ofNat_tdiv α β).symm
  rcases hp with rfl | rfl <;> rcases hr with rfl | rfl <;> simp [Int.neg_tdiv, Int.tdiv_neg, -Int.natCast_ediv, e]

theorem div_bound (α β K : Nat) (h : α ≤ K) : α / β * β ≤ K := Nat.le_trans (Nat.div_mul_le_self α β) h

/-- One round. -/
theorem eu_step {A B a b u v nu nv : Int} (hA : A.natAbs ≤ 1000000000000000000) (hB : B.natAbs ≤ 1000000000000000000) (h : Eu A B a b u v nu nv) (hb : b ≠ 0) :
    Eu A B b (a - a.tdiv b * b) nu nv (u - a.tdiv b * nu) (v - a.tdiv b * nv) ∧
    (a - a.tdiv b * b).natAbs < b.natAbs ∧
    (a.tdiv b).natAbs ≤ 1000000000000000000 ∧ (a.tdiv b * b).natAbs ≤ 1000000000000000000 ∧ (a.tdiv b * nu).natAbs ≤ 1000000000000000000 ∧ (a.tdiv b * nv).natAbs ≤ 1000000000000000000 := by
  obtain ⟨l1, l2, p, r, t, s, α, β, U, N, V, M, hp, hr, ht, hs, ea, eb, eu, enu, ev, env, i1, i2, ig, bU, bN, bV, bM, bα, bβ, hd⟩ := h
  have hβ : 0 < β := by
    rcases Nat.eq_zero_or_pos β with h0 | h0
    · subst h0; simp at eb; exact absurd eb hb
    · exact h0
  have q1 : a.tdiv b = p * r * ((α / β : Nat) : Int) := by rw [ea, eb]; exact tdiv_sgn p r α β hp hr
  have hmod : α % β < β := Nat.mod_lt _ hβ
  have hdm : β * (α / β) + α % β = α := Nat.div_add_mod α β
  generalize hq : α / β = q at *
  generalize hρ : α % β = ρ at *
  -- the new cofactors
  have j1 : β * (U + q * N) + ρ * N = B.natAbs := by
    rw [← i1, ← hdm]; simp only [Nat.mul_add, Nat.add_mul, Nat.mul_assoc, Nat.mul_comm, Nat.mul_left_comm]; omega
  have j2 : β * (V + q * M) + ρ * M = A.natAbs := by
    rw [← i2, ← hdm]; simp only [Nat.mul_add, Nat.add_mul, Nat.mul_assoc, Nat.mul_comm, Nat.mul_left_comm]; omega
  have k1 : U + q * N ≤ B.natAbs := by
    have : 1 * (U + q * N) ≤ β * (U + q * N) := Nat.mul_le_mul_right _ hβ
    omega
  have k2 : V + q * M ≤ A.natAbs := by
    have : 1 * (V + q * M) ≤ β * (V + q * M) := Nat.mul_le_mul_right _ hβ
    omega
  have kq : q ≤ α := by
    have : 1 * q ≤ β * q := Nat.mul_le_mul_right _ hβ
    omega
  have e1 : a.tdiv b * b = p * ((q * β : Nat) : Int) := by
    rw [q1, eb]; rcases hp with rfl | rfl <;> rcases hr with rfl | rfl <;> simp [Int.neg_mul, Int.mul_neg]
  have e2 : a.tdiv b * nu = p * r * t * ((q * N : Nat) : Int) := by
    rw [q1, enu]; rcases hp with rfl | rfl <;> rcases hr with rfl | rfl <;> rcases ht with rfl | rfl <;> simp [Int.neg_mul, Int.mul_neg]
  have e3 : a.tdiv b * nv = p * r * s * ((q * M : Nat) : Int) := by
    rw [q1, env]; rcases hp with rfl | rfl <;> rcases hr with rfl | rfl <;> rcases hs with rfl | rfl <;> simp [Int.neg_mul, Int.mul_neg]
  have e4 : a - a.tdiv b * b = p * (ρ : Int) := by
    rw [e1, ea]; have : (α : Int) = ((q * β : Nat) : Int) + ρ := by rw [← hdm, Nat.mul_comm β q]; omega
    rw [this]; rcases hp with rfl | rfl <;> omega
  refine ⟨⟨l2, ?_, r, p, -(p * r * t), -(p * r * s), β, ρ, N, U + q * N, M, V + q * M, hr, hp, ?_, ?_, eb, e4, ?_, ?_, ?_, ?_, j1, j2, ?_, bN, by omega, bM, by omega, bβ, by omega, ?_⟩, ?_, ?_, ?_, ?_, ?_⟩
  · have x1 : (u - a.tdiv b * nu) * A + (v - a.tdiv b * nv) * B = (u * A + v * B) - a.tdiv b * (nu * A + nv * B) := by
      simp only [Int.sub_mul, Int.mul_add, Int.mul_assoc]; omega
    rw [x1, ← l1, ← l2]
  · rcases hp with rfl | rfl <;> rcases hr with rfl | rfl <;> rcases ht with rfl | rfl <;> decide
  · rcases hp with rfl | rfl <;> rcases hr with rfl | rfl <;> rcases hs with rfl | rfl <;> decide
  · rw [enu]; rcases hp with rfl | rfl <;> rcases hr with rfl | rfl <;> rcases ht with rfl | rfl <;> simp [Int.neg_mul, Int.mul_neg]
  · rw [e2, eu]; rcases hp with rfl | rfl <;> rcases hr with rfl | rfl <;> rcases ht with rfl | rfl <;> omega
  · rw [env]; rcases hp with rfl | rfl <;> rcases hr with rfl | rfl <;> rcases hs with rfl | rfl <;> simp [Int.neg_mul, Int.mul_neg]
  · rw [e3, ev]; rcases hp with rfl | rfl <;> rcases hr with rfl | rfl <;> rcases hs with rfl | rfl <;> omega
  · rw [← ig, ← hρ, Nat.gcd_comm β, ← Nat.gcd_rec, Nat.gcd_comm]
  · right
    rcases hd with ⟨h1, h2, h3⟩ | ⟨h1, h2, h3⟩
    · subst h1 h2
      exact ⟨hmod, by omega, fun _ => by omega⟩
    · refine ⟨hmod, ?_, fun h0 => ?_⟩
      · have : 1 ≤ q := by
          rcases Nat.eq_zero_or_pos q with hz | hz
          · subst hz; omega
          · exact hz
        have : 1 * N ≤ q * N := Nat.mul_le_mul_right _ this
        omega
      · have : 2 ≤ q := by
          rcases Nat.lt_or_ge q 2 with hz | hz
          · have : q = 0 ∨ q = 1 := by omega
            rcases this with h | h <;> subst h <;> omega
          · exact hz
        have : 2 * N ≤ q * N := Nat.mul_le_mul_right _ this
        omega
  · rw [e4, eb]; rcases hp with rfl | rfl <;> rcases hr with rfl | rfl <;> omega
  · rw [q1]; rcases hp with rfl | rfl <;> rcases hr with rfl | rfl <;> omega
  · have : q * β ≤ α := by rw [Nat.mul_comm]; omega
    rw [e1]; rcases hp with rfl | rfl <;> omega
  · rw [e2]; rcases hp with rfl | rfl <;> rcases hr with rfl | rfl <;> rcases ht with rfl | rfl <;> omega
  · rw [e3]; rcases hp with rfl | rfl <;> rcases hr with rfl | rfl <;> rcases hs with rfl | rfl <;> omega

theorem eu_bounds {A B a b u v nu nv : Int} (h : Eu A B a b u v nu nv) :
    a.natAbs ≤ 1000000000000000000 ∧ b.natAbs ≤ 1000000000000000000 ∧ u.natAbs ≤ 1000000000000000000 ∧ v.natAbs ≤ 1000000000000000000 ∧ nu.natAbs ≤ 1000000000000000000 ∧ nv.natAbs ≤ 1000000000000000000 := by
  obtain ⟨_, _, p, r, t, s, α, β, U, N, V, M, hp, hr, ht, hs, ea, eb, eu, enu, ev, env, _, _, _, bU, bN, bV, bM, bα, bβ, _⟩ := h
  rw [ea, eb, eu, enu, ev, env]
  rcases hp with rfl | rfl <;> rcases hr with rfl | rfl <;> rcases ht with rfl | rfl <;> rcases hs with rfl | rfl <;> omega

/-- At the end: the greatest divisor, and a cofactor that is small. -/
theorem eu_end {A B a u v nu nv : Int} (hB : B ≠ 0) (h : Eu A B a 0 u v nu nv) :
    a.natAbs = Int.gcd A B ∧ u.natAbs < B.natAbs / Int.gcd A B ∧ a = u * A + v * B ∧ 0 < Int.gcd A B := by
  have hg : 0 < Int.gcd A B := Int.gcd_pos_of_ne_zero_right _ hB
  obtain ⟨l1, _, p, r, t, s, α, β, U, N, V, M, hp, hr, ht, hs, ea, eb, eu, enu, ev, env, i1, i2, ig, bU, bN, bV, bM, bα, bβ, hd⟩ := h
  have hβ : β = 0 := by rcases hr with rfl | rfl <;> omega
  subst hβ
  simp only [Nat.gcd_zero_right] at ig
  have hd' : U < N := by
    rcases hd with ⟨_, _, h3⟩ | ⟨_, _, h3⟩
    · omega
    · exact h3 rfl
  refine ⟨?_, ?_, l1, hg⟩
  · rw [ea, ← ig]; rcases hp with rfl | rfl <;> omega
  · have : B.natAbs / Int.gcd A B = N := by
      rw [← ig, ← i1]; simp only [Nat.zero_mul, Nat.add_zero]
      exact Nat.mul_div_cancel_left _ (by omega)
    rw [this, eu]; rcases hp with rfl | rfl <;> rcases hr with rfl | rfl <;> rcases ht with rfl | rfl <;> omega

end Go.Proofs.YtbeceimopamllaaDoor.MathA
end

section
/- Contracts of package whole's plain functions (isNumber, size, sign, gcd, euclid, bezout, left) over this translation. -/
set_option linter.unusedSimpArgs false
set_option linter.unusedVariables false
set_option maxRecDepth 100000
namespace Go.Proofs.YtbeceimopamllaaDoor
open Go.RowKit

theorem ret_int {k : IntKind} {a b : Int} (h : a = b) : Ending.returned (.int k a) = .returned (.int k b) := by rw [h]
theorem ret3 {k1 k2 k3 : IntKind} {a b c a' b' c' : Int} (h1 : a = a') (h2 : b = b') (h3 : c = c') : Ending.returned (.tuple #[.int k1 a, .int k2 b, .int k3 c]) = .returned (.tuple #[.int k1 a', .int k2 b', .int k3 c']) := by rw [h1, h2, h3]
theorem ret_bool {a b : Bool} (h : a = b) : Ending.returned (.bool a) = .returned (.bool b) := by rw [h]

def numB (n : Int) : Bool := decide (-1000000000000000000 ≤ n) && decide (n ≤ 1000000000000000000)
theorem numB_true {n : Int} (h : numB n = true) : -1000000000000000000 ≤ n ∧ n ≤ 1000000000000000000 := by
  simpa [numB] using h
theorem numB_mk {n : Int} (h1 : -1000000000000000000 ≤ n) (h2 : n ≤ 1000000000000000000) : numB n = true := by
  simp [numB, h1, h2]
theorem numB_false {n : Int} (h : numB n = false) : n < -1000000000000000000 ∨ 1000000000000000000 < n := by
  simp [numB] at h; omega

theorem isNumber_any (n : Int) (w : World) :
    Calls Tryd.prog 31 #[.int .i64 n] w fun e w' => e = .returned (.bool (numB n)) ∧ w' = w := by
  by_cases h1 : -1000000000000000000 ≤ n <;> by_cases h2 : n ≤ 1000000000000000000
  all_goals
    go_enter Tryd.func31, Tryd.ntmps31
    go_wp2
    go_ret
    exact ⟨ret_bool (by simp [numB, *] <;> omega), rfl⟩

theorem size_any (n : Int) (w : World) (h1 : -9223372036854775807 ≤ n) (h2 : n ≤ 9223372036854775807) :
    Calls Tryd.prog 88 #[.int .i64 n] w fun e w' => e = .returned (.int .i64 (n.natAbs : Int)) ∧ w' = w := by
  by_cases h : n < 0
  all_goals
    go_enter Tryd.func88, Tryd.ntmps88
    go_wp2
    go_ret
    exact ⟨ret_int (by omega), rfl⟩

theorem sign_any (n : Int) (w : World) :
    Calls Tryd.prog 89 #[.int .i64 n] w fun e w' => e = .returned (.int .i64 n.sign) ∧ w' = w := by
  rcases Int.lt_trichotomy n 0 with h | h | h
  all_goals
    go_enter Tryd.func89, Tryd.ntmps89
    go_wp2
    go_ret
    refine ⟨ret_int ?_, rfl⟩
  · exact (Int.sign_eq_neg_one_of_neg h).symm
  · subst h; rfl
  · exact (Int.sign_eq_one_of_pos h).symm

set_option maxHeartbeats 1000000 in
theorem euclid_any (a b : Int) (w : World) (ha : a.natAbs ≤ 1000000000000000000) (hb : b.natAbs ≤ 1000000000000000000) (h0 : b ≠ 0) :
    Calls Tryd.prog 90 #[.int .i64 a, .int .i64 b] w fun e w' => ∃ u v : Int, e = .returned (.tuple #[.int .i64 (Int.gcd a b : Int), .int .i64 u, .int .i64 v]) ∧
      u * a + v * b = (Int.gcd a b : Int) ∧ u.natAbs < b.natAbs / Int.gcd a b ∧ v.natAbs ≤ 1000000000000000000 ∧ ∃ n, w' = w.drewN n := by
  have HE : Hid (MathA.Eu a b a b 1 0 0 1) := MathA.eu_start a b ha hb h0
  go_enter Tryd.func90, Tryd.ntmps90
  go_wp2
  go_loopw [0, 1, 5, 6, 7, 8] (fun x y s t s2 t2 wr => ∃ p q u v nu nv : Int, x = .int .i64 p ∧ y = .int .i64 q ∧ s = .int .i64 u ∧ t = .int .i64 v ∧ s2 = .int .i64 nu ∧ t2 = .int .i64 nv ∧ MathA.Eu a b p q u v nu nv ∧ ∃ n, wr = w.drewN n) (fun _ y _ _ _ _ _ => (intOf y).natAbs)
  case atStart => exact ⟨a, b, 1, 0, 0, 1, rfl, rfl, rfl, rfl, rfl, rfl, HE.out, 0, rfl⟩
  case round =>
    obtain ⟨p, q, u, v, nu, nv, rfl, rfl, rfl, rfl, rfl, rfl, hE, n, rfl⟩ := hrel
    obtain ⟨b1, b2, b3, b4, b5, b6⟩ := MathA.eu_bounds hE
    by_cases hq : q = 0
    · subst hq
      obtain ⟨c1, c2, c3, c4⟩ := MathA.eu_end h0 hE
      have C1 : Hid (p.natAbs = Int.gcd a b) := c1
      have C3 : Hid (p = u * a + v * b) := c3
      clear c1 c3 hE HE
      by_cases hp : p < 0
      all_goals
        go_wp2
        go_ret3
      · refine ⟨-u, -v, ?_, ?_, by omega, by omega, n, rfl⟩
        · rw [← C1.out]; exact ret3 (by omega) rfl rfl
        · rw [← C1.out, Int.neg_mul, Int.neg_mul]; have := C3.out; omega
      · refine ⟨u, v, ?_, ?_, by omega, by omega, n, rfl⟩
        · rw [← C1.out]; exact ret3 (by omega) rfl rfl
        · rw [← C1.out]; have := C3.out; omega
    · obtain ⟨d1, d2, d3, d4, d5, d6⟩ := MathA.eu_step ha hb hE hq
      have D1 : Hid (MathA.Eu a b q (p - p.tdiv q * q) nu nv (u - p.tdiv q * nu) (v - p.tdiv q * nv)) := d1
      have D2 : Hid ((p - p.tdiv q * q).natAbs < q.natAbs) := d2
      clear d1 d2 hE HE
      go_wp2
      go_roundw
      case rel => exact ⟨q, _, nu, nv, _, _, rfl, rfl, rfl, rfl, rfl, rfl, D1.out, n, rfl⟩
      case measure => exact D2.out

end Go.Proofs.YtbeceimopamllaaDoor
end

section
/- Contracts of math/bits: Mul64, Len64, LeadingZeros64. -/
set_option linter.unusedSimpArgs false
set_option linter.unusedVariables false
set_option maxRecDepth 100000
namespace Go.Proofs.YtbeceimopamllaaDoor
open Go.RowKit

theorem ret2 {k1 k2 : IntKind} {a b a' b' : Int} (h1 : a = a') (h2 : b = b') : Ending.returned (.tuple #[.int k1 a, .int k2 b]) = .returned (.tuple #[.int k1 a', .int k2 b']) := by rw [h1, h2]

set_option maxHeartbeats 1000000 in
theorem Mul64_any (x y : Nat) (hx : x < 18446744073709551616) (hy : y < 18446744073709551616) (w : World) :
    Calls Tryd.prog 82 #[.int .u64 x, .int .u64 y] w fun e w' => e = .returned (.tuple #[.int .u64 ((x * y / 18446744073709551616 : Nat) : Int), .int .u64 ((x * y % 18446744073709551616 : Nat) : Int)]) ∧ w' = w := by
  have HA : Hid (((x * y / 18446744073709551616 : Nat) : Int) = (x : Int) * (y : Int) / 18446744073709551616 ∧ ((x * y % 18446744073709551616 : Nat) : Int) = (x : Int) * (y : Int) % 18446744073709551616) := by
    constructor <;> simp
  rw [HA.out.1, HA.out.2]
  have HM : Hid _ := mul64_arith (x : Int) (y : Int) (by omega) (by omega) (by omega) (by omega)
  have HX : Hid (bits .and .u64 (x : Int) 4294967295 = (x : Int) % 4294967296) := and_low32 _ (by omega) (by omega)
  have HY : Hid (bits .and .u64 (y : Int) 4294967295 = (y : Int) % 4294967296) := and_low32 _ (by omega) (by omega)
  clear HA hx hy
  go_enter Tryd.func82, Tryd.ntmps82
  go_wp2
  go_ret2
  refine ⟨ret2 ?_ ?_, rfl⟩
  · rw [HX.out, HY.out]
    simp only [IntKind.wrap_u64]
    rw [and_low32 _ (by omega) (by omega)]
    exact HM.out
  · rw [IntKind.wrap_u64]

set_option maxHeartbeats 1000000 in
set_option maxRecDepth 100000 in
theorem Len64_0 (x : Int) (w : World) (h0 : 0 ≤ x) (h1 : x ≤ 255) :
    Calls Tryd.prog 47 #[.int .u64 x] w fun e w' => e = .returned (.int .i64 (Lib.bitLen x.toNat)) ∧ w' = w := by
  have e1 : 0 ≤ x := by omega
  have e2 : x ≤ 255 := by omega
  have l := Lib.bitLen_le8' (x) e1 e2
  have HL : Hid (Lib.len8 (x) = (Lib.bitLen (x).toNat : Int)) := Lib.len8_of _ e1 e2
  go_enter Tryd.func47, Tryd.ntmps47
  go_wp2
  go_ret
  refine ⟨ret_int ?_, rfl⟩
  have hl := HL.out
  first | (rw [hl]; omega) | (simp only [wrap64, IntKind.wrap_i64]; rw [hl]; omega) | (rw [hl])

set_option maxHeartbeats 1000000 in
set_option maxRecDepth 100000 in
theorem Len64_8 (x : Int) (w : World) (h0 : 256 ≤ x) (h1 : x ≤ 65535) :
    Calls Tryd.prog 47 #[.int .u64 x] w fun e w' => e = .returned (.int .i64 (Lib.bitLen x.toNat)) ∧ w' = w := by
  have e1 : 0 ≤ x / 256 := by omega
  have e2 : x / 256 ≤ 255 := by omega
  have l := Lib.bitLen_le8' (x / 256) e1 e2
  have HL : Hid (Lib.len8 (x / 256) = (Lib.bitLen (x / 256).toNat : Int)) := Lib.len8_of _ e1 e2
  have HS : Hid (Lib.bitLen x.toNat = 8 + Lib.bitLen (x.toNat / 256)) := Lib.bitLen_shift8 x.toNat (by omega) (by omega)
  have HT : Hid ((x / 256).toNat = x.toNat / 256) := by show _ = _; omega
  go_enter Tryd.func47, Tryd.ntmps47
  go_wp2
  go_ret
  refine ⟨ret_int ?_, rfl⟩
  rw [HT.out] at l
  have hl := HL.out
  rw [HT.out] at hl
  rw [HS.out]
  first | (rw [hl]; omega) | (simp only [wrap64, IntKind.wrap_i64]; rw [hl]; omega)

set_option maxHeartbeats 1000000 in
set_option maxRecDepth 100000 in
theorem Len64_16 (x : Int) (w : World) (h0 : 65536 ≤ x) (h1 : x ≤ 16777215) :
    Calls Tryd.prog 47 #[.int .u64 x] w fun e w' => e = .returned (.int .i64 (Lib.bitLen x.toNat)) ∧ w' = w := by
  have e1 : 0 ≤ x / 65536 := by omega
  have e2 : x / 65536 ≤ 255 := by omega
  have l := Lib.bitLen_le8' (x / 65536) e1 e2
  have HL : Hid (Lib.len8 (x / 65536) = (Lib.bitLen (x / 65536).toNat : Int)) := Lib.len8_of _ e1 e2
  have HS : Hid (Lib.bitLen x.toNat = 16 + Lib.bitLen (x.toNat / 65536)) := Lib.bitLen_shift16 x.toNat (by omega) (by omega)
  have HT : Hid ((x / 65536).toNat = x.toNat / 65536) := by show _ = _; omega
  go_enter Tryd.func47, Tryd.ntmps47
  go_wp2
  go_ret
  refine ⟨ret_int ?_, rfl⟩
  rw [HT.out] at l
  have hl := HL.out
  rw [HT.out] at hl
  rw [HS.out]
  first | (rw [hl]; omega) | (simp only [wrap64, IntKind.wrap_i64]; rw [hl]; omega)

set_option maxHeartbeats 1000000 in
set_option maxRecDepth 100000 in
theorem Len64_24 (x : Int) (w : World) (h0 : 16777216 ≤ x) (h1 : x ≤ 4294967295) :
    Calls Tryd.prog 47 #[.int .u64 x] w fun e w' => e = .returned (.int .i64 (Lib.bitLen x.toNat)) ∧ w' = w := by
  have e1 : 0 ≤ x / 65536 / 256 := by omega
  have e2 : x / 65536 / 256 ≤ 255 := by omega
  have l := Lib.bitLen_le8' (x / 65536 / 256) e1 e2
  have HL : Hid (Lib.len8 (x / 65536 / 256) = (Lib.bitLen (x / 65536 / 256).toNat : Int)) := Lib.len8_of _ e1 e2
  have HS : Hid (Lib.bitLen x.toNat = 24 + Lib.bitLen (x.toNat / 16777216)) := Lib.bitLen_shift24 x.toNat (by omega) (by omega)
  have HT : Hid ((x / 65536 / 256).toNat = x.toNat / 16777216) := by show _ = _; omega
  go_enter Tryd.func47, Tryd.ntmps47
  go_wp2
  go_ret
  refine ⟨ret_int ?_, rfl⟩
  rw [HT.out] at l
  have hl := HL.out
  rw [HT.out] at hl
  rw [HS.out]
  first | (rw [hl]; omega) | (simp only [wrap64, IntKind.wrap_i64]; rw [hl]; omega)

set_option maxHeartbeats 1000000 in
set_option maxRecDepth 100000 in
theorem Len64_32 (x : Int) (w : World) (h0 : 4294967296 ≤ x) (h1 : x ≤ 1099511627775) :
    Calls Tryd.prog 47 #[.int .u64 x] w fun e w' => e = .returned (.int .i64 (Lib.bitLen x.toNat)) ∧ w' = w := by
  have e1 : 0 ≤ x / 4294967296 := by omega
  have e2 : x / 4294967296 ≤ 255 := by omega
  have l := Lib.bitLen_le8' (x / 4294967296) e1 e2
  have HL : Hid (Lib.len8 (x / 4294967296) = (Lib.bitLen (x / 4294967296).toNat : Int)) := Lib.len8_of _ e1 e2
  have HS : Hid (Lib.bitLen x.toNat = 32 + Lib.bitLen (x.toNat / 4294967296)) := Lib.bitLen_shift32 x.toNat (by omega) (by omega)
  have HT : Hid ((x / 4294967296).toNat = x.toNat / 4294967296) := by show _ = _; omega
  go_enter Tryd.func47, Tryd.ntmps47
  go_wp2
  go_ret
  refine ⟨ret_int ?_, rfl⟩
  rw [HT.out] at l
  have hl := HL.out
  rw [HT.out] at hl
  rw [HS.out]
  first | (rw [hl]; omega) | (simp only [wrap64, IntKind.wrap_i64]; rw [hl]; omega)

set_option maxHeartbeats 1000000 in
set_option maxRecDepth 100000 in
theorem Len64_40 (x : Int) (w : World) (h0 : 1099511627776 ≤ x) (h1 : x ≤ 281474976710655) :
    Calls Tryd.prog 47 #[.int .u64 x] w fun e w' => e = .returned (.int .i64 (Lib.bitLen x.toNat)) ∧ w' = w := by
  have e1 : 0 ≤ x / 4294967296 / 256 := by omega
  have e2 : x / 4294967296 / 256 ≤ 255 := by omega
  have l := Lib.bitLen_le8' (x / 4294967296 / 256) e1 e2
  have HL : Hid (Lib.len8 (x / 4294967296 / 256) = (Lib.bitLen (x / 4294967296 / 256).toNat : Int)) := Lib.len8_of _ e1 e2
  have HS : Hid (Lib.bitLen x.toNat = 40 + Lib.bitLen (x.toNat / 1099511627776)) := Lib.bitLen_shift40 x.toNat (by omega) (by omega)
  have HT : Hid ((x / 4294967296 / 256).toNat = x.toNat / 1099511627776) := by show _ = _; omega
  go_enter Tryd.func47, Tryd.ntmps47
  go_wp2
  go_ret
  refine ⟨ret_int ?_, rfl⟩
  rw [HT.out] at l
  have hl := HL.out
  rw [HT.out] at hl
  rw [HS.out]
  first | (rw [hl]; omega) | (simp only [wrap64, IntKind.wrap_i64]; rw [hl]; omega)

set_option maxHeartbeats 1000000 in
set_option maxRecDepth 100000 in
theorem Len64_48 (x : Int) (w : World) (h0 : 281474976710656 ≤ x) (h1 : x ≤ 72057594037927935) :
    Calls Tryd.prog 47 #[.int .u64 x] w fun e w' => e = .returned (.int .i64 (Lib.bitLen x.toNat)) ∧ w' = w := by
  have e1 : 0 ≤ x / 4294967296 / 65536 := by omega
  have e2 : x / 4294967296 / 65536 ≤ 255 := by omega
  have l := Lib.bitLen_le8' (x / 4294967296 / 65536) e1 e2
  have HL : Hid (Lib.len8 (x / 4294967296 / 65536) = (Lib.bitLen (x / 4294967296 / 65536).toNat : Int)) := Lib.len8_of _ e1 e2
  have HS : Hid (Lib.bitLen x.toNat = 48 + Lib.bitLen (x.toNat / 281474976710656)) := Lib.bitLen_shift48 x.toNat (by omega) (by omega)
  have HT : Hid ((x / 4294967296 / 65536).toNat = x.toNat / 281474976710656) := by show _ = _; omega
  go_enter Tryd.func47, Tryd.ntmps47
  go_wp2
  go_ret
  refine ⟨ret_int ?_, rfl⟩
  rw [HT.out] at l
  have hl := HL.out
  rw [HT.out] at hl
  rw [HS.out]
  first | (rw [hl]; omega) | (simp only [wrap64, IntKind.wrap_i64]; rw [hl]; omega)

set_option maxHeartbeats 1000000 in
set_option maxRecDepth 100000 in
theorem Len64_56 (x : Int) (w : World) (h0 : 72057594037927936 ≤ x) (h1 : x ≤ 18446744073709551615) :
    Calls Tryd.prog 47 #[.int .u64 x] w fun e w' => e = .returned (.int .i64 (Lib.bitLen x.toNat)) ∧ w' = w := by
  have e1 : 0 ≤ x / 4294967296 / 65536 / 256 := by omega
  have e2 : x / 4294967296 / 65536 / 256 ≤ 255 := by omega
  have l := Lib.bitLen_le8' (x / 4294967296 / 65536 / 256) e1 e2
  have HL : Hid (Lib.len8 (x / 4294967296 / 65536 / 256) = (Lib.bitLen (x / 4294967296 / 65536 / 256).toNat : Int)) := Lib.len8_of _ e1 e2
  have HS : Hid (Lib.bitLen x.toNat = 56 + Lib.bitLen (x.toNat / 72057594037927936)) := Lib.bitLen_shift56 x.toNat (by omega) (by omega)
  have HT : Hid ((x / 4294967296 / 65536 / 256).toNat = x.toNat / 72057594037927936) := by show _ = _; omega
  go_enter Tryd.func47, Tryd.ntmps47
  go_wp2
  go_ret
  refine ⟨ret_int ?_, rfl⟩
  rw [HT.out] at l
  have hl := HL.out
  rw [HT.out] at hl
  rw [HS.out]
  first | (rw [hl]; omega) | (simp only [wrap64, IntKind.wrap_i64]; rw [hl]; omega)

theorem Len64_int (x : Int) (w : World) (h0 : 0 ≤ x) (h1 : x ≤ 18446744073709551615) :
    Calls Tryd.prog 47 #[.int .u64 x] w fun e w' => e = .returned (.int .i64 (Lib.bitLen x.toNat)) ∧ w' = w := by
  rcases Int.lt_or_le x 256 with c | c
  · exact Len64_0 x w h0 (by omega)
  rcases Int.lt_or_le x 65536 with d1 | d1
  · exact Len64_8 x w (by omega) (by omega)
  rcases Int.lt_or_le x 16777216 with d2 | d2
  · exact Len64_16 x w (by omega) (by omega)
  rcases Int.lt_or_le x 4294967296 with d3 | d3
  · exact Len64_24 x w (by omega) (by omega)
  rcases Int.lt_or_le x 1099511627776 with d4 | d4
  · exact Len64_32 x w (by omega) (by omega)
  rcases Int.lt_or_le x 281474976710656 with d5 | d5
  · exact Len64_40 x w (by omega) (by omega)
  rcases Int.lt_or_le x 72057594037927936 with d6 | d6
  · exact Len64_48 x w (by omega) (by omega)
  exact Len64_56 x w (by omega) (by omega)

end Go.Proofs.YtbeceimopamllaaDoor
end

section
/- Plain facts: one digit of a division by two halves of 32 bits. Nothing of the program. -/
set_option linter.unusedSimpArgs false
set_option linter.unusedVariables false
set_option maxRecDepth 100000
namespace Go.Proofs.YtbeceimopamllaaDoor.MathB

/-- A guess q of the digit of (u B + n) / (v1 B + v0), with its rest r by v1. -/
structure Dg (u v1 v0 n q r : Nat) : Prop where
  lin : q * v1 + r = u
  up : (u * 4294967296 + n) / (v1 * 4294967296 + v0) ≤ q

theorem dg_start (u v1 v0 n : Nat) (h1 : 0 < v1) (hn : n < 4294967296) : Dg u v1 v0 n (u / v1) (u % v1) := by
  refine ⟨by rw [Nat.mul_comm]; exact Nat.div_add_mod u v1, ?_⟩
  have e1 : (u * 4294967296 + n) / (v1 * 4294967296 + v0) ≤ (u * 4294967296 + n) / (v1 * 4294967296) := Nat.div_le_div_left (by omega) (by omega)
  have e2 : (u * 4294967296 + n) / (v1 * 4294967296) = u / v1 := by
    rw [Nat.mul_comm v1, ← Nat.div_div_eq_div_mul]
    congr 1; omega
  omega

theorem dg_small (u v1 v0 n : Nat) (hn : n < 4294967296) (hu : u < v1 * 4294967296 + v0) : (u * 4294967296 + n) / (v1 * 4294967296 + v0) < 4294967296 := by
  rw [Nat.div_lt_iff_lt_mul (by omega)]
  omega

theorem dg_step {u v1 v0 n q r : Nat} (h : Dg u v1 v0 n q r) (hn : n < 4294967296) (hu : u < v1 * 4294967296 + v0) (hc : 4294967296 ≤ q ∨ 4294967296 * r + n < q * v0) : 1 ≤ q ∧ Dg u v1 v0 n (q - 1) (r + v1) := by
  have hs := dg_small u v1 v0 n hn hu
  have hlt : (u * 4294967296 + n) / (v1 * 4294967296 + v0) < q := by
    rcases hc with hc | hc
    · omega
    · rw [Nat.div_lt_iff_lt_mul (by omega)]
      have := h.lin
      have e : q * (v1 * 4294967296 + v0) = q * v1 * 4294967296 + q * v0 := by rw [Nat.mul_add, Nat.mul_assoc]
      rw [e]; omega
  have hq : 1 ≤ q := Nat.lt_of_le_of_lt (Nat.zero_le _) hlt
  refine ⟨hq, ?_, by omega⟩
  have := h.lin
  obtain ⟨k, rfl⟩ : ∃ k, q = k + 1 := ⟨q - 1, by omega⟩
  rw [Nat.add_mul] at this
  simp only [Nat.add_sub_cancel]; omega

theorem dg_low {u v1 v0 n q r : Nat} (h : Dg u v1 v0 n q r) (hu : u < v1 * 4294967296 + v0) (h0 : v0 < 4294967296) (hr : 4294967296 ≤ r) : q < 4294967296 := by
  have := h.lin
  rcases Nat.lt_or_ge q 4294967296 with c | c
  · exact c
  · have : 4294967296 * v1 ≤ q * v1 := Nat.mul_le_mul_right _ c
    omega

theorem dg_end {u v1 v0 n q r : Nat} (h : Dg u v1 v0 n q r) (hu : u < v1 * 4294967296 + v0) (h0 : v0 < 4294967296) (hc : q * v0 ≤ 4294967296 * r + n ∨ 4294967296 ≤ r) :
    q = (u * 4294967296 + n) / (v1 * 4294967296 + v0) := by
  have hlin := h.lin
  have hc' : q * v0 ≤ 4294967296 * r + n := by
    rcases hc with hc | hc
    · exact hc
    · have hq := dg_low h hu h0 hc
      have := Nat.mul_le_mul (show q ≤ 4294967295 by omega) (show v0 ≤ 4294967295 by omega)
      omega
  refine Nat.le_antisymm ?_ h.up
  rw [Nat.le_div_iff_mul_le (by omega), Nat.mul_add, ← Nat.mul_assoc]
  omega

/-- Two digits: the quotient and the rest. -/
theorem two_digits (u n1 n0 Y q1 q0 : Nat) (hY : 0 < Y) (h1 : q1 = (u * 4294967296 + n1) / Y) (h0 : q0 = ((u * 4294967296 + n1) % Y * 4294967296 + n0) / Y) :
    (u * 18446744073709551616 + (n1 * 4294967296 + n0)) / Y = q1 * 4294967296 + q0 ∧ (u * 18446744073709551616 + (n1 * 4294967296 + n0)) % Y = ((u * 4294967296 + n1) % Y * 4294967296 + n0) % Y := by
  have e : u * 18446744073709551616 + (n1 * 4294967296 + n0) = Y * (q1 * 4294967296) + ((u * 4294967296 + n1) % Y * 4294967296 + n0) := by
    have := Nat.div_add_mod (u * 4294967296 + n1) Y
    rw [← h1] at this
    rw [← Nat.mul_assoc]
    generalize (u * 4294967296 + n1) % Y = z at *
    generalize Y * q1 = t at *
    omega
  rw [e]
  constructor
  · rw [Nat.mul_add_div hY, h0]
  · rw [Nat.mul_add_mod]

/-- What is shifted: a dividend of 128 bits. -/
theorem shifted (hi lo y s : Nat) (hlo : lo < 18446744073709551616) (hs : s ≤ 63) (hlt : hi < y) :
    lo / 2 ^ (64 - s) < 2 ^ s ∧ (hi * 2 ^ s + lo / 2 ^ (64 - s)) * 18446744073709551616 + lo * 2 ^ s % 18446744073709551616 = (hi * 18446744073709551616 + lo) * 2 ^ s ∧ hi * 2 ^ s + lo / 2 ^ (64 - s) < y * 2 ^ s := by
  have e64 : 2 ^ (64 - s) * 2 ^ s = 18446744073709551616 := by
    rw [← Nat.pow_add, show 64 - s + s = 64 by omega]
  have hp : 0 < 2 ^ s := Nat.two_pow_pos s
  have hp2 : 0 < 2 ^ (64 - s) := Nat.two_pow_pos _
  have h1 : lo / 2 ^ (64 - s) < 2 ^ s := by
    rw [Nat.div_lt_iff_lt_mul hp2, Nat.mul_comm, e64]; exact hlo
  have h2 : lo * 2 ^ s / 18446744073709551616 = lo / 2 ^ (64 - s) := by
    rw [← e64]; exact Nat.mul_div_mul_right _ _ hp
  have h3 := Nat.div_add_mod (lo * 2 ^ s) 18446744073709551616
  rw [h2] at h3
  have h4 : (hi + 1) * 2 ^ s ≤ y * 2 ^ s := Nat.mul_le_mul_right _ hlt
  rw [Nat.add_mul] at h4
  refine ⟨h1, ?_, by omega⟩
  have h5 : (hi * 18446744073709551616 + lo) * 2 ^ s = hi * 2 ^ s * 18446744073709551616 + lo * 2 ^ s := by rw [Nat.add_mul, Nat.mul_right_comm]
  rw [h5]
  generalize hi * 2 ^ s = A at *
  generalize lo / 2 ^ (64 - s) = D at *
  generalize lo * 2 ^ s = C at *
  omega

/-- The quotient and the rest of what was shifted. -/
theorem unshifted (X y s Q R : Nat) (h : X * 2 ^ s / (y * 2 ^ s) = Q) (h2 : X * 2 ^ s % (y * 2 ^ s) = R) : X / y = Q ∧ X % y = R / 2 ^ s := by
  have hp : 0 < 2 ^ s := Nat.two_pow_pos s
  rw [Nat.mul_div_mul_right _ _ hp] at h
  rw [Nat.mul_mod_mul_right] at h2
  refine ⟨h, ?_⟩
  rw [← h2, Nat.mul_div_cancel _ hp]

end Go.Proofs.YtbeceimopamllaaDoor.MathB
end

section
/- Contracts of math/bits: LeadingZeros64, Div64, Rem64; and whole's productLeft. -/
set_option linter.unusedSimpArgs false
set_option linter.unusedVariables false
set_option maxRecDepth 100000
namespace Go.Proofs.YtbeceimopamllaaDoor
open Go.RowKit

theorem LeadingZeros64_any (x : Int) (w : World) (h0 : 0 ≤ x) (h1 : x ≤ 18446744073709551615) :
    Calls Tryd.prog 95 #[.int .u64 x] w fun e w' => e = .returned (.int .i64 (64 - (Lib.bitLen x.toNat : Int))) ∧ w' = w := by
  have hb : Lib.bitLen x.toNat ≤ 64 := Lib.bitLen_le x.toNat 64 (by omega) (by omega)
  go_enter Tryd.func95, Tryd.ntmps95
  go_wp2_with (go_at_call 47; refine (Len64_int _ _ h0 h1).mono ?_; rintro e w' ⟨rfl, rfl⟩)
  go_ret
  exact ⟨rfl, rfl⟩

theorem bl_spec (x : Nat) : x < 2 ^ 64 → x < 2 ^ Lib.bitLen x ∧ (x ≠ 0 → 2 ^ (Lib.bitLen x - 1) ≤ x) := by
  induction x using Nat.strongRecOn with
  | ind x ih =>
    intro hx
    by_cases h0 : x = 0
    · subst h0; exact ⟨Nat.two_pow_pos _, fun h => absurd rfl h⟩
    · have h1 := Lib.bitLen_half x h0 hx
      have h2 := ih (x / 2) (by omega) (by omega)
      generalize Lib.bitLen (x / 2) = b at *
      rw [h1]
      constructor
      · rw [Nat.pow_add]; omega
      · intro _
        have e : 1 + b - 1 = b := by omega
        rw [e]
        by_cases h3 : x / 2 = 0
        · have : b = 0 := by
            rcases Nat.eq_zero_or_pos b with k | k
            · exact k
            · have := h2.1; have h4 := h1
              exfalso
              have h5 : Lib.bitLen x = 1 := by
                have : x = 1 := by omega
                subst this; decide
              omega
          subst this; omega
        · have h4 := h2.2 h3
          have h5 : 0 < b := by
            rcases Nat.eq_zero_or_pos b with k | k
            · subst k; have := h2.1; simp at this; omega
            · exact k
          have e2 : 2 ^ b = 2 ^ (b - 1) * 2 := by rw [← Nat.pow_succ]; congr 1; omega
          omega

set_option maxHeartbeats 1000000 in
theorem Div64_low (lo y : Nat) (w : World) (hl : lo < 18446744073709551616) (hy : y < 18446744073709551616) (h : 0 < y) :
    Calls Tryd.prog 91 #[.int .u64 0, .int .u64 lo, .int .u64 y] w fun e w' => e = .returned (.tuple #[.int .u64 ((lo / y : Nat) : Int), .int .u64 ((lo % y : Nat) : Int)]) ∧ ∃ n, w' = w.drewN n := by
  have t1 : ((y : Int) == 0) = false := beq_eq_false_iff_ne.2 (by omega)
  have b1 : (lo : Int) ≤ 18446744073709551615 := by omega
  have b2 : (y : Int) ≤ 18446744073709551615 := by omega
  have hq : 0 ≤ (lo : Int) / (y : Int) ∧ (lo : Int) / (y : Int) ≤ 18446744073709551615 := by
    rw [← Int.natCast_ediv]; have := Nat.div_le_self lo y; generalize lo / y = z at *; omega
  clear hl hy
  go_enter Tryd.func91, Tryd.ntmps91
  go_wp2
  go_quiet (fail)
  go_wp2
  go_ret2
  exact ⟨ret2 (Int.natCast_ediv lo y).symm (Int.natCast_emod lo y).symm, _, rfl⟩

theorem mask_nat (a : Nat) (ha : a < 18446744073709551616) : bits .and .u64 (a : Int) 4294967295 = ((a % 4294967296 : Nat) : Int) := by
  rw [and_low32 (a : Int) (by omega) (by omega)]; simp
theorem wrapN (a : Nat) (ha : a < 18446744073709551616) : IntKind.u64.wrap (a : Int) = (a : Int) := by rw [IntKind.wrap_u64]; omega
theorem wrapM (a : Nat) : IntKind.u64.wrap (a : Int) = ((a % 18446744073709551616 : Nat) : Int) := by rw [IntKind.wrap_u64]; omega

theorem or_nat (a b s : Nat) (h : b < 2 ^ s) (h1 : a * 2 ^ s < 18446744073709551616) (h2 : b < 18446744073709551616) : bits .or .u64 ((a * 2 ^ s : Nat) : Int) (b : Int) = ((a * 2 ^ s + b : Nat) : Int) := by
  rw [bits_or_u64_nat _ _ h1 h2, Nat.mul_comm a, Nat.two_pow_add_eq_or_of_lt h]

theorem wrap_rem (u n q Y r : Nat) (h : u * 4294967296 + n = q * Y + r) (hr : r < 18446744073709551616) :
    IntKind.u64.wrap (IntKind.u64.wrap (IntKind.u64.wrap ((u : Int) * 4294967296) + (n : Int)) - IntKind.u64.wrap ((q : Int) * (Y : Int))) = (r : Int) := by
  simp only [IntKind.wrap_u64]
  have : (q : Int) * (Y : Int) = ((q * Y : Nat) : Int) := by simp
  rw [this]
  generalize q * Y = p at *
  omega

theorem cast_quo {hi lo y a b : Nat} (h : (hi * 18446744073709551616 + lo) / y = a * 4294967296 + b) : (a : Int) * 4294967296 + (b : Int) = ((hi : Int) * 18446744073709551616 + (lo : Int)) / (y : Int) := by
  have e : ((hi : Int) * 18446744073709551616 + (lo : Int)) / (y : Int) = (((hi * 18446744073709551616 + lo) / y : Nat) : Int) := by simp
  rw [e, h]; simp
theorem cast_rem {hi lo y R s : Nat} (h : (hi * 18446744073709551616 + lo) % y = R / 2 ^ s) : (R : Int) / 2 ^ s = ((hi : Int) * 18446744073709551616 + (lo : Int)) % (y : Int) := by
  have e : ((hi : Int) * 18446744073709551616 + (lo : Int)) % (y : Int) = (((hi * 18446744073709551616 + lo) % y : Nat) : Int) := by simp
  rw [e, h]; simp

theorem prod_leI2 (x y : Nat) (hx : x < 4294967296) (hy : y < 4294967296) : 0 ≤ (x : Int) * (y : Int) ∧ (x : Int) * (y : Int) ≤ 18446744065119617025 := by
  have := Nat.mul_le_mul (show x ≤ 4294967295 by omega) (show y ≤ 4294967295 by omega)
  rw [← Int.natCast_mul]; omega

set_option maxHeartbeats 4000000 in
set_option maxRecDepth 10000 in
/-- With the dividend shifted: u B^2 + n1 B + n0, the divisor Y = v1 B + v0. -/
theorem Div64_high (hi lo y : Nat) (w : World) (hl : lo < 18446744073709551616) (hy : y < 18446744073709551616) (h : 0 < hi) (hlt : hi < y) :
    Calls Tryd.prog 91 #[.int .u64 hi, .int .u64 lo, .int .u64 y] w fun e w' => e = .returned (.tuple #[.int .u64 (((hi * 18446744073709551616 + lo) / y : Nat) : Int), .int .u64 (((hi * 18446744073709551616 + lo) % y : Nat) : Int)]) ∧ w' = w := by
  have t1 : ((y : Int) == 0) = false := beq_eq_false_iff_ne.2 (by omega)
  have t2 : ((hi : Int) == 0) = false := beq_eq_false_iff_ne.2 (by omega)
  have b1 : (lo : Int) ≤ 18446744073709551615 := by omega
  have b2 : (y : Int) ≤ 18446744073709551615 := by omega
  obtain ⟨s, hs⟩ : ∃ s, s = 64 - Lib.bitLen y := ⟨_, rfl⟩
  have hbl : Lib.bitLen y ≤ 64 := Lib.bitLen_le y 64 (by omega) (by omega)
  have hbs := bl_spec y (by omega)
  have HS : Hid (64 - (Lib.bitLen (y : Int).toNat : Int) = (s : Int)) := by show _ = _; rw [Int.toNat_natCast]; omega
  have hb0 : Lib.bitLen y ≠ 0 := by intro e; rw [e] at hbs; have := hbs.1; simp at this; omega
  have s63 : s ≤ 63 := by omega
  have hp : y * 2 ^ s < 18446744073709551616 ∧ 9223372036854775808 ≤ y * 2 ^ s := by
    have e1 : 2 ^ Lib.bitLen y * 2 ^ s = 18446744073709551616 := by rw [← Nat.pow_add, show Lib.bitLen y + s = 64 by omega]
    have e2 : 2 ^ (Lib.bitLen y - 1) * 2 ^ s = 9223372036854775808 := by rw [← Nat.pow_add, show Lib.bitLen y - 1 + s = 63 by omega]
    constructor
    · rw [← e1]; exact Nat.mul_lt_mul_of_pos_right hbs.1 (Nat.two_pow_pos s)
    · rw [← e2]; exact Nat.mul_le_mul_right _ (hbs.2 (by omega))
  have hpi : (2 : Int) ^ s = ((2 ^ s : Nat) : Int) := by simp
  have hpj : (2 : Int) ^ (64 - s) = ((2 ^ (64 - s) : Nat) : Int) := by simp
  obtain ⟨f1, f2, f3⟩ := MathB.shifted hi lo y s hl s63 hlt
  have hhi : hi * 2 ^ s < 18446744073709551616 := Nat.lt_of_le_of_lt (Nat.le_add_right _ _) (Nat.lt_trans f3 hp.1)
  have eY : IntKind.u64.wrap ((y : Int) * 2 ^ s) = ((y * 2 ^ s : Nat) : Int) := by rw [hpi, ← Int.natCast_mul]; exact wrapN _ hp.1
  have eu : bits BinOp.or .u64 (IntKind.u64.wrap ((hi : Int) * 2 ^ s)) ((lo : Int) / 2 ^ (64 - s)) = ((hi * 2 ^ s + lo / 2 ^ (64 - s) : Nat) : Int) := by
    rw [hpi, hpj, ← Int.natCast_mul, wrapN _ hhi, ← Int.natCast_ediv]
    exact or_nat hi _ s f1 hhi (Nat.lt_of_le_of_lt (Nat.div_le_self ..) hl)
  have en : IntKind.u64.wrap ((lo : Int) * 2 ^ s) = ((lo * 2 ^ s % 18446744073709551616 : Nat) : Int) := by rw [hpi, ← Int.natCast_mul]; exact wrapM _
  have hn64 : lo * 2 ^ s % 18446744073709551616 < 18446744073709551616 := Nat.mod_lt _ (by omega)
  obtain ⟨Y, gY⟩ : ∃ Y, Y = y * 2 ^ s := ⟨_, rfl⟩
  obtain ⟨u, gu⟩ : ∃ u, u = hi * 2 ^ s + lo / 2 ^ (64 - s) := ⟨_, rfl⟩
  obtain ⟨n, gn⟩ : ∃ n, n = lo * 2 ^ s % 18446744073709551616 := ⟨_, rfl⟩
  rw [← gY] at hp eY f3
  rw [← gu] at eu f2 f3
  rw [← gn] at en f2 hn64
  have FX : Hid ((hi * 18446744073709551616 + lo) * 2 ^ s = u * 18446744073709551616 + n) := f2.symm
  have FY : Hid (Y = y * 2 ^ s) := gY
  clear gY gu gn f1 f2 hbs hbl hb0 hs hpi hpj hhi hl hy
  obtain ⟨v1, gv1⟩ : ∃ v1, v1 = Y / 4294967296 := ⟨_, rfl⟩
  obtain ⟨v0, gv0⟩ : ∃ v0, v0 = Y % 4294967296 := ⟨_, rfl⟩
  obtain ⟨n1, gn1⟩ : ∃ n1, n1 = n / 4294967296 := ⟨_, rfl⟩
  obtain ⟨n0, gn0⟩ : ∃ n0, n0 = n % 4294967296 := ⟨_, rfl⟩
  have eY1 : (Y : Int) / 4294967296 = (v1 : Int) := by omega
  have eY0 : bits BinOp.and .u64 (Y : Int) 4294967295 = (v0 : Int) := by rw [mask_nat Y hp.1, gv0]
  have en1 : (n : Int) / 4294967296 = (n1 : Int) := by omega
  have en0 : bits BinOp.and .u64 (n : Int) 4294967295 = (n0 : Int) := by rw [mask_nat n hn64, gn0]
  have GY : Hid (Y = v1 * 4294967296 + v0) := by show _ = _; omega
  have GN : Hid (n = n1 * 4294967296 + n0) := by show _ = _; omega
  have c1 : 2147483648 ≤ v1 := by omega
  have c2 : v1 < 4294967296 := by omega
  have c3 : v0 < 4294967296 := by omega
  have c4 : n1 < 4294967296 := by omega
  have c5 : n0 < 4294967296 := by omega
  have huY : u < v1 * 4294967296 + v0 := by omega
  have hY64 : Y < 18446744073709551616 := hp.1
  have hY0 : 9223372036854775808 ≤ Y := hp.2
  clear gv1 gv0 gn1 gn0 hn64 hp f3
  have hq := MathB.dg_start u v1 v0 n1 (by omega) c4
  have hr0 : u % v1 < v1 := Nat.mod_lt _ (by omega)
  have hq4 : u / v1 ≤ 8589934592 := by
    rw [Nat.div_le_iff_le_mul_add_pred (by omega)]
    have : 2147483648 * 8589934592 ≤ v1 * 8589934592 := Nat.mul_le_mul_right _ c1
    omega
  have eq1 : (u : Int) / (v1 : Int) = ((u / v1 : Nat) : Int) := (Int.natCast_ediv ..).symm
  obtain ⟨q, gq⟩ : ∃ q, q = u / v1 := ⟨_, rfl⟩
  obtain ⟨r, gr⟩ : ∃ r, r = u % v1 := ⟨_, rfl⟩
  rw [← gq] at hq hq4 eq1
  rw [← gr] at hq hr0
  have hlin : (q : Int) * (v1 : Int) + (r : Int) = (u : Int) := by have := hq.lin; rw [← this]; simp
  have er1 : (u : Int) - (q : Int) * (v1 : Int) = (r : Int) := by omega
  have hqv : 0 ≤ (q : Int) * (v1 : Int) ∧ (q : Int) * (v1 : Int) ≤ 18446744073709551615 := by
    rw [← Int.natCast_mul] at hlin ⊢; omega
  have HQ : Hid (MathB.Dg u v1 v0 n1 q r) := hq
  clear hq gq gr hlin
  go_enter Tryd.func91, Tryd.ntmps91
  go_wp2_with fail
  refine (LeadingZeros64_any _ _ (by omega) b2).mono ?_
  rw [HS.out]
  rintro e w' ⟨rfl, rfl⟩
  go_wp2
  go_loop [15, 16] (fun a b => ∃ q r : Nat, a = .int .u64 q ∧ b = .int .u64 r ∧ Hid (MathB.Dg u v1 v0 n1 q r ∧ r < 4294967296 ∧ q ≤ 8589934592)) (fun a _ => (intOf a).toNat)
  case atStart => exact ⟨q, r, rfl, rfl, ⟨HQ.out, by omega, hq4⟩⟩
  case round =>
    clear HQ eY eu en eY1 eY0 en1 en0 eq1 er1 hqv hr0 hq4
    obtain ⟨q, r, rfl, rfl, hd0⟩ := hrel
    obtain ⟨hd, hr, hq4⟩ := hd0.out
    clear hd0
    have HQ : Hid (MathB.Dg u v1 v0 n1 q r) := hd
    clear hd
    by_cases hA : 4294967296 ≤ q
    · obtain ⟨p1, p2⟩ := MathB.dg_step HQ.out c4 huY (Or.inl hA)
      have HQ' : Hid (MathB.Dg u v1 v0 n1 (q - 1) (r + v1)) := p2
      have hA' : (4294967296 : Int) ≤ (q : Int) := by omega
      clear p2 hA
      by_cases hB : 4294967296 ≤ r + v1
      · have hB' : (4294967296 : Int) ≤ (r : Int) + (v1 : Int) := by omega
        have E1' : q - 1 = (u * 4294967296 + n1) / Y := by rw [GY.out]; exact MathB.dg_end HQ'.out huY c3 (Or.inr hB)
        obtain ⟨k1, gk⟩ : ∃ k1, k1 = q - 1 := ⟨_, rfl⟩
        rw [← gk] at E1'
        have ek : (q : Int) - 1 = (k1 : Int) := by omega
        clear hB gk HQ HQ'
        have E1 : Hid (k1 = (u * 4294967296 + n1) / Y) := E1'
        have hq1b : k1 < 4294967296 := by
          rw [E1.out, GY.out]; exact MathB.dg_small u v1 v0 n1 c4 huY
        obtain ⟨u2, gu2⟩ : ∃ u2, u2 = (u * 4294967296 + n1) % Y := ⟨_, rfl⟩
        have HU2 : Hid (u2 = (u * 4294967296 + n1) % Y) := gu2
        have hu2Y : u2 < Y := by rw [gu2]; exact Nat.mod_lt _ (by omega)
        have hu2Y' : u2 < v1 * 4294967296 + v0 := by rw [← GY.out]; exact hu2Y
        have R1 : u * 4294967296 + n1 = k1 * Y + u2 := by
          have := Nat.div_add_mod (u * 4294967296 + n1) Y
          rw [← E1.out, Nat.mul_comm, ← gu2] at this; exact this.symm
        have eU2 := wrap_rem u n1 k1 Y u2 R1 (by omega)
        have hd2 := MathB.dg_start u2 v1 v0 n0 (by omega) c5
        have hr2 : u2 % v1 < v1 := Nat.mod_lt _ (by omega)
        have hq24 : u2 / v1 ≤ 8589934592 := by
          rw [Nat.div_le_iff_le_mul_add_pred (by omega)]
          have : 2147483648 * 8589934592 ≤ v1 * 8589934592 := Nat.mul_le_mul_right _ c1
          omega
        have eq2 : (u2 : Int) / (v1 : Int) = ((u2 / v1 : Nat) : Int) := (Int.natCast_ediv ..).symm
        obtain ⟨q2, gq2⟩ : ∃ q2, q2 = u2 / v1 := ⟨_, rfl⟩
        obtain ⟨r2, gr2⟩ : ∃ r2, r2 = u2 % v1 := ⟨_, rfl⟩
        rw [← gq2] at hd2 hq24 eq2
        rw [← gr2] at hd2 hr2
        have hlin2 : (q2 : Int) * (v1 : Int) + (r2 : Int) = (u2 : Int) := by have := hd2.lin; rw [← this]; simp
        have er2 : (u2 : Int) - (q2 : Int) * (v1 : Int) = (r2 : Int) := by omega
        have hqv2 : 0 ≤ (q2 : Int) * (v1 : Int) ∧ (q2 : Int) * (v1 : Int) ≤ 18446744073709551615 := by
          rw [← Int.natCast_mul] at hlin2 ⊢; omega
        have HQ2 : Hid (MathB.Dg u2 v1 v0 n0 q2 r2) := hd2
        clear hd2 gq2 gr2 hlin2 gu2 R1 E1'
        go_wp2
        go_loop [18, 16] (fun a b => ∃ q r : Nat, a = .int .u64 q ∧ b = .int .u64 r ∧ Hid (MathB.Dg u2 v1 v0 n0 q r ∧ r < 4294967296 ∧ q ≤ 8589934592)) (fun a _ => (intOf a).toNat)
        case atStart => exact ⟨q2, r2, rfl, rfl, ⟨HQ2.out, by omega, hq24⟩⟩
        case round =>
          clear HQ2 eU2 eq2 er2 hqv2 hr2 hq24 hA' ek
          obtain ⟨q2, r2, rfl, rfl, hd0⟩ := hrel
          obtain ⟨hd, hr2, hq24⟩ := hd0.out
          clear hd0
          have HD : Hid (MathB.Dg u2 v1 v0 n0 q2 r2) := hd
          clear hd
          by_cases hA : 4294967296 ≤ q2
          · obtain ⟨p1, p2⟩ := MathB.dg_step HD.out c5 hu2Y' (Or.inl hA)
            have HD' : Hid (MathB.Dg u2 v1 v0 n0 (q2 - 1) (r2 + v1)) := p2
            have hA' : (4294967296 : Int) ≤ (q2 : Int) := by omega
            clear p2 hA
            by_cases hB : 4294967296 ≤ r2 + v1
            · have hB' : (4294967296 : Int) ≤ (r2 : Int) + (v1 : Int) := by omega
              have E2' : q2 - 1 = (u2 * 4294967296 + n0) / Y := by rw [GY.out]; exact MathB.dg_end HD'.out hu2Y' c3 (Or.inr hB)
              obtain ⟨k2, gk⟩ : ∃ k2, k2 = q2 - 1 := ⟨_, rfl⟩
              rw [← gk] at E2'
              have ek : (q2 : Int) - 1 = (k2 : Int) := by omega
              clear hB gk HD HD'
              have E2 : Hid (k2 = (u2 * 4294967296 + n0) / Y) := E2'
              have hfin := MathB.two_digits u n1 n0 Y k1 k2 (by omega) (E1.out) (by rw [← HU2.out]; exact E2.out)
              have hq2b : k2 < 4294967296 := by
                rw [E2.out, GY.out]; exact MathB.dg_small u2 v1 v0 n0 c5 hu2Y'
              have R2 : Hid (u2 * 4294967296 + n0 = k2 * Y + (u2 * 4294967296 + n0) % Y) := by
                show _ = _
                have := Nat.div_add_mod (u2 * 4294967296 + n0) Y
                rw [← E2.out, Nat.mul_comm] at this; exact this.symm
              have hR : (u2 * 4294967296 + n0) % Y < 18446744073709551616 := Nat.lt_trans (Nat.mod_lt _ (by omega)) hY64
              have eR := wrap_rem u2 n0 k2 Y _ R2.out hR
              obtain ⟨R, gR⟩ : ∃ R, R = (u2 * 4294967296 + n0) % Y := ⟨_, rfl⟩
              rw [← HU2.out] at hfin
              rw [← gR] at eR hfin
              have hX := FX.out
              rw [GN.out] at hX
              rw [← hX, FY.out] at hfin
              have hun := MathB.unshifted _ y s _ _ hfin.1 hfin.2
              have HUN : Hid ((hi * 18446744073709551616 + lo) / y = k1 * 4294967296 + k2 ∧ (hi * 18446744073709551616 + lo) % y = R / 2 ^ s) := hun
              clear hfin hun hX gR hR E2'
              go_wp2
              go_ret2
              refine ⟨ret2 ?_ ?_, rfl⟩
              · exact cast_quo HUN.out.1
              · exact cast_rem HUN.out.2
            · have hB' : decide ((4294967296 : Int) ≤ (r2 : Int) + (v1 : Int)) = false := by simp; omega
              have HBn : Hid (¬ 4294967296 ≤ r2 + v1) := hB
              clear hB
              go_wp2
              go_round
              case rel => exact ⟨q2 - 1, r2 + v1, by go_num, by go_num, ⟨HD'.out, by have := HBn.out; omega, by omega⟩⟩
              case measure => simp [intOf]; omega
          · have hvb := prod_leI2 q2 v0 (by omega) c3
            have hA' : decide ((4294967296 : Int) ≤ (q2 : Int)) = false := by simp; omega
            clear hA
            by_cases hC : 4294967296 * r2 + n0 < q2 * v0
            · obtain ⟨p1, p2⟩ := MathB.dg_step HD.out c5 hu2Y' (Or.inr hC)
              have HD' : Hid (MathB.Dg u2 v1 v0 n0 (q2 - 1) (r2 + v1)) := p2
              have hC' : 4294967296 * (r2 : Int) + (n0 : Int) < (q2 : Int) * (v0 : Int) := by rw [← Int.natCast_mul]; omega
              clear p2 hC
              by_cases hB : 4294967296 ≤ r2 + v1
              · have hB' : (4294967296 : Int) ≤ (r2 : Int) + (v1 : Int) := by omega
                have E2' : q2 - 1 = (u2 * 4294967296 + n0) / Y := by rw [GY.out]; exact MathB.dg_end HD'.out hu2Y' c3 (Or.inr hB)
                obtain ⟨k2, gk⟩ : ∃ k2, k2 = q2 - 1 := ⟨_, rfl⟩
                rw [← gk] at E2'
                have ek : (q2 : Int) - 1 = (k2 : Int) := by omega
                clear hB gk HD HD'
                have E2 : Hid (k2 = (u2 * 4294967296 + n0) / Y) := E2'
                have hfin := MathB.two_digits u n1 n0 Y k1 k2 (by omega) (E1.out) (by rw [← HU2.out]; exact E2.out)
                have hq2b : k2 < 4294967296 := by
                  rw [E2.out, GY.out]; exact MathB.dg_small u2 v1 v0 n0 c5 hu2Y'
                have R2 : Hid (u2 * 4294967296 + n0 = k2 * Y + (u2 * 4294967296 + n0) % Y) := by
                  show _ = _
                  have := Nat.div_add_mod (u2 * 4294967296 + n0) Y
                  rw [← E2.out, Nat.mul_comm] at this; exact this.symm
                have hR : (u2 * 4294967296 + n0) % Y < 18446744073709551616 := Nat.lt_trans (Nat.mod_lt _ (by omega)) hY64
                have eR := wrap_rem u2 n0 k2 Y _ R2.out hR
                obtain ⟨R, gR⟩ : ∃ R, R = (u2 * 4294967296 + n0) % Y := ⟨_, rfl⟩
                rw [← HU2.out] at hfin
                rw [← gR] at eR hfin
                have hX := FX.out
                rw [GN.out] at hX
                rw [← hX, FY.out] at hfin
                have hun := MathB.unshifted _ y s _ _ hfin.1 hfin.2
                have HUN : Hid ((hi * 18446744073709551616 + lo) / y = k1 * 4294967296 + k2 ∧ (hi * 18446744073709551616 + lo) % y = R / 2 ^ s) := hun
                clear hfin hun hX gR hR E2'
                go_wp2
                go_ret2
                refine ⟨ret2 ?_ ?_, rfl⟩
                · exact cast_quo HUN.out.1
                · exact cast_rem HUN.out.2
              · have hB' : decide ((4294967296 : Int) ≤ (r2 : Int) + (v1 : Int)) = false := by simp; omega
                have HBn : Hid (¬ 4294967296 ≤ r2 + v1) := hB
                clear hB
                go_wp2
                go_round
                case rel => exact ⟨q2 - 1, r2 + v1, by go_num, by go_num, ⟨HD'.out, by have := HBn.out; omega, by omega⟩⟩
                case measure => simp [intOf]; omega
            · have hC' : decide (4294967296 * (r2 : Int) + (n0 : Int) < (q2 : Int) * (v0 : Int)) = false := by rw [← Int.natCast_mul]; simp only [decide_eq_false_iff_not]; omega
              have E2' : q2 = (u2 * 4294967296 + n0) / Y := by rw [GY.out]; exact MathB.dg_end HD.out hu2Y' c3 (Or.inl (by omega))
              obtain ⟨k2, rfl⟩ : ∃ k2, k2 = q2 := ⟨_, rfl⟩
              have ek : True := trivial
              clear hC HD
              have E2 : Hid (k2 = (u2 * 4294967296 + n0) / Y) := E2'
              have hfin := MathB.two_digits u n1 n0 Y k1 k2 (by omega) (E1.out) (by rw [← HU2.out]; exact E2.out)
              have hq2b : k2 < 4294967296 := by
                rw [E2.out, GY.out]; exact MathB.dg_small u2 v1 v0 n0 c5 hu2Y'
              have R2 : Hid (u2 * 4294967296 + n0 = k2 * Y + (u2 * 4294967296 + n0) % Y) := by
                show _ = _
                have := Nat.div_add_mod (u2 * 4294967296 + n0) Y
                rw [← E2.out, Nat.mul_comm] at this; exact this.symm
              have hR : (u2 * 4294967296 + n0) % Y < 18446744073709551616 := Nat.lt_trans (Nat.mod_lt _ (by omega)) hY64
              have eR := wrap_rem u2 n0 k2 Y _ R2.out hR
              obtain ⟨R, gR⟩ : ∃ R, R = (u2 * 4294967296 + n0) % Y := ⟨_, rfl⟩
              rw [← HU2.out] at hfin
              rw [← gR] at eR hfin
              have hX := FX.out
              rw [GN.out] at hX
              rw [← hX, FY.out] at hfin
              have hun := MathB.unshifted _ y s _ _ hfin.1 hfin.2
              have HUN : Hid ((hi * 18446744073709551616 + lo) / y = k1 * 4294967296 + k2 ∧ (hi * 18446744073709551616 + lo) % y = R / 2 ^ s) := hun
              clear hfin hun hX gR hR E2'
              go_wp2
              go_ret2
              refine ⟨ret2 ?_ ?_, rfl⟩
              · exact cast_quo HUN.out.1
              · exact cast_rem HUN.out.2
      · have hB' : decide ((4294967296 : Int) ≤ (r : Int) + (v1 : Int)) = false := by simp; omega
        have HBn : Hid (¬ 4294967296 ≤ r + v1) := hB
        clear hB
        go_wp2
        go_round
        case rel => exact ⟨q - 1, r + v1, by go_num, by go_num, ⟨HQ'.out, by have := HBn.out; omega, by omega⟩⟩
        case measure => simp [intOf]; omega
    · have hvb := prod_leI2 q v0 (by omega) c3
      have hA' : decide ((4294967296 : Int) ≤ (q : Int)) = false := by simp; omega
      clear hA
      by_cases hC : 4294967296 * r + n1 < q * v0
      · obtain ⟨p1, p2⟩ := MathB.dg_step HQ.out c4 huY (Or.inr hC)
        have HQ' : Hid (MathB.Dg u v1 v0 n1 (q - 1) (r + v1)) := p2
        have hC' : 4294967296 * (r : Int) + (n1 : Int) < (q : Int) * (v0 : Int) := by rw [← Int.natCast_mul]; omega
        clear p2 hC
        by_cases hB : 4294967296 ≤ r + v1
        · have hB' : (4294967296 : Int) ≤ (r : Int) + (v1 : Int) := by omega
          have E1' : q - 1 = (u * 4294967296 + n1) / Y := by rw [GY.out]; exact MathB.dg_end HQ'.out huY c3 (Or.inr hB)
          obtain ⟨k1, gk⟩ : ∃ k1, k1 = q - 1 := ⟨_, rfl⟩
          rw [← gk] at E1'
          have ek : (q : Int) - 1 = (k1 : Int) := by omega
          clear hB gk HQ HQ'
          have E1 : Hid (k1 = (u * 4294967296 + n1) / Y) := E1'
          have hq1b : k1 < 4294967296 := by
            rw [E1.out, GY.out]; exact MathB.dg_small u v1 v0 n1 c4 huY
          obtain ⟨u2, gu2⟩ : ∃ u2, u2 = (u * 4294967296 + n1) % Y := ⟨_, rfl⟩
          have HU2 : Hid (u2 = (u * 4294967296 + n1) % Y) := gu2
          have hu2Y : u2 < Y := by rw [gu2]; exact Nat.mod_lt _ (by omega)
          have hu2Y' : u2 < v1 * 4294967296 + v0 := by rw [← GY.out]; exact hu2Y
          have R1 : u * 4294967296 + n1 = k1 * Y + u2 := by
            have := Nat.div_add_mod (u * 4294967296 + n1) Y
            rw [← E1.out, Nat.mul_comm, ← gu2] at this; exact this.symm
          have eU2 := wrap_rem u n1 k1 Y u2 R1 (by omega)
          have hd2 := MathB.dg_start u2 v1 v0 n0 (by omega) c5
          have hr2 : u2 % v1 < v1 := Nat.mod_lt _ (by omega)
          have hq24 : u2 / v1 ≤ 8589934592 := by
            rw [Nat.div_le_iff_le_mul_add_pred (by omega)]
            have : 2147483648 * 8589934592 ≤ v1 * 8589934592 := Nat.mul_le_mul_right _ c1
            omega
          have eq2 : (u2 : Int) / (v1 : Int) = ((u2 / v1 : Nat) : Int) := (Int.natCast_ediv ..).symm
          obtain ⟨q2, gq2⟩ : ∃ q2, q2 = u2 / v1 := ⟨_, rfl⟩
          obtain ⟨r2, gr2⟩ : ∃ r2, r2 = u2 % v1 := ⟨_, rfl⟩
          rw [← gq2] at hd2 hq24 eq2
          rw [← gr2] at hd2 hr2
          have hlin2 : (q2 : Int) * (v1 : Int) + (r2 : Int) = (u2 : Int) := by have := hd2.lin; rw [← this]; simp
          have er2 : (u2 : Int) - (q2 : Int) * (v1 : Int) = (r2 : Int) := by omega
          have hqv2 : 0 ≤ (q2 : Int) * (v1 : Int) ∧ (q2 : Int) * (v1 : Int) ≤ 18446744073709551615 := by
            rw [← Int.natCast_mul] at hlin2 ⊢; omega
          have HQ2 : Hid (MathB.Dg u2 v1 v0 n0 q2 r2) := hd2
          clear hd2 gq2 gr2 hlin2 gu2 R1 E1'
          go_wp2
          go_loop [18, 16] (fun a b => ∃ q r : Nat, a = .int .u64 q ∧ b = .int .u64 r ∧ Hid (MathB.Dg u2 v1 v0 n0 q r ∧ r < 4294967296 ∧ q ≤ 8589934592)) (fun a _ => (intOf a).toNat)
          case atStart => exact ⟨q2, r2, rfl, rfl, ⟨HQ2.out, by omega, hq24⟩⟩
          case round =>
            clear HQ2 eU2 eq2 er2 hqv2 hr2 hq24 hA' ek
            obtain ⟨q2, r2, rfl, rfl, hd0⟩ := hrel
            obtain ⟨hd, hr2, hq24⟩ := hd0.out
            clear hd0
            have HD : Hid (MathB.Dg u2 v1 v0 n0 q2 r2) := hd
            clear hd
            by_cases hA : 4294967296 ≤ q2
            · obtain ⟨p1, p2⟩ := MathB.dg_step HD.out c5 hu2Y' (Or.inl hA)
              have HD' : Hid (MathB.Dg u2 v1 v0 n0 (q2 - 1) (r2 + v1)) := p2
              have hA' : (4294967296 : Int) ≤ (q2 : Int) := by omega
              clear p2 hA
              by_cases hB : 4294967296 ≤ r2 + v1
              · have hB' : (4294967296 : Int) ≤ (r2 : Int) + (v1 : Int) := by omega
                have E2' : q2 - 1 = (u2 * 4294967296 + n0) / Y := by rw [GY.out]; exact MathB.dg_end HD'.out hu2Y' c3 (Or.inr hB)
                obtain ⟨k2, gk⟩ : ∃ k2, k2 = q2 - 1 := ⟨_, rfl⟩
                rw [← gk] at E2'
                have ek : (q2 : Int) - 1 = (k2 : Int) := by omega
                clear hB gk HD HD'
                have E2 : Hid (k2 = (u2 * 4294967296 + n0) / Y) := E2'
                have hfin := MathB.two_digits u n1 n0 Y k1 k2 (by omega) (E1.out) (by rw [← HU2.out]; exact E2.out)
                have hq2b : k2 < 4294967296 := by
                  rw [E2.out, GY.out]; exact MathB.dg_small u2 v1 v0 n0 c5 hu2Y'
                have R2 : Hid (u2 * 4294967296 + n0 = k2 * Y + (u2 * 4294967296 + n0) % Y) := by
                  show _ = _
                  have := Nat.div_add_mod (u2 * 4294967296 + n0) Y
                  rw [← E2.out, Nat.mul_comm] at this; exact this.symm
                have hR : (u2 * 4294967296 + n0) % Y < 18446744073709551616 := Nat.lt_trans (Nat.mod_lt _ (by omega)) hY64
                have eR := wrap_rem u2 n0 k2 Y _ R2.out hR
                obtain ⟨R, gR⟩ : ∃ R, R = (u2 * 4294967296 + n0) % Y := ⟨_, rfl⟩
                rw [← HU2.out] at hfin
                rw [← gR] at eR hfin
                have hX := FX.out
                rw [GN.out] at hX
                rw [← hX, FY.out] at hfin
                have hun := MathB.unshifted _ y s _ _ hfin.1 hfin.2
                have HUN : Hid ((hi * 18446744073709551616 + lo) / y = k1 * 4294967296 + k2 ∧ (hi * 18446744073709551616 + lo) % y = R / 2 ^ s) := hun
                clear hfin hun hX gR hR E2'
                go_wp2
                go_ret2
                refine ⟨ret2 ?_ ?_, rfl⟩
                · exact cast_quo HUN.out.1
                · exact cast_rem HUN.out.2
              · have hB' : decide ((4294967296 : Int) ≤ (r2 : Int) + (v1 : Int)) = false := by simp; omega
                have HBn : Hid (¬ 4294967296 ≤ r2 + v1) := hB
                clear hB
                go_wp2
                go_round
                case rel => exact ⟨q2 - 1, r2 + v1, by go_num, by go_num, ⟨HD'.out, by have := HBn.out; omega, by omega⟩⟩
                case measure => simp [intOf]; omega
            · have hvb := prod_leI2 q2 v0 (by omega) c3
              have hA' : decide ((4294967296 : Int) ≤ (q2 : Int)) = false := by simp; omega
              clear hA
              by_cases hC : 4294967296 * r2 + n0 < q2 * v0
              · obtain ⟨p1, p2⟩ := MathB.dg_step HD.out c5 hu2Y' (Or.inr hC)
                have HD' : Hid (MathB.Dg u2 v1 v0 n0 (q2 - 1) (r2 + v1)) := p2
                have hC' : 4294967296 * (r2 : Int) + (n0 : Int) < (q2 : Int) * (v0 : Int) := by rw [← Int.natCast_mul]; omega
                clear p2 hC
                by_cases hB : 4294967296 ≤ r2 + v1
                · have hB' : (4294967296 : Int) ≤ (r2 : Int) + (v1 : Int) := by omega
                  have E2' : q2 - 1 = (u2 * 4294967296 + n0) / Y := by rw [GY.out]; exact MathB.dg_end HD'.out hu2Y' c3 (Or.inr hB)
                  obtain ⟨k2, gk⟩ : ∃ k2, k2 = q2 - 1 := ⟨_, rfl⟩
                  rw [← gk] at E2'
                  have ek : (q2 : Int) - 1 = (k2 : Int) := by omega
                  clear hB gk HD HD'
                  have E2 : Hid (k2 = (u2 * 4294967296 + n0) / Y) := E2'
                  have hfin := MathB.two_digits u n1 n0 Y k1 k2 (by omega) (E1.out) (by rw [← HU2.out]; exact E2.out)
                  have hq2b : k2 < 4294967296 := by
                    rw [E2.out, GY.out]; exact MathB.dg_small u2 v1 v0 n0 c5 hu2Y'
                  have R2 : Hid (u2 * 4294967296 + n0 = k2 * Y + (u2 * 4294967296 + n0) % Y) := by
                    show _ = _
                    have := Nat.div_add_mod (u2 * 4294967296 + n0) Y
                    rw [← E2.out, Nat.mul_comm] at this; exact this.symm
                  have hR : (u2 * 4294967296 + n0) % Y < 18446744073709551616 := Nat.lt_trans (Nat.mod_lt _ (by omega)) hY64
                  have eR := wrap_rem u2 n0 k2 Y _ R2.out hR
                  obtain ⟨R, gR⟩ : ∃ R, R = (u2 * 4294967296 + n0) % Y := ⟨_, rfl⟩
                  rw [← HU2.out] at hfin
                  rw [← gR] at eR hfin
                  have hX := FX.out
                  rw [GN.out] at hX
                  rw [← hX, FY.out] at hfin
                  have hun := MathB.unshifted _ y s _ _ hfin.1 hfin.2
                  have HUN : Hid ((hi * 18446744073709551616 + lo) / y = k1 * 4294967296 + k2 ∧ (hi * 18446744073709551616 + lo) % y = R / 2 ^ s) := hun
                  clear hfin hun hX gR hR E2'
                  go_wp2
                  go_ret2
                  refine ⟨ret2 ?_ ?_, rfl⟩
                  · exact cast_quo HUN.out.1
                  · exact cast_rem HUN.out.2
                · have hB' : decide ((4294967296 : Int) ≤ (r2 : Int) + (v1 : Int)) = false := by simp; omega
                  have HBn : Hid (¬ 4294967296 ≤ r2 + v1) := hB
                  clear hB
                  go_wp2
                  go_round
                  case rel => exact ⟨q2 - 1, r2 + v1, by go_num, by go_num, ⟨HD'.out, by have := HBn.out; omega, by omega⟩⟩
                  case measure => simp [intOf]; omega
              · have hC' : decide (4294967296 * (r2 : Int) + (n0 : Int) < (q2 : Int) * (v0 : Int)) = false := by rw [← Int.natCast_mul]; simp only [decide_eq_false_iff_not]; omega
                have E2' : q2 = (u2 * 4294967296 + n0) / Y := by rw [GY.out]; exact MathB.dg_end HD.out hu2Y' c3 (Or.inl (by omega))
                obtain ⟨k2, rfl⟩ : ∃ k2, k2 = q2 := ⟨_, rfl⟩
                have ek : True := trivial
                clear hC HD
                have E2 : Hid (k2 = (u2 * 4294967296 + n0) / Y) := E2'
                have hfin := MathB.two_digits u n1 n0 Y k1 k2 (by omega) (E1.out) (by rw [← HU2.out]; exact E2.out)
                have hq2b : k2 < 4294967296 := by
                  rw [E2.out, GY.out]; exact MathB.dg_small u2 v1 v0 n0 c5 hu2Y'
                have R2 : Hid (u2 * 4294967296 + n0 = k2 * Y + (u2 * 4294967296 + n0) % Y) := by
                  show _ = _
                  have := Nat.div_add_mod (u2 * 4294967296 + n0) Y
                  rw [← E2.out, Nat.mul_comm] at this; exact this.symm
                have hR : (u2 * 4294967296 + n0) % Y < 18446744073709551616 := Nat.lt_trans (Nat.mod_lt _ (by omega)) hY64
                have eR := wrap_rem u2 n0 k2 Y _ R2.out hR
                obtain ⟨R, gR⟩ : ∃ R, R = (u2 * 4294967296 + n0) % Y := ⟨_, rfl⟩
                rw [← HU2.out] at hfin
                rw [← gR] at eR hfin
                have hX := FX.out
                rw [GN.out] at hX
                rw [← hX, FY.out] at hfin
                have hun := MathB.unshifted _ y s _ _ hfin.1 hfin.2
                have HUN : Hid ((hi * 18446744073709551616 + lo) / y = k1 * 4294967296 + k2 ∧ (hi * 18446744073709551616 + lo) % y = R / 2 ^ s) := hun
                clear hfin hun hX gR hR E2'
                go_wp2
                go_ret2
                refine ⟨ret2 ?_ ?_, rfl⟩
                · exact cast_quo HUN.out.1
                · exact cast_rem HUN.out.2
        · have hB' : decide ((4294967296 : Int) ≤ (r : Int) + (v1 : Int)) = false := by simp; omega
          have HBn : Hid (¬ 4294967296 ≤ r + v1) := hB
          clear hB
          go_wp2
          go_round
          case rel => exact ⟨q - 1, r + v1, by go_num, by go_num, ⟨HQ'.out, by have := HBn.out; omega, by omega⟩⟩
          case measure => simp [intOf]; omega
      · have hC' : decide (4294967296 * (r : Int) + (n1 : Int) < (q : Int) * (v0 : Int)) = false := by rw [← Int.natCast_mul]; simp only [decide_eq_false_iff_not]; omega
        have E1' : q = (u * 4294967296 + n1) / Y := by rw [GY.out]; exact MathB.dg_end HQ.out huY c3 (Or.inl (by omega))
        obtain ⟨k1, rfl⟩ : ∃ k1, k1 = q := ⟨_, rfl⟩
        have ek : True := trivial
        clear hC HQ
        have E1 : Hid (k1 = (u * 4294967296 + n1) / Y) := E1'
        have hq1b : k1 < 4294967296 := by
          rw [E1.out, GY.out]; exact MathB.dg_small u v1 v0 n1 c4 huY
        obtain ⟨u2, gu2⟩ : ∃ u2, u2 = (u * 4294967296 + n1) % Y := ⟨_, rfl⟩
        have HU2 : Hid (u2 = (u * 4294967296 + n1) % Y) := gu2
        have hu2Y : u2 < Y := by rw [gu2]; exact Nat.mod_lt _ (by omega)
        have hu2Y' : u2 < v1 * 4294967296 + v0 := by rw [← GY.out]; exact hu2Y
        have R1 : u * 4294967296 + n1 = k1 * Y + u2 := by
          have := Nat.div_add_mod (u * 4294967296 + n1) Y
          rw [← E1.out, Nat.mul_comm, ← gu2] at this; exact this.symm
        have eU2 := wrap_rem u n1 k1 Y u2 R1 (by omega)
        have hd2 := MathB.dg_start u2 v1 v0 n0 (by omega) c5
        have hr2 : u2 % v1 < v1 := Nat.mod_lt _ (by omega)
        have hq24 : u2 / v1 ≤ 8589934592 := by
          rw [Nat.div_le_iff_le_mul_add_pred (by omega)]
          have : 2147483648 * 8589934592 ≤ v1 * 8589934592 := Nat.mul_le_mul_right _ c1
          omega
        have eq2 : (u2 : Int) / (v1 : Int) = ((u2 / v1 : Nat) : Int) := (Int.natCast_ediv ..).symm
        obtain ⟨q2, gq2⟩ : ∃ q2, q2 = u2 / v1 := ⟨_, rfl⟩
        obtain ⟨r2, gr2⟩ : ∃ r2, r2 = u2 % v1 := ⟨_, rfl⟩
        rw [← gq2] at hd2 hq24 eq2
        rw [← gr2] at hd2 hr2
        have hlin2 : (q2 : Int) * (v1 : Int) + (r2 : Int) = (u2 : Int) := by have := hd2.lin; rw [← this]; simp
        have er2 : (u2 : Int) - (q2 : Int) * (v1 : Int) = (r2 : Int) := by omega
        have hqv2 : 0 ≤ (q2 : Int) * (v1 : Int) ∧ (q2 : Int) * (v1 : Int) ≤ 18446744073709551615 := by
          rw [← Int.natCast_mul] at hlin2 ⊢; omega
        have HQ2 : Hid (MathB.Dg u2 v1 v0 n0 q2 r2) := hd2
        clear hd2 gq2 gr2 hlin2 gu2 R1 E1'
        go_wp2
        go_loop [18, 16] (fun a b => ∃ q r : Nat, a = .int .u64 q ∧ b = .int .u64 r ∧ Hid (MathB.Dg u2 v1 v0 n0 q r ∧ r < 4294967296 ∧ q ≤ 8589934592)) (fun a _ => (intOf a).toNat)
        case atStart => exact ⟨q2, r2, rfl, rfl, ⟨HQ2.out, by omega, hq24⟩⟩
        case round =>
          clear HQ2 eU2 eq2 er2 hqv2 hr2 hq24 hA' ek
          obtain ⟨q2, r2, rfl, rfl, hd0⟩ := hrel
          obtain ⟨hd, hr2, hq24⟩ := hd0.out
          clear hd0
          have HD : Hid (MathB.Dg u2 v1 v0 n0 q2 r2) := hd
          clear hd
          by_cases hA : 4294967296 ≤ q2
          · obtain ⟨p1, p2⟩ := MathB.dg_step HD.out c5 hu2Y' (Or.inl hA)
            have HD' : Hid (MathB.Dg u2 v1 v0 n0 (q2 - 1) (r2 + v1)) := p2
            have hA' : (4294967296 : Int) ≤ (q2 : Int) := by omega
            clear p2 hA
            by_cases hB : 4294967296 ≤ r2 + v1
            · have hB' : (4294967296 : Int) ≤ (r2 : Int) + (v1 : Int) := by omega
              have E2' : q2 - 1 = (u2 * 4294967296 + n0) / Y := by rw [GY.out]; exact MathB.dg_end HD'.out hu2Y' c3 (Or.inr hB)
              obtain ⟨k2, gk⟩ : ∃ k2, k2 = q2 - 1 := ⟨_, rfl⟩
              rw [← gk] at E2'
              have ek : (q2 : Int) - 1 = (k2 : Int) := by omega
              clear hB gk HD HD'
              have E2 : Hid (k2 = (u2 * 4294967296 + n0) / Y) := E2'
              have hfin := MathB.two_digits u n1 n0 Y k1 k2 (by omega) (E1.out) (by rw [← HU2.out]; exact E2.out)
              have hq2b : k2 < 4294967296 := by
                rw [E2.out, GY.out]; exact MathB.dg_small u2 v1 v0 n0 c5 hu2Y'
              have R2 : Hid (u2 * 4294967296 + n0 = k2 * Y + (u2 * 4294967296 + n0) % Y) := by
                show _ = _
                have := Nat.div_add_mod (u2 * 4294967296 + n0) Y
                rw [← E2.out, Nat.mul_comm] at this; exact this.symm
              have hR : (u2 * 4294967296 + n0) % Y < 18446744073709551616 := Nat.lt_trans (Nat.mod_lt _ (by omega)) hY64
              have eR := wrap_rem u2 n0 k2 Y _ R2.out hR
              obtain ⟨R, gR⟩ : ∃ R, R = (u2 * 4294967296 + n0) % Y := ⟨_, rfl⟩
              rw [← HU2.out] at hfin
              rw [← gR] at eR hfin
              have hX := FX.out
              rw [GN.out] at hX
              rw [← hX, FY.out] at hfin
              have hun := MathB.unshifted _ y s _ _ hfin.1 hfin.2
              have HUN : Hid ((hi * 18446744073709551616 + lo) / y = k1 * 4294967296 + k2 ∧ (hi * 18446744073709551616 + lo) % y = R / 2 ^ s) := hun
              clear hfin hun hX gR hR E2'
              go_wp2
              go_ret2
              refine ⟨ret2 ?_ ?_, rfl⟩
              · exact cast_quo HUN.out.1
              · exact cast_rem HUN.out.2
            · have hB' : decide ((4294967296 : Int) ≤ (r2 : Int) + (v1 : Int)) = false := by simp; omega
              have HBn : Hid (¬ 4294967296 ≤ r2 + v1) := hB
              clear hB
              go_wp2
              go_round
              case rel => exact ⟨q2 - 1, r2 + v1, by go_num, by go_num, ⟨HD'.out, by have := HBn.out; omega, by omega⟩⟩
              case measure => simp [intOf]; omega
          · have hvb := prod_leI2 q2 v0 (by omega) c3
            have hA' : decide ((4294967296 : Int) ≤ (q2 : Int)) = false := by simp; omega
            clear hA
            by_cases hC : 4294967296 * r2 + n0 < q2 * v0
            · obtain ⟨p1, p2⟩ := MathB.dg_step HD.out c5 hu2Y' (Or.inr hC)
              have HD' : Hid (MathB.Dg u2 v1 v0 n0 (q2 - 1) (r2 + v1)) := p2
              have hC' : 4294967296 * (r2 : Int) + (n0 : Int) < (q2 : Int) * (v0 : Int) := by rw [← Int.natCast_mul]; omega
              clear p2 hC
              by_cases hB : 4294967296 ≤ r2 + v1
              · have hB' : (4294967296 : Int) ≤ (r2 : Int) + (v1 : Int) := by omega
                have E2' : q2 - 1 = (u2 * 4294967296 + n0) / Y := by rw [GY.out]; exact MathB.dg_end HD'.out hu2Y' c3 (Or.inr hB)
                obtain ⟨k2, gk⟩ : ∃ k2, k2 = q2 - 1 := ⟨_, rfl⟩
                rw [← gk] at E2'
                have ek : (q2 : Int) - 1 = (k2 : Int) := by omega
                clear hB gk HD HD'
                have E2 : Hid (k2 = (u2 * 4294967296 + n0) / Y) := E2'
                have hfin := MathB.two_digits u n1 n0 Y k1 k2 (by omega) (E1.out) (by rw [← HU2.out]; exact E2.out)
                have hq2b : k2 < 4294967296 := by
                  rw [E2.out, GY.out]; exact MathB.dg_small u2 v1 v0 n0 c5 hu2Y'
                have R2 : Hid (u2 * 4294967296 + n0 = k2 * Y + (u2 * 4294967296 + n0) % Y) := by
                  show _ = _
                  have := Nat.div_add_mod (u2 * 4294967296 + n0) Y
                  rw [← E2.out, Nat.mul_comm] at this; exact this.symm
                have hR : (u2 * 4294967296 + n0) % Y < 18446744073709551616 := Nat.lt_trans (Nat.mod_lt _ (by omega)) hY64
                have eR := wrap_rem u2 n0 k2 Y _ R2.out hR
                obtain ⟨R, gR⟩ : ∃ R, R = (u2 * 4294967296 + n0) % Y := ⟨_, rfl⟩
                rw [← HU2.out] at hfin
                rw [← gR] at eR hfin
                have hX := FX.out
                rw [GN.out] at hX
                rw [← hX, FY.out] at hfin
                have hun := MathB.unshifted _ y s _ _ hfin.1 hfin.2
                have HUN : Hid ((hi * 18446744073709551616 + lo) / y = k1 * 4294967296 + k2 ∧ (hi * 18446744073709551616 + lo) % y = R / 2 ^ s) := hun
                clear hfin hun hX gR hR E2'
                go_wp2
                go_ret2
                refine ⟨ret2 ?_ ?_, rfl⟩
                · exact cast_quo HUN.out.1
                · exact cast_rem HUN.out.2
              · have hB' : decide ((4294967296 : Int) ≤ (r2 : Int) + (v1 : Int)) = false := by simp; omega
                have HBn : Hid (¬ 4294967296 ≤ r2 + v1) := hB
                clear hB
                go_wp2
                go_round
                case rel => exact ⟨q2 - 1, r2 + v1, by go_num, by go_num, ⟨HD'.out, by have := HBn.out; omega, by omega⟩⟩
                case measure => simp [intOf]; omega
            · have hC' : decide (4294967296 * (r2 : Int) + (n0 : Int) < (q2 : Int) * (v0 : Int)) = false := by rw [← Int.natCast_mul]; simp only [decide_eq_false_iff_not]; omega
              have E2' : q2 = (u2 * 4294967296 + n0) / Y := by rw [GY.out]; exact MathB.dg_end HD.out hu2Y' c3 (Or.inl (by omega))
              obtain ⟨k2, rfl⟩ : ∃ k2, k2 = q2 := ⟨_, rfl⟩
              have ek : True := trivial
              clear hC HD
              have E2 : Hid (k2 = (u2 * 4294967296 + n0) / Y) := E2'
              have hfin := MathB.two_digits u n1 n0 Y k1 k2 (by omega) (E1.out) (by rw [← HU2.out]; exact E2.out)
              have hq2b : k2 < 4294967296 := by
                rw [E2.out, GY.out]; exact MathB.dg_small u2 v1 v0 n0 c5 hu2Y'
              have R2 : Hid (u2 * 4294967296 + n0 = k2 * Y + (u2 * 4294967296 + n0) % Y) := by
                show _ = _
                have := Nat.div_add_mod (u2 * 4294967296 + n0) Y
                rw [← E2.out, Nat.mul_comm] at this; exact this.symm
              have hR : (u2 * 4294967296 + n0) % Y < 18446744073709551616 := Nat.lt_trans (Nat.mod_lt _ (by omega)) hY64
              have eR := wrap_rem u2 n0 k2 Y _ R2.out hR
              obtain ⟨R, gR⟩ : ∃ R, R = (u2 * 4294967296 + n0) % Y := ⟨_, rfl⟩
              rw [← HU2.out] at hfin
              rw [← gR] at eR hfin
              have hX := FX.out
              rw [GN.out] at hX
              rw [← hX, FY.out] at hfin
              have hun := MathB.unshifted _ y s _ _ hfin.1 hfin.2
              have HUN : Hid ((hi * 18446744073709551616 + lo) / y = k1 * 4294967296 + k2 ∧ (hi * 18446744073709551616 + lo) % y = R / 2 ^ s) := hun
              clear hfin hun hX gR hR E2'
              go_wp2
              go_ret2
              refine ⟨ret2 ?_ ?_, rfl⟩
              · exact cast_quo HUN.out.1
              · exact cast_rem HUN.out.2

/-- Rem64: what the 128-bit number leaves. -/
theorem Rem64_any (hi lo y : Nat) (w : World) (hh : hi < 18446744073709551616) (hl : lo < 18446744073709551616) (hy : y < 18446744073709551616) (h : 0 < y) :
    Calls Tryd.prog 83 #[.int .u64 hi, .int .u64 lo, .int .u64 y] w fun e w' => e = .returned (.int .u64 (((hi * 18446744073709551616 + lo) % y : Nat) : Int)) ∧ ∃ n, w' = w.drewN n := by
  have hm : hi % y < y := Nat.mod_lt _ h
  have em : (hi : Int) % (y : Int) = ((hi % y : Nat) : Int) := (Int.natCast_emod ..).symm
  have HE : Hid ((hi % y * 18446744073709551616 + lo) % y = (hi * 18446744073709551616 + lo) % y) := by
    show _ = _
    rw [Nat.add_mod, Nat.mod_mul_mod, ← Nat.add_mod]
  obtain ⟨g, gg⟩ : ∃ g, g = hi % y := ⟨_, rfl⟩
  rw [← gg] at hm em
  have HG : Hid (g = hi % y) := gg
  clear gg
  obtain ⟨R, gR⟩ : ∃ R, R = (hi * 18446744073709551616 + lo) % y := ⟨_, rfl⟩
  rw [← gR]
  have HR : Hid ((g * 18446744073709551616 + lo) % y = R) := by show _ = _; rw [HG.out, HE.out, gR]
  clear gR HE
  have t1 : ((y : Int) == 0) = false := beq_eq_false_iff_ne.2 (by omega)
  have b1 : (hi : Int) ≤ 18446744073709551615 := by omega
  have b2 : (y : Int) ≤ 18446744073709551615 := by omega
  by_cases h0 : g = 0
  · subst h0
    go_enter Tryd.func83, Tryd.ntmps83
    go_wp2_with fail
    refine (Div64_low lo y _ hl hy h).mono ?_
    have e0 : lo % y = R := by have := HR.out; simpa using this
    rw [e0]
    rintro e w1 ⟨rfl, n, rfl⟩
    go_wp2
    go_ret
    exact ⟨rfl, n, rfl⟩
  · go_enter Tryd.func83, Tryd.ntmps83
    go_wp2_with fail
    refine (Div64_high g lo y _ hl hy (by omega) hm).mono ?_
    rw [HR.out]
    rintro e w1 ⟨rfl, rfl⟩
    go_wp2
    go_ret
    exact ⟨rfl, 0, rfl⟩

/-- productLeft: what a b leaves by m. -/
theorem productLeft_any (a b m : Nat) (w : World) (ha : a < m) (hb : b < m) (hm : m ≤ 1000000000000000000) :
    Calls Tryd.prog 69 #[.int .i64 a, .int .i64 b, .int .i64 m] w fun e w' => e = .returned (.int .i64 ((a * b % m : Nat) : Int)) ∧ ∃ n, w' = w.drewN n := by
  have HE : Hid ((a * b / 18446744073709551616 * 18446744073709551616 + a * b % 18446744073709551616) % m = a * b % m) := by
    show _ = _
    rw [Nat.mul_comm, Nat.div_add_mod]
  have hq : a * b / 18446744073709551616 < 18446744073709551616 := by
    rw [Nat.div_lt_iff_lt_mul (by omega)]
    have := Nat.mul_lt_mul'' (show a < 1000000000000000000 by omega) (show b < 1000000000000000000 by omega)
    omega
  have hr : a * b % 18446744073709551616 < 18446744073709551616 := Nat.mod_lt _ (by omega)
  have hR : a * b % m < m := Nat.mod_lt _ (by omega)
  obtain ⟨R, gR⟩ : ∃ R, R = a * b % m := ⟨_, rfl⟩
  rw [← gR] at hR ⊢
  have HR : Hid ((a * b / 18446744073709551616 * 18446744073709551616 + a * b % 18446744073709551616) % m = R) := by show _ = _; rw [HE.out, gR]
  clear HE gR
  go_enter Tryd.func69, Tryd.ntmps69
  go_wp2_with fail
  refine (Mul64_any a b (by omega) (by omega) _).mono ?_
  obtain ⟨H, gH⟩ : ∃ H, H = a * b / 18446744073709551616 := ⟨_, rfl⟩
  obtain ⟨L, gL⟩ : ∃ L, L = a * b % 18446744073709551616 := ⟨_, rfl⟩
  rw [← gH] at hq HR ⊢
  rw [← gL] at hr HR ⊢
  clear gH gL
  rintro e w1 ⟨rfl, rfl⟩
  go_wp2_with fail
  refine (Rem64_any H L m _ hq hr (by omega) (by omega)).mono ?_
  rw [HR.out]
  rintro e w1 ⟨rfl, n, rfl⟩
  go_wp2
  go_ret
  exact ⟨rfl, n, rfl⟩

end Go.Proofs.YtbeceimopamllaaDoor
end
