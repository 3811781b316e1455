import Derived.Test.YtcnfhndejkngkaaGreatDoorRows
import Derived.WalkKit
import Derived.WalkSpells
import Derived.WalkLawsBesides
import Derived.Deep.QuietTactic
import Derived.BigQuiet
section
set_option linter.unusedSimpArgs false
set_option maxRecDepth 100000
namespace Go.Proofs.YtcnfhndejkngkaaGreatDoor.MathA
theorem gcd_step (a b : Int) : Int.gcd b (a.tmod b) = Int.gcd a b := by
  unfold Int.gcd
  rw [Int.natAbs_tmod, Nat.gcd_comm b.natAbs, ← Nat.gcd_rec, Nat.gcd_comm]
theorem natAbs_tmod_lt (a b : Int) (hb : b ≠ 0) : (a.tmod b).natAbs < b.natAbs := by
  rw [Int.natAbs_tmod]; exact Nat.mod_lt _ (by omega)
structure Eu (A B a b u v nu nv : Int) : Prop where
  lin : a = u * A + v * B
  lin2 : b = nu * A + nv * B
  st : ∃ (p r t s : Int) (α β U N V M : Nat), (p = 1 ∨ p = -1) ∧ (r = 1 ∨ r = -1) ∧ (t = 1 ∨ t = -1) ∧ (s = 1 ∨ s = -1) ∧
    a = p * α ∧ b = r * β ∧ u = -(p * r * t) * U ∧ nu = t * N ∧ v = -(p * r * s) * V ∧ nv = s * M ∧
    α * N + β * U = B.natAbs ∧ α * M + β * V = A.natAbs ∧ Nat.gcd α β = Int.gcd A B ∧
    U ≤ 1000000000000000000 ∧ N ≤ 1000000000000000000 ∧ V ≤ 1000000000000000000 ∧ M ≤ 1000000000000000000 ∧
    α ≤ 1000000000000000000 ∧ β ≤ 1000000000000000000 ∧ ((N = 0 ∧ U = 1 ∧ 0 < β) ∨ (β < α ∧ 1 ≤ N ∧ (β = 0 → U < N)))
theorem sgn_form (x : Int) : ∃ p : Int, (p = 1 ∨ p = -1) ∧ x = p * (x.natAbs : Nat) := by
  by_cases h : 0 ≤ x
  · exact ⟨1, Or.inl rfl, by omega⟩
  · exact ⟨-1, Or.inr rfl, by omega⟩
theorem eu_start (A B : Int) (hA : A.natAbs ≤ 1000000000000000000) (hB : B.natAbs ≤ 1000000000000000000) (hb : B ≠ 0) : Eu A B A B 1 0 0 1 := by
  refine ⟨by omega, by omega, ?_⟩
  obtain ⟨p, hp, ep⟩ := sgn_form A
  obtain ⟨r, hr, er⟩ := sgn_form B
  refine ⟨p, r, -(p * r), 1, A.natAbs, B.natAbs, 1, 0, 0, 1, hp, hr, ?_, Or.inl rfl, ep, er, ?_, by simp, by simp, by simp, by omega, by omega, rfl, by omega, by omega, by omega, by omega, hA, hB, Or.inl ⟨rfl, rfl, by omega⟩⟩
  · rcases hp with rfl | rfl <;> rcases hr with rfl | rfl <;> decide
  · rcases hp with rfl | rfl <;> rcases hr with rfl | rfl <;> decide
theorem tdiv_sgn (p r : Int) (α β : Nat) (hp : p = 1 ∨ p = -1) (hr : r = 1 ∨ r = -1) : (p * α).tdiv (r * β) = p * r * ((α / β : Nat) : Int) := by
  have e : (α : Int).tdiv (β : Int) = ((α / β : Nat) : Int) := (Int.ofNat_tdiv α β).symm
  rcases hp with rfl | rfl <;> rcases hr with rfl | rfl <;> simp [Int.neg_tdiv, Int.tdiv_neg, -Int.natCast_ediv, e]
theorem eu_step {A B a b u v nu nv : Int} (hA : A.natAbs ≤ 1000000000000000000) (hB : B.natAbs ≤ 1000000000000000000) (h : Eu A B a b u v nu nv) (hb : b ≠ 0) :
    Eu A B b (a - a.tdiv b * b) nu nv (u - a.tdiv b * nu) (v - a.tdiv b * nv) ∧
    (a - a.tdiv b * b).natAbs < b.natAbs ∧
    (a.tdiv b).natAbs ≤ 1000000000000000000 ∧ (a.tdiv b * b).natAbs ≤ 1000000000000000000 ∧ (a.tdiv b * nu).natAbs ≤ 1000000000000000000 ∧ (a.tdiv b * nv).natAbs ≤ 1000000000000000000 := by
  obtain ⟨l1, l2, p, r, t, s, α, β, U, N, V, M, hp, hr, ht, hs, ea, eb, eu, enu, ev, env, i1, i2, ig, bU, bN, bV, bM, bα, bβ, hd⟩ := h
  have hβ : 0 < β := by
    rcases Nat.eq_zero_or_pos β with h0 | h0
    · subst h0; simp at eb; exact absurd eb hb
    · exact h0
  have q1 : a.tdiv b = p * r * ((α / β : Nat) : Int) := by rw [ea, eb]; exact tdiv_sgn p r α β hp hr
  have hmod : α % β < β := Nat.mod_lt _ hβ
  have hdm : β * (α / β) + α % β = α := Nat.div_add_mod α β
  generalize hq : α / β = q at *
  generalize hρ : α % β = ρ at *
  -- the new cofactors
  have j1 : β * (U + q * N) + ρ * N = B.natAbs := by
    rw [← i1, ← hdm]; simp only [Nat.mul_add, Nat.add_mul, Nat.mul_assoc, Nat.mul_comm, Nat.mul_left_comm]; omega
  have j2 : β * (V + q * M) + ρ * M = A.natAbs := by
    rw [← i2, ← hdm]; simp only [Nat.mul_add, Nat.add_mul, Nat.mul_assoc, Nat.mul_comm, Nat.mul_left_comm]; omega
  have k1 : U + q * N ≤ B.natAbs := by
    have : 1 * (U + q * N) ≤ β * (U + q * N) := Nat.mul_le_mul_right _ hβ
    omega
  have k2 : V + q * M ≤ A.natAbs := by
    have : 1 * (V + q * M) ≤ β * (V + q * M) := Nat.mul_le_mul_right _ hβ
    omega
  have kq : q ≤ α := by
    have : 1 * q ≤ β * q := Nat.mul_le_mul_right _ hβ
    omega
  have e1 : a.tdiv b * b = p * ((q * β : Nat) : Int) := by
    rw [q1, eb]; rcases hp with rfl | rfl <;> rcases hr with rfl | rfl <;> simp [Int.neg_mul, Int.mul_neg]
  have e2 : a.tdiv b * nu = p * r * t * ((q * N : Nat) : Int) := by
    rw [q1, enu]; rcases hp with rfl | rfl <;> rcases hr with rfl | rfl <;> rcases ht with rfl | rfl <;> simp [Int.neg_mul, Int.mul_neg]
  have e3 : a.tdiv b * nv = p * r * s * ((q * M : Nat) : Int) := by
    rw [q1, env]; rcases hp with rfl | rfl <;> rcases hr with rfl | rfl <;> rcases hs with rfl | rfl <;> simp [Int.neg_mul, Int.mul_neg]
  have e4 : a - a.tdiv b * b = p * (ρ : Int) := by
    rw [e1, ea]; have : (α : Int) = ((q * β : Nat) : Int) + ρ := by rw [← hdm, Nat.mul_comm β q]; omega
    rw [this]; rcases hp with rfl | rfl <;> omega
  refine ⟨⟨l2, ?_, r, p, -(p * r * t), -(p * r * s), β, ρ, N, U + q * N, M, V + q * M, hr, hp, ?_, ?_, eb, e4, ?_, ?_, ?_, ?_, j1, j2, ?_, bN, by omega, bM, by omega, bβ, by omega, ?_⟩, ?_, ?_, ?_, ?_, ?_⟩
  · have x1 : (u - a.tdiv b * nu) * A + (v - a.tdiv b * nv) * B = (u * A + v * B) - a.tdiv b * (nu * A + nv * B) := by
      simp only [Int.sub_mul, Int.mul_add, Int.mul_assoc]; omega
    rw [x1, ← l1, ← l2]
  · rcases hp with rfl | rfl <;> rcases hr with rfl | rfl <;> rcases ht with rfl | rfl <;> decide
  · rcases hp with rfl | rfl <;> rcases hr with rfl | rfl <;> rcases hs with rfl | rfl <;> decide
  · rw [enu]; rcases hp with rfl | rfl <;> rcases hr with rfl | rfl <;> rcases ht with rfl | rfl <;> simp [Int.neg_mul, Int.mul_neg]
  · rw [e2, eu]; rcases hp with rfl | rfl <;> rcases hr with rfl | rfl <;> rcases ht with rfl | rfl <;> omega
  · rw [env]; rcases hp with rfl | rfl <;> rcases hr with rfl | rfl <;> rcases hs with rfl | rfl <;> simp [Int.neg_mul, Int.mul_neg]
  · rw [e3, ev]; rcases hp with rfl | rfl <;> rcases hr with rfl | rfl <;> rcases hs with rfl | rfl <;> omega
  · rw [← ig, ← hρ, Nat.gcd_comm β, ← Nat.gcd_rec, Nat.gcd_comm]
  · right
    rcases hd with ⟨h1, h2, h3⟩ | ⟨h1, h2, h3⟩
    · subst h1 h2
      exact ⟨hmod, by omega, fun _ => by omega⟩
    · refine ⟨hmod, ?_, fun h0 => ?_⟩
      · have : 1 ≤ q := by
          rcases Nat.eq_zero_or_pos q with hz | hz
          · subst hz; omega
          · exact hz
        have : 1 * N ≤ q * N := Nat.mul_le_mul_right _ this
        omega
      · have : 2 ≤ q := by
          rcases Nat.lt_or_ge q 2 with hz | hz
          · have : q = 0 ∨ q = 1 := by omega
            rcases this with h | h <;> subst h <;> omega
          · exact hz
        have : 2 * N ≤ q * N := Nat.mul_le_mul_right _ this
        omega
  · rw [e4, eb]; rcases hp with rfl | rfl <;> rcases hr with rfl | rfl <;> omega
  · rw [q1]; rcases hp with rfl | rfl <;> rcases hr with rfl | rfl <;> omega
  · have : q * β ≤ α := by rw [Nat.mul_comm]; omega
    rw [e1]; rcases hp with rfl | rfl <;> omega
  · rw [e2]; rcases hp with rfl | rfl <;> rcases hr with rfl | rfl <;> rcases ht with rfl | rfl <;> omega
  · rw [e3]; rcases hp with rfl | rfl <;> rcases hr with rfl | rfl <;> rcases hs with rfl | rfl <;> omega
theorem eu_bounds {A B a b u v nu nv : Int} (h : Eu A B a b u v nu nv) :
    a.natAbs ≤ 1000000000000000000 ∧ b.natAbs ≤ 1000000000000000000 ∧ u.natAbs ≤ 1000000000000000000 ∧ v.natAbs ≤ 1000000000000000000 ∧ nu.natAbs ≤ 1000000000000000000 ∧ nv.natAbs ≤ 1000000000000000000 := by
  obtain ⟨_, _, p, r, t, s, α, β, U, N, V, M, hp, hr, ht, hs, ea, eb, eu, enu, ev, env, _, _, _, bU, bN, bV, bM, bα, bβ, _⟩ := h
  rw [ea, eb, eu, enu, ev, env]
  rcases hp with rfl | rfl <;> rcases hr with rfl | rfl <;> rcases ht with rfl | rfl <;> rcases hs with rfl | rfl <;> omega
theorem eu_end {A B a u v nu nv : Int} (hB : B ≠ 0) (h : Eu A B a 0 u v nu nv) :
    a.natAbs = Int.gcd A B ∧ u.natAbs < B.natAbs / Int.gcd A B ∧ a = u * A + v * B ∧ 0 < Int.gcd A B := by
  have hg : 0 < Int.gcd A B := Int.gcd_pos_of_ne_zero_right _ hB
  obtain ⟨l1, _, p, r, t, s, α, β, U, N, V, M, hp, hr, ht, hs, ea, eb, eu, enu, ev, env, i1, i2, ig, bU, bN, bV, bM, bα, bβ, hd⟩ := h
  have hβ : β = 0 := by rcases hr with rfl | rfl <;> omega
  subst hβ
  simp only [Nat.gcd_zero_right] at ig
  have hd' : U < N := by
    rcases hd with ⟨_, _, h3⟩ | ⟨_, _, h3⟩
    · omega
    · exact h3 rfl
  refine ⟨?_, ?_, l1, hg⟩
  · rw [ea, ← ig]; rcases hp with rfl | rfl <;> omega
  · have : B.natAbs / Int.gcd A B = N := by
      rw [← ig, ← i1]; simp only [Nat.zero_mul, Nat.add_zero]
      exact Nat.mul_div_cancel_left _ (by omega)
    rw [this, eu]; rcases hp with rfl | rfl <;> rcases hr with rfl | rfl <;> rcases ht with rfl | rfl <;> omega
end Go.Proofs.YtcnfhndejkngkaaGreatDoor.MathA
end

section
set_option linter.unusedSimpArgs false
set_option linter.unusedVariables false
set_option maxRecDepth 100000
namespace Go.Proofs.YtcnfhndejkngkaaGreatDoor
open Go.RowKit
theorem ret_int {k : IntKind} {a b : Int} (h : a = b) : Ending.returned (.int k a) = .returned (.int k b) := by rw [h]
theorem ret3 {k1 k2 k3 : IntKind} {a b c a' b' c' : Int} (h1 : a = a') (h2 : b = b') (h3 : c = c') : Ending.returned (.tuple #[.int k1 a, .int k2 b, .int k3 c]) = .returned (.tuple #[.int k1 a', .int k2 b', .int k3 c']) := by rw [h1, h2, h3]
theorem ret_bool {a b : Bool} (h : a = b) : Ending.returned (.bool a) = .returned (.bool b) := by rw [h]
def numB (n : Int) : Bool := decide (-1000000000000000000 ≤ n) && decide (n ≤ 1000000000000000000)
theorem numB_true {n : Int} (h : numB n = true) : -1000000000000000000 ≤ n ∧ n ≤ 1000000000000000000 := by
  simpa [numB] using h
theorem numB_mk {n : Int} (h1 : -1000000000000000000 ≤ n) (h2 : n ≤ 1000000000000000000) : numB n = true := by
  simp [numB, h1, h2]
theorem isNumber_any (n : Int) (w : World) :
    Calls Tryz.prog 64 #[.int .i64 n] w fun e w' => e = .returned (.bool (numB n)) ∧ w' = w := by
  by_cases h1 : -1000000000000000000 ≤ n <;> by_cases h2 : n ≤ 1000000000000000000
  all_goals
    go_enter Tryz.func64, Tryz.ntmps64
    go_wp2
    go_ret
    exact ⟨ret_bool (by simp [numB, *] <;> omega), rfl⟩
theorem size_any (n : Int) (w : World) (h1 : -9223372036854775807 ≤ n) (h2 : n ≤ 9223372036854775807) :
    Calls Tryz.prog 124 #[.int .i64 n] w fun e w' => e = .returned (.int .i64 (n.natAbs : Int)) ∧ w' = w := by
  by_cases h : n < 0
  all_goals
    go_enter Tryz.func124, Tryz.ntmps124
    go_wp2
    go_ret
    exact ⟨ret_int (by omega), rfl⟩
theorem sign_any (n : Int) (w : World) :
    Calls Tryz.prog 125 #[.int .i64 n] w fun e w' => e = .returned (.int .i64 n.sign) ∧ w' = w := by
  rcases Int.lt_trichotomy n 0 with h | h | h
  all_goals
    go_enter Tryz.func125, Tryz.ntmps125
    go_wp2
    go_ret
    refine ⟨ret_int ?_, rfl⟩
  · exact (Int.sign_eq_neg_one_of_neg h).symm
  · subst h; rfl
  · exact (Int.sign_eq_one_of_pos h).symm
theorem gcd_any (a b : Int) (w : World) (ha : a.natAbs ≤ 1000000000000000000) (hb : b.natAbs ≤ 1000000000000000000) :
    Calls Tryz.prog 97 #[.int .i64 a, .int .i64 b] w fun e w' => e = .returned (.int .i64 (Int.gcd a b : Int)) ∧ ∃ n, w' = w.drewN n := by
  go_enter Tryz.func97, Tryz.ntmps97
  go_wp2
  go_loopw [0, 1] (fun x y wr => ∃ p q : Int, x = .int .i64 p ∧ y = .int .i64 q ∧ p.natAbs ≤ 1000000000000000000 ∧ q.natAbs ≤ 1000000000000000000 ∧ Int.gcd p q = Int.gcd a b ∧ ∃ n, wr = w.drewN n) (fun _ y _ => (intOf y).natAbs)
  case atStart => exact ⟨a, b, rfl, rfl, ha, hb, rfl, 0, rfl⟩
  case round =>
    obtain ⟨p, q, rfl, rfl, hp, hq, hg, n, rfl⟩ := hrel
    have HG : Hid (Int.gcd p q = Int.gcd a b) := hg
    clear hg
    by_cases h0 : q = 0
    · subst h0
      go_wp2_with (go_at_call 124; refine (size_any _ _ (by omega) (by omega)).mono ?_; rintro e w' ⟨rfl, rfl⟩)
      go_ret
      refine ⟨ret_int ?_, n, rfl⟩
      rw [← HG.out, Int.gcd_zero_right]
    · have hs := MathA.natAbs_tmod_lt p q h0
      have hs2 := MathA.gcd_step p q
      have HS : Hid (Int.gcd q (p.tmod q) = Int.gcd p q) := hs2
      clear hs2
      go_wp2
      go_region
      all_goals
        go_wp2
        go_roundw
        case rel => exact ⟨q, p.tmod q, rfl, rfl, hq, by omega, HS.out.trans HG.out, n + 1, rfl⟩
        case measure => simpa [intOf] using hs
set_option maxHeartbeats 1000000 in
theorem euclid_any (a b : Int) (w : World) (ha : a.natAbs ≤ 1000000000000000000) (hb : b.natAbs ≤ 1000000000000000000) (h0 : b ≠ 0) :
    Calls Tryz.prog 126 #[.int .i64 a, .int .i64 b] w fun e w' => ∃ u v : Int, e = .returned (.tuple #[.int .i64 (Int.gcd a b : Int), .int .i64 u, .int .i64 v]) ∧
      u * a + v * b = (Int.gcd a b : Int) ∧ u.natAbs < b.natAbs / Int.gcd a b ∧ v.natAbs ≤ 1000000000000000000 ∧ ∃ n, w' = w.drewN n := by
  have HE : Hid (MathA.Eu a b a b 1 0 0 1) := MathA.eu_start a b ha hb h0
  go_enter Tryz.func126, Tryz.ntmps126
  go_wp2
  go_loopw [0, 1, 5, 6, 7, 8] (fun x y s t s2 t2 wr => ∃ p q u v nu nv : Int, x = .int .i64 p ∧ y = .int .i64 q ∧ s = .int .i64 u ∧ t = .int .i64 v ∧ s2 = .int .i64 nu ∧ t2 = .int .i64 nv ∧ MathA.Eu a b p q u v nu nv ∧ ∃ n, wr = w.drewN n) (fun _ y _ _ _ _ _ => (intOf y).natAbs)
  case atStart => exact ⟨a, b, 1, 0, 0, 1, rfl, rfl, rfl, rfl, rfl, rfl, HE.out, 0, rfl⟩
  case round =>
    obtain ⟨p, q, u, v, nu, nv, rfl, rfl, rfl, rfl, rfl, rfl, hE, n, rfl⟩ := hrel
    obtain ⟨b1, b2, b3, b4, b5, b6⟩ := MathA.eu_bounds hE
    by_cases hq : q = 0
    · subst hq
      obtain ⟨c1, c2, c3, c4⟩ := MathA.eu_end h0 hE
      have C1 : Hid (p.natAbs = Int.gcd a b) := c1
      have C3 : Hid (p = u * a + v * b) := c3
      clear c1 c3 hE HE
      by_cases hp : p < 0
      all_goals
        go_wp2
        go_ret3
      · refine ⟨-u, -v, ?_, ?_, by omega, by omega, n, rfl⟩
        · rw [← C1.out]; exact ret3 (by omega) rfl rfl
        · rw [← C1.out, Int.neg_mul, Int.neg_mul]; have := C3.out; omega
      · refine ⟨u, v, ?_, ?_, by omega, by omega, n, rfl⟩
        · rw [← C1.out]; exact ret3 (by omega) rfl rfl
        · rw [← C1.out]; have := C3.out; omega
    · obtain ⟨d1, d2, d3, d4, d5, d6⟩ := MathA.eu_step ha hb hE hq
      have D1 : Hid (MathA.Eu a b q (p - p.tdiv q * q) nu nv (u - p.tdiv q * nu) (v - p.tdiv q * nv)) := d1
      have D2 : Hid ((p - p.tdiv q * q).natAbs < q.natAbs) := d2
      clear d1 d2 hE HE
      go_wp2
      go_roundw
      case rel => exact ⟨q, _, nu, nv, _, _, rfl, rfl, rfl, rfl, rfl, rfl, D1.out, n, rfl⟩
      case measure => exact D2.out
end Go.Proofs.YtcnfhndejkngkaaGreatDoor
end

section
set_option linter.unusedSimpArgs false
set_option linter.unusedVariables false
set_option maxRecDepth 100000
namespace Go.Proofs.YtcnfhndejkngkaaGreatDoor
open Go.RowKit
theorem sign_self (x : Int) : x.sign * x = (x.natAbs : Int) := by
  rcases Int.lt_trichotomy x 0 with h | h | h
  · rw [Int.sign_eq_neg_one_of_neg h]; omega
  · subst h; rfl
  · rw [Int.sign_eq_one_of_pos h]; omega
theorem bez_fix (a b g u v : Int) (hg : 0 < g) (h : u * a + v * b = g) (ha : ∃ k, a = g * k) (hb : ∃ k, b = g * k) :
    (u + (b.natAbs : Int).tdiv g) * a + (v - b.sign * a.tdiv g) * b = g := by
  obtain ⟨x, rfl⟩ := ha
  obtain ⟨y, rfl⟩ := hb
  have e1 : (g * x).tdiv g = x := Int.mul_tdiv_cancel_left _ (by omega)
  have e2 : ((g * y).natAbs : Int).tdiv g = (y.natAbs : Int) := by
    rw [Int.natAbs_mul, Int.natCast_mul, Int.natAbs_of_nonneg (by omega)]; exact Int.mul_tdiv_cancel_left _ (by omega)
  have e3 : (g * y).sign = y.sign := by rw [Int.sign_mul, Int.sign_eq_one_of_pos hg, Int.one_mul]
  have e4 : (y.natAbs : Int) = y.sign * y := (sign_self y).symm
  rw [e1, e2, e3, e4, Int.add_mul, Int.sub_mul]
  have e5 : y.sign * y * (g * x) = y.sign * x * (g * y) := by simp only [Int.mul_assoc, Int.mul_comm, Int.mul_left_comm]
  omega
structure Bez (a b u v : Int) : Prop where
  lin : u * a + v * b = (Int.gcd a b : Int)
  nul : b = 0 → v = 0 ∧ u = a.sign
  low : b ≠ 0 → 0 ≤ u
  high : b ≠ 0 → u < (b.natAbs / Int.gcd a b : Nat)
  vb : v.natAbs ≤ 2000000000000000000
set_option maxHeartbeats 1000000 in
theorem bezout_any (a b : Int) (w : World) (ha : a.natAbs ≤ 1000000000000000000) (hb : b.natAbs ≤ 1000000000000000000) :
    Calls Tryz.prog 98 #[.int .i64 a, .int .i64 b] w fun e w' => ∃ u v : Int, e = .returned (.tuple #[.int .i64 (Int.gcd a b : Int), .int .i64 u, .int .i64 v]) ∧
      Bez a b u v ∧ ∃ n, w' = w.drewN n := by
  by_cases h0 : b = 0
  · subst h0
    have hq : (a.sign * a = (a.natAbs : Int)) := sign_self a
    have HQ : Hid (a.sign * a = (a.natAbs : Int)) := hq
    clear hq
    go_enter Tryz.func98, Tryz.ntmps98
    go_wp2_with (first | (go_at_call 124; refine (size_any _ _ (by omega) (by omega)).mono ?_; rintro e w' ⟨rfl, rfl⟩) | (go_at_call 125; refine (sign_any _ _).mono ?_; rintro e w' ⟨rfl, rfl⟩))
    go_ret3
    refine ⟨a.sign, 0, ret3 (by rw [Int.gcd_zero_right]) rfl rfl, ⟨?_, fun _ => ⟨rfl, rfl⟩, fun h => absurd rfl h, fun h => absurd rfl h, by decide⟩, 0, rfl⟩
    rw [Int.gcd_zero_right, HQ.out]; omega
  · have hgp : 0 < Int.gcd a b := Int.gcd_pos_of_ne_zero_right _ h0
    have hgb : (Int.gcd a b : Int) ∣ b := Int.gcd_dvd_right ..
    have hga : (Int.gcd a b : Int) ∣ a := Int.gcd_dvd_left ..
    have hdb : (b.natAbs : Int) / (Int.gcd a b : Int) ≤ 1000000000000000000 ∧ 0 ≤ (b.natAbs : Int) / (Int.gcd a b : Int) := by
      rw [← Int.natCast_ediv]; have := Nat.div_le_self b.natAbs (Int.gcd a b); generalize b.natAbs / Int.gcd a b = z at *; omega
    have hda : -1000000000000000000 ≤ b.sign * a.tdiv (Int.gcd a b : Int) ∧ b.sign * a.tdiv (Int.gcd a b : Int) ≤ 1000000000000000000 := by
      have h1 : (a.tdiv (Int.gcd a b : Int)).natAbs ≤ 1000000000000000000 := by
        rw [Int.natAbs_tdiv]; exact Nat.le_trans (Nat.div_le_self ..) ha
      rcases Int.lt_trichotomy b 0 with h | h | h
      · rw [Int.sign_eq_neg_one_of_neg h]; omega
      · exact absurd h h0
      · rw [Int.sign_eq_one_of_pos h]; omega
    go_enter Tryz.func98, Tryz.ntmps98
    go_wp2_with fail
    refine (euclid_any a b _ ha hb h0).mono ?_
    rintro e w1 ⟨u, v, rfl, hl, hu, hv, hw1⟩
    have HW : Hid (∃ n, w1 = w.drewN n) := hw1
    clear hw1
    have HL : Hid (u * a + v * b = (Int.gcd a b : Int)) := hl
    have HU : Hid (u.natAbs < b.natAbs / Int.gcd a b) := hu
    have hu2 : -1000000000000000000 ≤ u ∧ u ≤ 1000000000000000000 := by
      have := Nat.div_le_self b.natAbs (Int.gcd a b); omega
    clear hl hu
    by_cases hneg : u < 0
    · go_wp2_with (go_at_call 124; refine (size_any _ _ (by omega) (by omega)).mono ?_; rintro e w' ⟨rfl, rfl⟩)
      go_quiet ((go_at_call 125; exact Calls.quiet_of_same (sign_any _ _)))
      go_wp2
      go_ret3
      refine ⟨_, _, rfl, ⟨?_, fun h => absurd h h0, fun _ => ?_, fun _ => ?_, by omega⟩, ?_⟩
      · have := bez_fix a b (Int.gcd a b) u v (by omega) HL.out hga hgb
        rwa [Int.tdiv_eq_ediv_of_nonneg (by omega)] at this
      · have := HU.out; rw [← Int.natCast_ediv]; omega
      · rw [← Int.natCast_ediv]; omega
      · obtain ⟨n, rfl⟩ := HW.out; exact ⟨_, World.drewN_drewN ..⟩
    · go_wp2
      go_ret3
      exact ⟨u, v, rfl, ⟨HL.out, fun h => absurd h h0, fun _ => by omega, fun _ => by have := HU.out; omega, by omega⟩, HW.out⟩
end Go.Proofs.YtcnfhndejkngkaaGreatDoor
end

section
set_option linter.unusedSimpArgs false
set_option linter.unusedVariables false
set_option maxRecDepth 100000
namespace Go.Proofs.YtcnfhndejkngkaaGreatDoor
open Go.RowKit
def bwB (lo hi x : Int) : Bool := decide (lo ≤ x) && decide (x ≤ hi)
def nb (lo hi : Int) : Nat → List Int → Int × Int
  | _, [] => (0, 0)
  | i, x :: r => if bwB lo hi x = true then nb lo hi (i + 1) r else (3, i)
theorem nb_skip (lo hi : Int) (xs : List Int) (k : Nat) (hk : k ≤ xs.length) (h : ∀ j, j < k → bwB lo hi (xs.getD j 0) = true) : nb lo hi 0 xs = nb lo hi k (xs.drop k) := by
  induction k with
  | zero => rfl
  | succ n ih =>
    rw [ih (by omega) (fun j hj => h j (by omega)), List.drop_eq_getElem_cons (by omega), nb]
    have := h n (by omega)
    rw [List.getD_eq_getElem?_getD, List.getElem?_eq_getElem (by omega), Option.getD_some] at this
    rw [if_pos this]
theorem nb_none (lo hi : Int) (xs : List Int) (h : ∀ j, j < xs.length → bwB lo hi (xs.getD j 0) = true) : nb lo hi 0 xs = (0, 0) := by
  rw [nb_skip lo hi xs xs.length (Nat.le_refl _) h, List.drop_length]; rfl
theorem nb_hit (lo hi : Int) (xs : List Int) (k : Nat) (hk : k < xs.length) (h : ∀ j, j < k → bwB lo hi (xs.getD j 0) = true) (hb : bwB lo hi (xs.getD k 0) = false) : nb lo hi 0 xs = (3, (k : Int)) := by
  rw [nb_skip lo hi xs k (by omega) h, List.drop_eq_getElem_cons hk, nb]
  rw [List.getD_eq_getElem?_getD, List.getElem?_eq_getElem hk, Option.getD_some] at hb
  rw [if_neg (by simp [hb])]
def inB (m x : Int) : Bool := decide (-m ≤ x) && decide (x ≤ m)
def nw (m : Int) : Nat → List Int → Int × Int
  | _, [] => (0, 0)
  | i, x :: r => if inB m x = true then nw m (i + 1) r else (3, i)
set_option maxHeartbeats 400000 in
theorem between_any (lo hi : Int) (xs : List Int) (b o cap : Nat) (w : World) (hl : xs.length ≤ 1000000000) (hb : b < w.heap.size)
    (hc : ∀ j, j < xs.length → w.cell? ⟨b, o + j, none⟩ = some (.int .i64 (xs.getD j 0))) :
    Calls Tryz.prog 44 #[.int .i64 lo, .int .i64 hi, .slice (some ⟨b, o, none⟩) xs.length cap] w fun e w' => e = .returned (.agg #[.int .i64 (nb lo hi 0 xs).1, .int .i64 (nb lo hi 0 xs).2]) ∧ Below w.heap.size w w' := by
  go_enter Tryz.func44, Tryz.ntmps44
  go_wp2
  go_loop [11] (fun i => ∃ k : Nat, k ≤ xs.length ∧ i = .int .i64 k ∧ ∀ j, j < k → bwB lo hi (xs.getD j 0) = true) (fun i => xs.length - (intOf i).toNat)
  case atStart => exact ⟨0, Nat.zero_le _, rfl, fun j hj => absurd hj (Nat.not_lt_zero _)⟩
  case round =>
    obtain ⟨k, hk, rfl, hok⟩ := hrel
    have HOK : Hid (∀ j, j < k → bwB lo hi (xs.getD j 0) = true) := hok
    have HC := hc
    clear hok hc
    by_cases hlt : k < xs.length
    · have hck := HC k hlt
      obtain ⟨x, hx⟩ : ∃ x, x = xs.getD k 0 := ⟨_, rfl⟩
      rw [← hx] at hck
      have HX : Hid (x = xs.getD k 0) := hx
      clear HC hx
      by_cases h1 : x < lo
      · have t1 : decide (x < lo) = true := decide_eq_true h1
        have hn : Hid (bwB lo hi x = false) := by show _ = _; simp [bwB]; omega
        clear h1
        go_wp2
        refine bodyPost_ret (v := .agg #[.int .i64 3, .int .i64 k]) (by simp [results, Tryz.results44, go_sem]) rfl ⟨?_, ?_⟩
        · rw [nb_hit lo hi xs k hlt HOK.out (by rw [← HX.out]; exact hn.out)]
        · exact Below.alloc (Below.refl _ _) (Nat.le_refl _) _
      · have t1 : decide (x < lo) = false := decide_eq_false h1
        by_cases h2 : hi < x
        · have t2 : decide (hi < x) = true := decide_eq_true h2
          have hn : Hid (bwB lo hi x = false) := by show _ = _; simp [bwB]; omega
          clear h1 h2
          go_wp2
          refine bodyPost_ret (v := .agg #[.int .i64 3, .int .i64 k]) (by simp [results, Tryz.results44, go_sem]) rfl ⟨?_, ?_⟩
          · rw [nb_hit lo hi xs k hlt HOK.out (by rw [← HX.out]; exact hn.out)]
          · exact Below.alloc (Below.refl _ _) (Nat.le_refl _) _
        · have t2 : decide (hi < x) = false := decide_eq_false h2
          have hn : Hid (bwB lo hi x = true) := by show _ = _; simp [bwB]; omega
          clear h1 h2
          go_wp2
          go_round
          case rel =>
            refine ⟨k + 1, by omega, by go_num, fun j hj => ?_⟩
            by_cases hjk : j = k
            · subst hjk; rw [← HX.out]; exact hn.out
            · exact HOK.out j (by omega)
          case measure => simp [intOf]; omega
    · go_wp2
      refine bodyPost_ret (v := .agg #[.int .i64 0, .int .i64 0]) (by simp [results, Tryz.results44, go_sem]) rfl ⟨?_, ?_⟩
      · rw [nb_none lo hi xs (fun j hj => HOK.out j (by omega))]
      · exact Below.alloc (Below.refl _ _) (Nat.le_refl _) _
theorem nw_nb (m : Int) : ∀ (xs : List Int) (i : Nat), nw m i xs = nb (-m) m i xs
  | [], _ => rfl
  | x :: r, i => by rw [nw, nb, nw_nb m r (i + 1)]; rfl
set_option maxHeartbeats 400000 in
theorem bwithin_any (m : Int) (xs : List Int) (b o cap : Nat) (w : World) (hm0 : 0 ≤ m) (hm1 : m ≤ 1000000000000000000) (hl : xs.length ≤ 1000000000) (hb : b < w.heap.size)
    (hc : ∀ j, j < xs.length → w.cell? ⟨b, o + j, none⟩ = some (.int .i64 (xs.getD j 0))) :
    Calls Tryz.prog 123 #[.int .i64 m, .slice (some ⟨b, o, none⟩) xs.length cap] w fun e w' => e = .returned (.agg #[.int .i64 (nw m 0 xs).1, .int .i64 (nw m 0 xs).2]) ∧ Below w.heap.size w w' := by
  obtain ⟨K, hK⟩ : ∃ K, K = nw m 0 xs := ⟨_, rfl⟩
  have HB : Hid (∀ w', Below w.heap.size w w' → Calls Tryz.prog 44 #[.int .i64 (-m), .int .i64 m, .slice (some ⟨b, o, none⟩) xs.length cap] w' fun e w'' => e = .returned (.agg #[.int .i64 K.1, .int .i64 K.2]) ∧ Below w'.heap.size w' w'') := fun w' k => by
    rw [hK, nw_nb]
    exact between_any (-m) m xs b o cap w' hl (Nat.lt_of_lt_of_le hb k.size) (fun j hj => (k.cell (p := ⟨b, o + j, none⟩) hb).trans (hc j hj))
  rw [← hK]
  clear hK hc hl hb
  go_enter Tryz.func123, Tryz.ntmps123
  go_wp2_with fail
  have K0 : Below w.heap.size w (w.alloc (.cells #[.int .i64 0, .int .i64 0] 25)) := Below.alloc (Below.refl _ _) (Nat.le_refl _) _
  refine (HB.out _ K0).mono ?_
  rintro e w1 ⟨rfl, k1⟩
  have hz : w.heap.size < w1.heap.size := by have := k1.size; simp at this; omega
  have q0 : w1.cell? ⟨w.heap.size, 0, none⟩ = some (.int .i64 0) := cell_later k1 (by simp)
  have q1 : w1.cell? ⟨w.heap.size, 1, none⟩ = some (.int .i64 0) := cell_later k1 (by simp)
  have q2 : w1.frozen? ⟨w.heap.size, 0, none⟩ = false := (k1.frozen (p := ⟨w.heap.size, 0, none⟩) (by simp)).trans (by simp)
  have q3 : w1.frozen? ⟨w.heap.size, 1, none⟩ = false := (k1.frozen (p := ⟨w.heap.size, 1, none⟩) (by simp)).trans (by simp)
  have HK : Hid (Below w.heap.size w w1) := K0.trans (k1.mono (by simp))
  clear K0 k1 HB
  go_wp2
  refine bodyPost_ret (v := .agg #[.int .i64 K.1, .int .i64 K.2]) (by simp [results, Tryz.results123, go_sem, q0, q1, hz]) rfl ⟨rfl, ?_⟩
  exact Below.setCell (Below.setCell HK.out (Nat.le_refl _) _) (Nat.le_refl _) _
end Go.Proofs.YtcnfhndejkngkaaGreatDoor
end

section
set_option linter.unusedSimpArgs false
set_option linter.unusedVariables false
set_option maxRecDepth 100000
namespace Go.Proofs.YtcnfhndejkngkaaGreatDoor
open Go.RowKit
def nf : Nat → List Int → Int × Int
  | _, [] => (0, 0)
  | i, x :: r => if numB x = true then nf (i + 1) r else (3, i)
theorem number_any (n : Int) (w : World) :
    Calls Tryz.prog 35 #[.int .i64 n] w fun e w' => e = .returned (.bool (numB n)) ∧ w' = w := by
  by_cases h1 : -1000000000000000000 ≤ n <;> by_cases h2 : n ≤ 1000000000000000000
  all_goals
    go_enter Tryz.func35, Tryz.ntmps35
    go_wp2
    go_ret
    exact ⟨ret_bool (by simp [numB, *] <;> omega), rfl⟩
theorem nf_nw : ∀ (xs : List Int) (i : Nat), nf i xs = nw 1000000000000000000 i xs
  | [], _ => rfl
  | x :: r, i => by rw [nf, nw, nf_nw r (i + 1)]; rfl
set_option maxHeartbeats 400000 in
theorem numbersFault_any (xs : List Int) (b o cap : Nat) (w : World) (hl : xs.length ≤ 1000000000) (hb : b < w.heap.size)
    (hc : ∀ j, j < xs.length → w.cell? ⟨b, o + j, none⟩ = some (.int .i64 (xs.getD j 0))) :
    Calls Tryz.prog 96 #[.slice (some ⟨b, o, none⟩) xs.length cap] w fun e w' => e = .returned (.agg #[.int .i64 (nf 0 xs).1, .int .i64 (nf 0 xs).2]) ∧ Below w.heap.size w w' := by
  obtain ⟨K, hK⟩ : ∃ K, K = nf 0 xs := ⟨_, rfl⟩
  have HB : Hid (∀ w', Below w.heap.size w w' → Calls Tryz.prog 123 #[.int .i64 1000000000000000000, .slice (some ⟨b, o, none⟩) xs.length cap] w' fun e w'' => e = .returned (.agg #[.int .i64 K.1, .int .i64 K.2]) ∧ Below w'.heap.size w' w'') := fun w' k => by
    rw [hK, nf_nw]
    exact bwithin_any 1000000000000000000 xs b o cap w' (by decide) (by decide) hl (Nat.lt_of_lt_of_le hb k.size) (fun j hj => (k.cell (p := ⟨b, o + j, none⟩) hb).trans (hc j hj))
  rw [← hK]
  clear hK hc hl hb
  go_enter Tryz.func96, Tryz.ntmps96
  go_wp2_with fail
  have K0 : Below w.heap.size w (w.alloc (.cells #[.int .i64 0, .int .i64 0] 25)) := Below.alloc (Below.refl _ _) (Nat.le_refl _) _
  refine (HB.out _ K0).mono ?_
  rintro e w1 ⟨rfl, k1⟩
  have hz : w.heap.size < w1.heap.size := by have := k1.size; simp at this; omega
  have q0 : w1.cell? ⟨w.heap.size, 0, none⟩ = some (.int .i64 0) := cell_later k1 (by simp)
  have q1 : w1.cell? ⟨w.heap.size, 1, none⟩ = some (.int .i64 0) := cell_later k1 (by simp)
  have q2 : w1.frozen? ⟨w.heap.size, 0, none⟩ = false := (k1.frozen (p := ⟨w.heap.size, 0, none⟩) (by simp)).trans (by simp)
  have q3 : w1.frozen? ⟨w.heap.size, 1, none⟩ = false := (k1.frozen (p := ⟨w.heap.size, 1, none⟩) (by simp)).trans (by simp)
  have HK : Hid (Below w.heap.size w w1) := K0.trans (k1.mono (by simp))
  clear K0 k1 HB
  go_wp2
  refine bodyPost_ret (v := .agg #[.int .i64 K.1, .int .i64 K.2]) (by simp [results, Tryz.results96, go_sem, q0, q1, hz]) rfl ⟨rfl, ?_⟩
  exact Below.setCell (Below.setCell HK.out (Nat.le_refl _) _) (Nat.le_refl _) _
theorem below_drewN' {B n : Nat} {a w : World} (h : Below B a w) : Below B a (w.drewN n) := ⟨h.os, h.tape, h.output, h.size, h.block⟩
theorem two_cells (a b : Int) (W : World) (B : Nat) (h0 : W.cell? ⟨B, 0, none⟩ = some (.int .i64 a)) (h1 : W.cell? ⟨B, 1, none⟩ = some (.int .i64 b)) :
    ∀ j, j < [a, b].length → W.cell? ⟨B, 0 + j, none⟩ = some (.int .i64 ([a, b].getD j 0)) := by
  intro j hj
  match j, hj with
  | 0, _ => exact h0
  | 1, _ => exact h1
def okB (a b : Int) : Bool := numB a && numB b
theorem okB_bounds {a b : Int} (h : okB a b = true) : a.natAbs ≤ 1000000000000000000 ∧ b.natAbs ≤ 1000000000000000000 := by
  unfold okB at h; rw [Bool.and_eq_true] at h
  have h1 := numB_true h.1; have h2 := numB_true h.2; omega
theorem okB_nf {a b : Int} (h : okB a b = true) : nf 0 [a, b] = (0, 0) := by
  unfold okB at h; rw [Bool.and_eq_true] at h
  simp [nf, h.1, h.2]
set_option maxHeartbeats 400000 in
theorem Gcd_ok (a b : Int) (w : World) (h : okB a b = true) :
    Calls Tryz.prog 65 #[.int .i64 a, .int .i64 b] w fun e w' => e = .returned (.tuple #[.int .i64 (Int.gcd a b : Int), .agg #[.int .i64 0, .int .i64 0]]) ∧ Below w.heap.size w w' := by
  obtain ⟨ha, hb'⟩ := okB_bounds h
  have hcd := okB_nf h
  have HCD : Hid (nf 0 [a, b] = (0, 0)) := hcd
  clear hcd h
  go_enter Tryz.func65, Tryz.ntmps65
  go_wp2_with fail
  refine (numbersFault_any [a, b] _ 0 _ _ (by simp) ?_ ?_).mono ?_
  · simp
  · exact two_cells a b _ _ (by simp) (by simp)
  rw [HCD.out]
  rintro e w1 ⟨rfl, hb⟩
  have hz : w.heap.size < w1.heap.size := by have := hb.size; simp at this; omega
  have q0 : w1.cell? ⟨w.heap.size, 0, none⟩ = some (.int .i64 0) := cell_later hb (by simp)
  have q1 : w1.cell? ⟨w.heap.size, 1, none⟩ = some (.int .i64 0) := cell_later hb (by simp)
  have q2 : w1.frozen? ⟨w.heap.size, 0, none⟩ = false := (hb.frozen (p := ⟨w.heap.size, 0, none⟩) (by simp; omega)).trans (by simp)
  have q3 : w1.frozen? ⟨w.heap.size, 1, none⟩ = false := (hb.frozen (p := ⟨w.heap.size, 1, none⟩) (by simp; omega)).trans (by simp)
  go_wp2_with fail
  refine (gcd_any _ _ _ ha hb').mono ?_
  rintro e w2 ⟨rfl, n, rfl⟩
  go_wp2
  refine bodyPost_ret (v := .tuple #[.int .i64 (Int.gcd a b : Int), .agg #[.int .i64 0, .int .i64 0]]) (by simp [results, Tryz.results65, go_sem, q0, q1, hz]) rfl ⟨rfl, ?_⟩
  refine Below.setCell (Below.setCell (below_drewN' (Below.alloc (Below.trans (Below.alloc (Below.alloc (Below.refl _ _) ?_ _) ?_ _) (hb.mono ?_)) ?_ _)) ?_ _) ?_ _ <;> first | omega | (simp; done) | (simp; omega)
end Go.Proofs.YtcnfhndejkngkaaGreatDoor
end
