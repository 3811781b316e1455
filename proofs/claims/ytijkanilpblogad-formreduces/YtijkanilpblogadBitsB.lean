/- Contracts of math/bits: LeadingZeros64, Div64, Rem64; and whole's productLeft. -/
import Derived.Test.YtijkanilpblogadBitsA
import Derived.Test.YtijkanilpblogadMathB
set_option linter.unusedSimpArgs false
set_option linter.unusedVariables false
set_option maxRecDepth 100000
namespace Go.Proofs.Ytijkanilpblogad
open Go.RowKit
theorem bl_spec (x : Nat) : x < 2 ^ 64 → x < 2 ^ Lib.bitLen x ∧ (x ≠ 0 → 2 ^ (Lib.bitLen x - 1) ≤ x) := by
  induction x using Nat.strongRecOn with
  | ind x ih =>
    intro hx
    by_cases h0 : x = 0
    · subst h0; exact ⟨Nat.two_pow_pos _, fun h => absurd rfl h⟩
    · have h1 := Lib.bitLen_half x h0 hx
      have h2 := ih (x / 2) (by omega) (by omega)
      generalize Lib.bitLen (x / 2) = b at *
      rw [h1]
      constructor
      · rw [Nat.pow_add]; omega
      · intro _
        have e : 1 + b - 1 = b := by omega
        rw [e]
        by_cases h3 : x / 2 = 0
        · have : b = 0 := by
            rcases Nat.eq_zero_or_pos b with k | k
            · exact k
            · have := h2.1; have h4 := h1
              exfalso
              have h5 : Lib.bitLen x = 1 := by
                have : x = 1 := by omega
                subst this; decide
              omega
          subst this; omega
        · have h4 := h2.2 h3
          have h5 : 0 < b := by
            rcases Nat.eq_zero_or_pos b with k | k
            · subst k; have := h2.1; simp at this; omega
            · exact k
          have e2 : 2 ^ b = 2 ^ (b - 1) * 2 := by rw [← Nat.pow_succ]; congr 1; omega
          omega

theorem mask_nat (a : Nat) (ha : a < 18446744073709551616) : bits .and .u64 (a : Int) 4294967295 = ((a % 4294967296 : Nat) : Int) := by
  rw [and_low32 (a : Int) (by omega) (by omega)]; simp
theorem wrapN (a : Nat) (ha : a < 18446744073709551616) : IntKind.u64.wrap (a : Int) = (a : Int) := by rw [IntKind.wrap_u64]; omega
theorem wrapM (a : Nat) : IntKind.u64.wrap (a : Int) = ((a % 18446744073709551616 : Nat) : Int) := by rw [IntKind.wrap_u64]; omega

theorem or_nat (a b s : Nat) (h : b < 2 ^ s) (h1 : a * 2 ^ s < 18446744073709551616) (h2 : b < 18446744073709551616) : bits .or .u64 ((a * 2 ^ s : Nat) : Int) (b : Int) = ((a * 2 ^ s + b : Nat) : Int) := by
  rw [bits_or_u64_nat _ _ h1 h2, Nat.mul_comm a, Nat.two_pow_add_eq_or_of_lt h]

theorem wrap_rem (u n q Y r : Nat) (h : u * 4294967296 + n = q * Y + r) (hr : r < 18446744073709551616) :
    IntKind.u64.wrap (IntKind.u64.wrap (IntKind.u64.wrap ((u : Int) * 4294967296) + (n : Int)) - IntKind.u64.wrap ((q : Int) * (Y : Int))) = (r : Int) := by
  simp only [IntKind.wrap_u64]
  have : (q : Int) * (Y : Int) = ((q * Y : Nat) : Int) := by simp
  rw [this]
  generalize q * Y = p at *
  omega

theorem cast_quo {hi lo y a b : Nat} (h : (hi * 18446744073709551616 + lo) / y = a * 4294967296 + b) : (a : Int) * 4294967296 + (b : Int) = ((hi : Int) * 18446744073709551616 + (lo : Int)) / (y : Int) := by
  have e : ((hi : Int) * 18446744073709551616 + (lo : Int)) / (y : Int) = (((hi * 18446744073709551616 + lo) / y : Nat) : Int) := by simp
  rw [e, h]; simp
theorem cast_rem {hi lo y R s : Nat} (h : (hi * 18446744073709551616 + lo) % y = R / 2 ^ s) : (R : Int) / 2 ^ s = ((hi : Int) * 18446744073709551616 + (lo : Int)) % (y : Int) := by
  have e : ((hi : Int) * 18446744073709551616 + (lo : Int)) % (y : Int) = (((hi * 18446744073709551616 + lo) % y : Nat) : Int) := by simp
  rw [e, h]; simp

theorem prod_leI2 (x y : Nat) (hx : x < 4294967296) (hy : y < 4294967296) : 0 ≤ (x : Int) * (y : Int) ∧ (x : Int) * (y : Int) ≤ 18446744065119617025 := by
  have := Nat.mul_le_mul (show x ≤ 4294967295 by omega) (show y ≤ 4294967295 by omega)
  rw [← Int.natCast_mul]; omega

end Go.Proofs.Ytijkanilpblogad
