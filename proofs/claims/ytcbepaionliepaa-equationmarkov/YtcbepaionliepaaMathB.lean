/- Plain facts: one digit of a division by two halves of 32 bits. Nothing of the program. -/
set_option linter.unusedSimpArgs false
set_option linter.unusedVariables false
set_option maxRecDepth 100000
namespace Go.Proofs.Ytcbepaionliepaa.MathB

/-- A guess q of the digit of (u B + n) / (v1 B + v0), with its rest r by v1. -/
structure Dg (u v1 v0 n q r : Nat) : Prop where
  lin : q * v1 + r = u
  up : (u * 4294967296 + n) / (v1 * 4294967296 + v0) ≤ q

theorem dg_start (u v1 v0 n : Nat) (h1 : 0 < v1) (hn : n < 4294967296) : Dg u v1 v0 n (u / v1) (u % v1) := by
  refine ⟨by rw [Nat.mul_comm]; exact Nat.div_add_mod u v1, ?_⟩
  have e1 : (u * 4294967296 + n) / (v1 * 4294967296 + v0) ≤ (u * 4294967296 + n) / (v1 * 4294967296) := Nat.div_le_div_left (by omega) (by omega)
  have e2 : (u * 4294967296 + n) / (v1 * 4294967296) = u / v1 := by
    rw [Nat.mul_comm v1, ← Nat.div_div_eq_div_mul]
    congr 1; omega
  omega

theorem dg_small (u v1 v0 n : Nat) (hn : n < 4294967296) (hu : u < v1 * 4294967296 + v0) : (u * 4294967296 + n) / (v1 * 4294967296 + v0) < 4294967296 := by
  rw [Nat.div_lt_iff_lt_mul (by omega)]
  omega

theorem dg_step {u v1 v0 n q r : Nat} (h : Dg u v1 v0 n q r) (hn : n < 4294967296) (hu : u < v1 * 4294967296 + v0) (hc : 4294967296 ≤ q ∨ 4294967296 * r + n < q * v0) : 1 ≤ q ∧ Dg u v1 v0 n (q - 1) (r + v1) := by
  have hs := dg_small u v1 v0 n hn hu
  have hlt : (u * 4294967296 + n) / (v1 * 4294967296 + v0) < q := by
    rcases hc with hc | hc
    · omega
    · rw [Nat.div_lt_iff_lt_mul (by omega)]
      have := h.lin
      have e : q * (v1 * 4294967296 + v0) = q * v1 * 4294967296 + q * v0 := by rw [Nat.mul_add, Nat.mul_assoc]
      rw [e]; omega
  have hq : 1 ≤ q := Nat.lt_of_le_of_lt (Nat.zero_le _) hlt
  refine ⟨hq, ?_, by omega⟩
  have := h.lin
  obtain ⟨k, rfl⟩ : ∃ k, q = k + 1 := ⟨q - 1, by omega⟩
  rw [Nat.add_mul] at this
  simp only [Nat.add_sub_cancel]; omega

theorem dg_low {u v1 v0 n q r : Nat} (h : Dg u v1 v0 n q r) (hu : u < v1 * 4294967296 + v0) (h0 : v0 < 4294967296) (hr : 4294967296 ≤ r) : q < 4294967296 := by
  have := h.lin
  rcases Nat.lt_or_ge q 4294967296 with c | c
  · exact c
  · have : 4294967296 * v1 ≤ q * v1 := Nat.mul_le_mul_right _ c
    omega

theorem dg_end {u v1 v0 n q r : Nat} (h : Dg u v1 v0 n q r) (hu : u < v1 * 4294967296 + v0) (h0 : v0 < 4294967296) (hc : q * v0 ≤ 4294967296 * r + n ∨ 4294967296 ≤ r) :
    q = (u * 4294967296 + n) / (v1 * 4294967296 + v0) := by
  have hlin := h.lin
  have hc' : q * v0 ≤ 4294967296 * r + n := by
    rcases hc with hc | hc
    · exact hc
    · have hq := dg_low h hu h0 hc
      have := Nat.mul_le_mul (show q ≤ 4294967295 by omega) (show v0 ≤ 4294967295 by omega)
      omega
  refine Nat.le_antisymm ?_ h.up
  rw [Nat.le_div_iff_mul_le (by omega), Nat.mul_add, ← Nat.mul_assoc]
  omega

/-- Two digits: the quotient and the rest. -/
theorem two_digits (u n1 n0 Y q1 q0 : Nat) (hY : 0 < Y) (h1 : q1 = (u * 4294967296 + n1) / Y) (h0 : q0 = ((u * 4294967296 + n1) % Y * 4294967296 + n0) / Y) :
    (u * 18446744073709551616 + (n1 * 4294967296 + n0)) / Y = q1 * 4294967296 + q0 ∧ (u * 18446744073709551616 + (n1 * 4294967296 + n0)) % Y = ((u * 4294967296 + n1) % Y * 4294967296 + n0) % Y := by
  have e : u * 18446744073709551616 + (n1 * 4294967296 + n0) = Y * (q1 * 4294967296) + ((u * 4294967296 + n1) % Y * 4294967296 + n0) := by
    have := Nat.div_add_mod (u * 4294967296 + n1) Y
    rw [← h1] at this
    rw [← Nat.mul_assoc]
    generalize (u * 4294967296 + n1) % Y = z at *
    generalize Y * q1 = t at *
    omega
  rw [e]
  constructor
  · rw [Nat.mul_add_div hY, h0]
  · rw [Nat.mul_add_mod]

/-- What is shifted: a dividend of 128 bits. -/
theorem shifted (hi lo y s : Nat) (hlo : lo < 18446744073709551616) (hs : s ≤ 63) (hlt : hi < y) :
    lo / 2 ^ (64 - s) < 2 ^ s ∧ (hi * 2 ^ s + lo / 2 ^ (64 - s)) * 18446744073709551616 + lo * 2 ^ s % 18446744073709551616 = (hi * 18446744073709551616 + lo) * 2 ^ s ∧ hi * 2 ^ s + lo / 2 ^ (64 - s) < y * 2 ^ s := by
  have e64 : 2 ^ (64 - s) * 2 ^ s = 18446744073709551616 := by
    rw [← Nat.pow_add, show 64 - s + s = 64 by omega]
  have hp : 0 < 2 ^ s := Nat.two_pow_pos s
  have hp2 : 0 < 2 ^ (64 - s) := Nat.two_pow_pos _
  have h1 : lo / 2 ^ (64 - s) < 2 ^ s := by
    rw [Nat.div_lt_iff_lt_mul hp2, Nat.mul_comm, e64]; exact hlo
  have h2 : lo * 2 ^ s / 18446744073709551616 = lo / 2 ^ (64 - s) := by
    rw [← e64]; exact Nat.mul_div_mul_right _ _ hp
  have h3 := Nat.div_add_mod (lo * 2 ^ s) 18446744073709551616
  rw [h2] at h3
  have h4 : (hi + 1) * 2 ^ s ≤ y * 2 ^ s := Nat.mul_le_mul_right _ hlt
  rw [Nat.add_mul] at h4
  refine ⟨h1, ?_, by omega⟩
  have h5 : (hi * 18446744073709551616 + lo) * 2 ^ s = hi * 2 ^ s * 18446744073709551616 + lo * 2 ^ s := by rw [Nat.add_mul, Nat.mul_right_comm]
  rw [h5]
  generalize hi * 2 ^ s = A at *
  generalize lo / 2 ^ (64 - s) = D at *
  generalize lo * 2 ^ s = C at *
  omega

/-- The quotient and the rest of what was shifted. -/
theorem unshifted (X y s Q R : Nat) (h : X * 2 ^ s / (y * 2 ^ s) = Q) (h2 : X * 2 ^ s % (y * 2 ^ s) = R) : X / y = Q ∧ X % y = R / 2 ^ s := by
  have hp : 0 < 2 ^ s := Nat.two_pow_pos s
  rw [Nat.mul_div_mul_right _ _ hp] at h
  rw [Nat.mul_mod_mul_right] at h2
  refine ⟨h, ?_⟩
  rw [← h2, Nat.mul_div_cancel _ hp]

end Go.Proofs.Ytcbepaionliepaa.MathB
