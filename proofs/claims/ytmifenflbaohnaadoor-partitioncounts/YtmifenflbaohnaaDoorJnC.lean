import Derived.Test.YtmifenflbaohnaaDoorJnA
import Derived.Laws.Bits64b
import Derived.Laws.MathBits
import Derived.Lib.Strings
import Derived.Lib.Slices
import Derived.Lib.Small
import Derived.Lib.Walk
import Derived.Lib.BitFns
import Derived.Test.YtmifenflbaohnaaDoorWholeD
section
/- Contracts of math/bits: Mul64, Len64, LeadingZeros64. -/
set_option linter.unusedSimpArgs false
set_option linter.unusedVariables false
set_option maxRecDepth 100000
namespace Go.Proofs.YtmifenflbaohnaaDoor
open Go.RowKit

theorem ret2 {k1 k2 : IntKind} {a b a' b' : Int} (h1 : a = a') (h2 : b = b') : Ending.returned (.tuple #[.int k1 a, .int k2 b]) = .returned (.tuple #[.int k1 a', .int k2 b']) := by rw [h1, h2]

set_option maxHeartbeats 1000000 in
theorem Mul64_any (x y : Nat) (hx : x < 18446744073709551616) (hy : y < 18446744073709551616) (w : World) :
    Calls Tryd.prog 77 #[.int .u64 x, .int .u64 y] w fun e w' => e = .returned (.tuple #[.int .u64 ((x * y / 18446744073709551616 : Nat) : Int), .int .u64 ((x * y % 18446744073709551616 : Nat) : Int)]) ∧ w' = w := by
  have HA : Hid (((x * y / 18446744073709551616 : Nat) : Int) = (x : Int) * (y : Int) / 18446744073709551616 ∧ ((x * y % 18446744073709551616 : Nat) : Int) = (x : Int) * (y : Int) % 18446744073709551616) := by
    constructor <;> simp
  rw [HA.out.1, HA.out.2]
  have HM : Hid _ := mul64_arith (x : Int) (y : Int) (by omega) (by omega) (by omega) (by omega)
  have HX : Hid (bits .and .u64 (x : Int) 4294967295 = (x : Int) % 4294967296) := and_low32 _ (by omega) (by omega)
  have HY : Hid (bits .and .u64 (y : Int) 4294967295 = (y : Int) % 4294967296) := and_low32 _ (by omega) (by omega)
  clear HA hx hy
  go_enter Tryd.func77, Tryd.ntmps77
  go_wp2
  go_ret2
  refine ⟨ret2 ?_ ?_, rfl⟩
  · rw [HX.out, HY.out]
    simp only [IntKind.wrap_u64]
    rw [and_low32 _ (by omega) (by omega)]
    exact HM.out
  · rw [IntKind.wrap_u64]

set_option maxHeartbeats 1000000 in
set_option maxRecDepth 100000 in
theorem Len64_0 (x : Int) (w : World) (h0 : 0 ≤ x) (h1 : x ≤ 255) :
    Calls Tryd.prog 97 #[.int .u64 x] w fun e w' => e = .returned (.int .i64 (Lib.bitLen x.toNat)) ∧ w' = w := by
  have e1 : 0 ≤ x := by omega
  have e2 : x ≤ 255 := by omega
  have l := Lib.bitLen_le8' (x) e1 e2
  have HL : Hid (Lib.len8 (x) = (Lib.bitLen (x).toNat : Int)) := Lib.len8_of _ e1 e2
  go_enter Tryd.func97, Tryd.ntmps97
  go_wp2
  go_ret
  refine ⟨ret_int ?_, rfl⟩
  have hl := HL.out
  first | (rw [hl]; omega) | (simp only [wrap64, IntKind.wrap_i64]; rw [hl]; omega) | (rw [hl])

set_option maxHeartbeats 1000000 in
set_option maxRecDepth 100000 in
theorem Len64_8 (x : Int) (w : World) (h0 : 256 ≤ x) (h1 : x ≤ 65535) :
    Calls Tryd.prog 97 #[.int .u64 x] w fun e w' => e = .returned (.int .i64 (Lib.bitLen x.toNat)) ∧ w' = w := by
  have e1 : 0 ≤ x / 256 := by omega
  have e2 : x / 256 ≤ 255 := by omega
  have l := Lib.bitLen_le8' (x / 256) e1 e2
  have HL : Hid (Lib.len8 (x / 256) = (Lib.bitLen (x / 256).toNat : Int)) := Lib.len8_of _ e1 e2
  have HS : Hid (Lib.bitLen x.toNat = 8 + Lib.bitLen (x.toNat / 256)) := Lib.bitLen_shift8 x.toNat (by omega) (by omega)
  have HT : Hid ((x / 256).toNat = x.toNat / 256) := by show _ = _; omega
  go_enter Tryd.func97, Tryd.ntmps97
  go_wp2
  go_ret
  refine ⟨ret_int ?_, rfl⟩
  rw [HT.out] at l
  have hl := HL.out
  rw [HT.out] at hl
  rw [HS.out]
  first | (rw [hl]; omega) | (simp only [wrap64, IntKind.wrap_i64]; rw [hl]; omega)

set_option maxHeartbeats 1000000 in
set_option maxRecDepth 100000 in
theorem Len64_16 (x : Int) (w : World) (h0 : 65536 ≤ x) (h1 : x ≤ 16777215) :
    Calls Tryd.prog 97 #[.int .u64 x] w fun e w' => e = .returned (.int .i64 (Lib.bitLen x.toNat)) ∧ w' = w := by
  have e1 : 0 ≤ x / 65536 := by omega
  have e2 : x / 65536 ≤ 255 := by omega
  have l := Lib.bitLen_le8' (x / 65536) e1 e2
  have HL : Hid (Lib.len8 (x / 65536) = (Lib.bitLen (x / 65536).toNat : Int)) := Lib.len8_of _ e1 e2
  have HS : Hid (Lib.bitLen x.toNat = 16 + Lib.bitLen (x.toNat / 65536)) := Lib.bitLen_shift16 x.toNat (by omega) (by omega)
  have HT : Hid ((x / 65536).toNat = x.toNat / 65536) := by show _ = _; omega
  go_enter Tryd.func97, Tryd.ntmps97
  go_wp2
  go_ret
  refine ⟨ret_int ?_, rfl⟩
  rw [HT.out] at l
  have hl := HL.out
  rw [HT.out] at hl
  rw [HS.out]
  first | (rw [hl]; omega) | (simp only [wrap64, IntKind.wrap_i64]; rw [hl]; omega)

set_option maxHeartbeats 1000000 in
set_option maxRecDepth 100000 in
theorem Len64_24 (x : Int) (w : World) (h0 : 16777216 ≤ x) (h1 : x ≤ 4294967295) :
    Calls Tryd.prog 97 #[.int .u64 x] w fun e w' => e = .returned (.int .i64 (Lib.bitLen x.toNat)) ∧ w' = w := by
  have e1 : 0 ≤ x / 65536 / 256 := by omega
  have e2 : x / 65536 / 256 ≤ 255 := by omega
  have l := Lib.bitLen_le8' (x / 65536 / 256) e1 e2
  have HL : Hid (Lib.len8 (x / 65536 / 256) = (Lib.bitLen (x / 65536 / 256).toNat : Int)) := Lib.len8_of _ e1 e2
  have HS : Hid (Lib.bitLen x.toNat = 24 + Lib.bitLen (x.toNat / 16777216)) := Lib.bitLen_shift24 x.toNat (by omega) (by omega)
  have HT : Hid ((x / 65536 / 256).toNat = x.toNat / 16777216) := by show _ = _; omega
  go_enter Tryd.func97, Tryd.ntmps97
  go_wp2
  go_ret
  refine ⟨ret_int ?_, rfl⟩
  rw [HT.out] at l
  have hl := HL.out
  rw [HT.out] at hl
  rw [HS.out]
  first | (rw [hl]; omega) | (simp only [wrap64, IntKind.wrap_i64]; rw [hl]; omega)

set_option maxHeartbeats 1000000 in
set_option maxRecDepth 100000 in
theorem Len64_32 (x : Int) (w : World) (h0 : 4294967296 ≤ x) (h1 : x ≤ 1099511627775) :
    Calls Tryd.prog 97 #[.int .u64 x] w fun e w' => e = .returned (.int .i64 (Lib.bitLen x.toNat)) ∧ w' = w := by
  have e1 : 0 ≤ x / 4294967296 := by omega
  have e2 : x / 4294967296 ≤ 255 := by omega
  have l := Lib.bitLen_le8' (x / 4294967296) e1 e2
  have HL : Hid (Lib.len8 (x / 4294967296) = (Lib.bitLen (x / 4294967296).toNat : Int)) := Lib.len8_of _ e1 e2
  have HS : Hid (Lib.bitLen x.toNat = 32 + Lib.bitLen (x.toNat / 4294967296)) := Lib.bitLen_shift32 x.toNat (by omega) (by omega)
  have HT : Hid ((x / 4294967296).toNat = x.toNat / 4294967296) := by show _ = _; omega
  go_enter Tryd.func97, Tryd.ntmps97
  go_wp2
  go_ret
  refine ⟨ret_int ?_, rfl⟩
  rw [HT.out] at l
  have hl := HL.out
  rw [HT.out] at hl
  rw [HS.out]
  first | (rw [hl]; omega) | (simp only [wrap64, IntKind.wrap_i64]; rw [hl]; omega)

set_option maxHeartbeats 1000000 in
set_option maxRecDepth 100000 in
theorem Len64_40 (x : Int) (w : World) (h0 : 1099511627776 ≤ x) (h1 : x ≤ 281474976710655) :
    Calls Tryd.prog 97 #[.int .u64 x] w fun e w' => e = .returned (.int .i64 (Lib.bitLen x.toNat)) ∧ w' = w := by
  have e1 : 0 ≤ x / 4294967296 / 256 := by omega
  have e2 : x / 4294967296 / 256 ≤ 255 := by omega
  have l := Lib.bitLen_le8' (x / 4294967296 / 256) e1 e2
  have HL : Hid (Lib.len8 (x / 4294967296 / 256) = (Lib.bitLen (x / 4294967296 / 256).toNat : Int)) := Lib.len8_of _ e1 e2
  have HS : Hid (Lib.bitLen x.toNat = 40 + Lib.bitLen (x.toNat / 1099511627776)) := Lib.bitLen_shift40 x.toNat (by omega) (by omega)
  have HT : Hid ((x / 4294967296 / 256).toNat = x.toNat / 1099511627776) := by show _ = _; omega
  go_enter Tryd.func97, Tryd.ntmps97
  go_wp2
  go_ret
  refine ⟨ret_int ?_, rfl⟩
  rw [HT.out] at l
  have hl := HL.out
  rw [HT.out] at hl
  rw [HS.out]
  first | (rw [hl]; omega) | (simp only [wrap64, IntKind.wrap_i64]; rw [hl]; omega)

set_option maxHeartbeats 1000000 in
set_option maxRecDepth 100000 in
theorem Len64_48 (x : Int) (w : World) (h0 : 281474976710656 ≤ x) (h1 : x ≤ 72057594037927935) :
    Calls Tryd.prog 97 #[.int .u64 x] w fun e w' => e = .returned (.int .i64 (Lib.bitLen x.toNat)) ∧ w' = w := by
  have e1 : 0 ≤ x / 4294967296 / 65536 := by omega
  have e2 : x / 4294967296 / 65536 ≤ 255 := by omega
  have l := Lib.bitLen_le8' (x / 4294967296 / 65536) e1 e2
  have HL : Hid (Lib.len8 (x / 4294967296 / 65536) = (Lib.bitLen (x / 4294967296 / 65536).toNat : Int)) := Lib.len8_of _ e1 e2
  have HS : Hid (Lib.bitLen x.toNat = 48 + Lib.bitLen (x.toNat / 281474976710656)) := Lib.bitLen_shift48 x.toNat (by omega) (by omega)
  have HT : Hid ((x / 4294967296 / 65536).toNat = x.toNat / 281474976710656) := by show _ = _; omega
  go_enter Tryd.func97, Tryd.ntmps97
  go_wp2
  go_ret
  refine ⟨ret_int ?_, rfl⟩
  rw [HT.out] at l
  have hl := HL.out
  rw [HT.out] at hl
  rw [HS.out]
  first | (rw [hl]; omega) | (simp only [wrap64, IntKind.wrap_i64]; rw [hl]; omega)

set_option maxHeartbeats 1000000 in
set_option maxRecDepth 100000 in
theorem Len64_56 (x : Int) (w : World) (h0 : 72057594037927936 ≤ x) (h1 : x ≤ 18446744073709551615) :
    Calls Tryd.prog 97 #[.int .u64 x] w fun e w' => e = .returned (.int .i64 (Lib.bitLen x.toNat)) ∧ w' = w := by
  have e1 : 0 ≤ x / 4294967296 / 65536 / 256 := by omega
  have e2 : x / 4294967296 / 65536 / 256 ≤ 255 := by omega
  have l := Lib.bitLen_le8' (x / 4294967296 / 65536 / 256) e1 e2
  have HL : Hid (Lib.len8 (x / 4294967296 / 65536 / 256) = (Lib.bitLen (x / 4294967296 / 65536 / 256).toNat : Int)) := Lib.len8_of _ e1 e2
  have HS : Hid (Lib.bitLen x.toNat = 56 + Lib.bitLen (x.toNat / 72057594037927936)) := Lib.bitLen_shift56 x.toNat (by omega) (by omega)
  have HT : Hid ((x / 4294967296 / 65536 / 256).toNat = x.toNat / 72057594037927936) := by show _ = _; omega
  go_enter Tryd.func97, Tryd.ntmps97
  go_wp2
  go_ret
  refine ⟨ret_int ?_, rfl⟩
  rw [HT.out] at l
  have hl := HL.out
  rw [HT.out] at hl
  rw [HS.out]
  first | (rw [hl]; omega) | (simp only [wrap64, IntKind.wrap_i64]; rw [hl]; omega)

theorem Len64_int (x : Int) (w : World) (h0 : 0 ≤ x) (h1 : x ≤ 18446744073709551615) :
    Calls Tryd.prog 97 #[.int .u64 x] w fun e w' => e = .returned (.int .i64 (Lib.bitLen x.toNat)) ∧ w' = w := by
  rcases Int.lt_or_le x 256 with c | c
  · exact Len64_0 x w h0 (by omega)
  rcases Int.lt_or_le x 65536 with d1 | d1
  · exact Len64_8 x w (by omega) (by omega)
  rcases Int.lt_or_le x 16777216 with d2 | d2
  · exact Len64_16 x w (by omega) (by omega)
  rcases Int.lt_or_le x 4294967296 with d3 | d3
  · exact Len64_24 x w (by omega) (by omega)
  rcases Int.lt_or_le x 1099511627776 with d4 | d4
  · exact Len64_32 x w (by omega) (by omega)
  rcases Int.lt_or_le x 281474976710656 with d5 | d5
  · exact Len64_40 x w (by omega) (by omega)
  rcases Int.lt_or_le x 72057594037927936 with d6 | d6
  · exact Len64_48 x w (by omega) (by omega)
  exact Len64_56 x w (by omega) (by omega)

end Go.Proofs.YtmifenflbaohnaaDoor
end

section
/- Plain facts: one digit of a division by two halves of 32 bits. Nothing of the program. -/
set_option linter.unusedSimpArgs false
set_option linter.unusedVariables false
set_option maxRecDepth 100000
namespace Go.Proofs.YtmifenflbaohnaaDoor.MathB

/-- A guess q of the digit of (u B + n) / (v1 B + v0), with its rest r by v1. -/
structure Dg (u v1 v0 n q r : Nat) : Prop where
  lin : q * v1 + r = u
  up : (u * 4294967296 + n) / (v1 * 4294967296 + v0) ≤ q

theorem dg_start (u v1 v0 n : Nat) (h1 : 0 < v1) (hn : n < 4294967296) : Dg u v1 v0 n (u / v1) (u % v1) := by
  refine ⟨by rw [Nat.mul_comm]; exact Nat.div_add_mod u v1, ?_⟩
  have e1 : (u * 4294967296 + n) / (v1 * 4294967296 + v0) ≤ (u * 4294967296 + n) / (v1 * 4294967296) := Nat.div_le_div_left (by omega) (by omega)
  have e2 : (u * 4294967296 + n) / (v1 * 4294967296) = u / v1 := by
    rw [Nat.mul_comm v1, ← Nat.div_div_eq_div_mul]
    congr 1; omega
  omega

theorem dg_small (u v1 v0 n : Nat) (hn : n < 4294967296) (hu : u < v1 * 4294967296 + v0) : (u * 4294967296 + n) / (v1 * 4294967296 + v0) < 4294967296 := by
  rw [Nat.div_lt_iff_lt_mul (by omega)]
  omega

theorem dg_step {u v1 v0 n q r : Nat} (h : Dg u v1 v0 n q r) (hn : n < 4294967296) (hu : u < v1 * 4294967296 + v0) (hc : 4294967296 ≤ q ∨ 4294967296 * r + n < q * v0) : 1 ≤ q ∧ Dg u v1 v0 n (q - 1) (r + v1) := by
  have hs := dg_small u v1 v0 n hn hu
  have hlt : (u * 4294967296 + n) / (v1 * 4294967296 + v0) < q := by
    rcases hc with hc | hc
    · omega
    · rw [Nat.div_lt_iff_lt_mul (by omega)]
      have := h.lin
      have e : q * (v1 * 4294967296 + v0) = q * v1 * 4294967296 + q * v0 := by rw [Nat.mul_add, Nat.mul_assoc]
      rw [e]; omega
  have hq : 1 ≤ q := Nat.lt_of_le_of_lt (Nat.zero_le _) hlt
  refine ⟨hq, ?_, by omega⟩
  have := h.lin
  obtain ⟨k, rfl⟩ : ∃ k, q = k + 1 := ⟨q - 1, by omega⟩
  rw [Nat.add_mul] at this
  simp only [Nat.add_sub_cancel]; omega

theorem dg_low {u v1 v0 n q r : Nat} (h : Dg u v1 v0 n q r) (hu : u < v1 * 4294967296 + v0) (h0 : v0 < 4294967296) (hr : 4294967296 ≤ r) : q < 4294967296 := by
  have := h.lin
  rcases Nat.lt_or_ge q 4294967296 with c | c
  · exact c
  · have : 4294967296 * v1 ≤ q * v1 := Nat.mul_le_mul_right _ c
    omega

theorem dg_end {u v1 v0 n q r : Nat} (h : Dg u v1 v0 n q r) (hu : u < v1 * 4294967296 + v0) (h0 : v0 < 4294967296) (hc : q * v0 ≤ 4294967296 * r + n ∨ 4294967296 ≤ r) :
    q = (u * 4294967296 + n) / (v1 * 4294967296 + v0) := by
  have hlin := h.lin
  have hc' : q * v0 ≤ 4294967296 * r + n := by
    rcases hc with hc | hc
    · exact hc
    · have hq := dg_low h hu h0 hc
      have := Nat.mul_le_mul (show q ≤ 4294967295 by omega) (show v0 ≤ 4294967295 by omega)
      omega
  refine Nat.le_antisymm ?_ h.up
  rw [Nat.le_div_iff_mul_le (by omega), Nat.mul_add, ← Nat.mul_assoc]
  omega

/-- Two digits: the quotient and the rest. -/
theorem two_digits (u n1 n0 Y q1 q0 : Nat) (hY : 0 < Y) (h1 : q1 = (u * 4294967296 + n1) / Y) (h0 : q0 = ((u * 4294967296 + n1) % Y * 4294967296 + n0) / Y) :
    (u * 18446744073709551616 + (n1 * 4294967296 + n0)) / Y = q1 * 4294967296 + q0 ∧ (u * 18446744073709551616 + (n1 * 4294967296 + n0)) % Y = ((u * 4294967296 + n1) % Y * 4294967296 + n0) % Y := by
  have e : u * 18446744073709551616 + (n1 * 4294967296 + n0) = Y * (q1 * 4294967296) + ((u * 4294967296 + n1) % Y * 4294967296 + n0) := by
    have := Nat.div_add_mod (u * 4294967296 + n1) Y
    rw [← h1] at this
    rw [← Nat.mul_assoc]
    generalize (u * 4294967296 + n1) % Y = z at *
    generalize Y * q1 = t at *
    omega
  rw [e]
  constructor
  · rw [Nat.mul_add_div hY, h0]
  · rw [Nat.mul_add_mod]

/-- What is shifted: a dividend of 128 bits. -/
theorem shifted (hi lo y s : Nat) (hlo : lo < 18446744073709551616) (hs : s ≤ 63) (hlt : hi < y) :
    lo / 2 ^ (64 - s) < 2 ^ s ∧ (hi * 2 ^ s + lo / 2 ^ (64 - s)) * 18446744073709551616 + lo * 2 ^ s % 18446744073709551616 = (hi * 18446744073709551616 + lo) * 2 ^ s ∧ hi * 2 ^ s + lo / 2 ^ (64 - s) < y * 2 ^ s := by
  have e64 : 2 ^ (64 - s) * 2 ^ s = 18446744073709551616 := by
    rw [← Nat.pow_add, show 64 - s + s = 64 by omega]
  have hp : 0 < 2 ^ s := Nat.two_pow_pos s
  have hp2 : 0 < 2 ^ (64 - s) := Nat.two_pow_pos _
  have h1 : lo / 2 ^ (64 - s) < 2 ^ s := by
    rw [Nat.div_lt_iff_lt_mul hp2, Nat.mul_comm, e64]; exact hlo
  have h2 : lo * 2 ^ s / 18446744073709551616 = lo / 2 ^ (64 - s) := by
    rw [← e64]; exact Nat.mul_div_mul_right _ _ hp
  have h3 := Nat.div_add_mod (lo * 2 ^ s) 18446744073709551616
  rw [h2] at h3
  have h4 : (hi + 1) * 2 ^ s ≤ y * 2 ^ s := Nat.mul_le_mul_right _ hlt
  rw [Nat.add_mul] at h4
  refine ⟨h1, ?_, by omega⟩
  have h5 : (hi * 18446744073709551616 + lo) * 2 ^ s = hi * 2 ^ s * 18446744073709551616 + lo * 2 ^ s := by rw [Nat.add_mul, Nat.mul_right_comm]
  rw [h5]
  generalize hi * 2 ^ s = A at *
  generalize lo / 2 ^ (64 - s) = D at *
  generalize lo * 2 ^ s = C at *
  omega

/-- The quotient and the rest of what was shifted. -/
theorem unshifted (X y s Q R : Nat) (h : X * 2 ^ s / (y * 2 ^ s) = Q) (h2 : X * 2 ^ s % (y * 2 ^ s) = R) : X / y = Q ∧ X % y = R / 2 ^ s := by
  have hp : 0 < 2 ^ s := Nat.two_pow_pos s
  rw [Nat.mul_div_mul_right _ _ hp] at h
  rw [Nat.mul_mod_mul_right] at h2
  refine ⟨h, ?_⟩
  rw [← h2, Nat.mul_div_cancel _ hp]

end Go.Proofs.YtmifenflbaohnaaDoor.MathB
end

section
/- Contracts of math/bits: LeadingZeros64, Div64, Rem64; and whole's productLeft. -/
set_option linter.unusedSimpArgs false
set_option linter.unusedVariables false
set_option maxRecDepth 100000
namespace Go.Proofs.YtmifenflbaohnaaDoor
open Go.RowKit
theorem bl_spec (x : Nat) : x < 2 ^ 64 → x < 2 ^ Lib.bitLen x ∧ (x ≠ 0 → 2 ^ (Lib.bitLen x - 1) ≤ x) := by
  induction x using Nat.strongRecOn with
  | ind x ih =>
    intro hx
    by_cases h0 : x = 0
    · subst h0; exact ⟨Nat.two_pow_pos _, fun h => absurd rfl h⟩
    · have h1 := Lib.bitLen_half x h0 hx
      have h2 := ih (x / 2) (by omega) (by omega)
      generalize Lib.bitLen (x / 2) = b at *
      rw [h1]
      constructor
      · rw [Nat.pow_add]; omega
      · intro _
        have e : 1 + b - 1 = b := by omega
        rw [e]
        by_cases h3 : x / 2 = 0
        · have : b = 0 := by
            rcases Nat.eq_zero_or_pos b with k | k
            · exact k
            · have := h2.1; have h4 := h1
              exfalso
              have h5 : Lib.bitLen x = 1 := by
                have : x = 1 := by omega
                subst this; decide
              omega
          subst this; omega
        · have h4 := h2.2 h3
          have h5 : 0 < b := by
            rcases Nat.eq_zero_or_pos b with k | k
            · subst k; have := h2.1; simp at this; omega
            · exact k
          have e2 : 2 ^ b = 2 ^ (b - 1) * 2 := by rw [← Nat.pow_succ]; congr 1; omega
          omega

theorem mask_nat (a : Nat) (ha : a < 18446744073709551616) : bits .and .u64 (a : Int) 4294967295 = ((a % 4294967296 : Nat) : Int) := by
  rw [and_low32 (a : Int) (by omega) (by omega)]; simp
theorem wrapN (a : Nat) (ha : a < 18446744073709551616) : IntKind.u64.wrap (a : Int) = (a : Int) := by rw [IntKind.wrap_u64]; omega
theorem wrapM (a : Nat) : IntKind.u64.wrap (a : Int) = ((a % 18446744073709551616 : Nat) : Int) := by rw [IntKind.wrap_u64]; omega

theorem or_nat (a b s : Nat) (h : b < 2 ^ s) (h1 : a * 2 ^ s < 18446744073709551616) (h2 : b < 18446744073709551616) : bits .or .u64 ((a * 2 ^ s : Nat) : Int) (b : Int) = ((a * 2 ^ s + b : Nat) : Int) := by
  rw [bits_or_u64_nat _ _ h1 h2, Nat.mul_comm a, Nat.two_pow_add_eq_or_of_lt h]

theorem wrap_rem (u n q Y r : Nat) (h : u * 4294967296 + n = q * Y + r) (hr : r < 18446744073709551616) :
    IntKind.u64.wrap (IntKind.u64.wrap (IntKind.u64.wrap ((u : Int) * 4294967296) + (n : Int)) - IntKind.u64.wrap ((q : Int) * (Y : Int))) = (r : Int) := by
  simp only [IntKind.wrap_u64]
  have : (q : Int) * (Y : Int) = ((q * Y : Nat) : Int) := by simp
  rw [this]
  generalize q * Y = p at *
  omega

theorem cast_quo {hi lo y a b : Nat} (h : (hi * 18446744073709551616 + lo) / y = a * 4294967296 + b) : (a : Int) * 4294967296 + (b : Int) = ((hi : Int) * 18446744073709551616 + (lo : Int)) / (y : Int) := by
  have e : ((hi : Int) * 18446744073709551616 + (lo : Int)) / (y : Int) = (((hi * 18446744073709551616 + lo) / y : Nat) : Int) := by simp
  rw [e, h]; simp
theorem cast_rem {hi lo y R s : Nat} (h : (hi * 18446744073709551616 + lo) % y = R / 2 ^ s) : (R : Int) / 2 ^ s = ((hi : Int) * 18446744073709551616 + (lo : Int)) % (y : Int) := by
  have e : ((hi : Int) * 18446744073709551616 + (lo : Int)) % (y : Int) = (((hi * 18446744073709551616 + lo) % y : Nat) : Int) := by simp
  rw [e, h]; simp

theorem prod_leI2 (x y : Nat) (hx : x < 4294967296) (hy : y < 4294967296) : 0 ≤ (x : Int) * (y : Int) ∧ (x : Int) * (y : Int) ≤ 18446744065119617025 := by
  have := Nat.mul_le_mul (show x ≤ 4294967295 by omega) (show y ≤ 4294967295 by omega)
  rw [← Int.natCast_mul]; omega

end Go.Proofs.YtmifenflbaohnaaDoor
end

section
/- Plain facts: joining two remainders, and a list of them. Nothing of the program. -/
set_option linter.unusedSimpArgs false
set_option linter.unusedVariables false
set_option maxRecDepth 100000
namespace Go.Proofs.YtmifenflbaohnaaDoor.MathC

/-- One joining: steps of m that fill the gap. -/
theorem join_step (r m mk u v g gap q : Int) (st : Int) (more : Int) (hg : g ≠ 0) (hmk : mk = g * more) (hm : ∃ x, m = g * x) (hl : u * m + v * mk = g) (hgap : gap = g * q) (hst : ∃ k, st = q * u + k * more) :
    ∃ z, st * m - gap = mk * z := by
  obtain ⟨x, rfl⟩ := hm
  obtain ⟨k, rfl⟩ := hst
  subst hmk hgap
  refine ⟨k * x - q * v, ?_⟩
  have e1 : (q * u + k * more) * (g * x) = q * (u * (g * x)) + (g * more) * (k * x) := by
    rw [Int.add_mul]; congr 1 <;> simp only [Int.mul_assoc, Int.mul_comm, Int.mul_left_comm]
  have e2 : u * (g * x) = g - v * (g * more) := by omega
  rw [e1, e2, Int.mul_sub, Int.mul_sub]
  have e3 : q * (v * (g * more)) = g * more * (q * v) := by simp only [Int.mul_assoc, Int.mul_comm, Int.mul_left_comm]
  have e4 : q * g = g * q := Int.mul_comm ..
  omega

/-- The least number that the first k of ms divide. -/
def jl (ms : List Int) : Nat → Nat
  | 0 => 1
  | k + 1 => Nat.lcm (jl ms k) (ms.getD k 0).toNat

def K : Int := 1000000000000000000

/-- The state behind k places. -/
structure JSt (rs ms : List Int) (k : Nat) (r m : Nat) : Prop where
  hi : r < m
  cap : (m : Int) ≤ 1000000000000000000
  ok : ∀ j, j < k → -1000000000000000000 ≤ rs.getD j 0 ∧ rs.getD j 0 ≤ 1000000000000000000 ∧ 1 ≤ ms.getD j 0 ∧ ms.getD j 0 ≤ 1000000000000000000
  lcm : m = jl ms k
  cong : ∀ j, j < k → ms.getD j 0 ∣ (r : Int) - rs.getD j 0

theorem jst_start (rs ms : List Int) : JSt rs ms 0 0 1 := ⟨by omega, by omega, fun j hj => absurd hj (Nat.not_lt_zero _), rfl, fun j hj => absurd hj (Nat.not_lt_zero _)⟩

theorem jl_dvd (ms : List Int) (d : Int) : ∀ k, (∀ j, j < k → 1 ≤ ms.getD j 0 ∧ ms.getD j 0 ∣ d) → (jl ms k : Int) ∣ d := by
  intro k
  induction k with
  | zero => intro _; exact ⟨d, by simp [jl]⟩
  | succ n ih =>
    intro h
    have h1 := ih (fun j hj => h j (by omega))
    obtain ⟨h2, h3⟩ := h n (by omega)
    have e : ((ms.getD n 0).toNat : Int) = ms.getD n 0 := by omega
    have h4 : ((ms.getD n 0).toNat : Int) ∣ d := by rw [e]; exact h3
    rw [Int.ofNat_dvd_left] at h1 h4 ⊢
    exact Nat.lcm_dvd h1 h4

theorem jl_mem (ms : List Int) (j : Nat) : ∀ k, j < k → 1 ≤ ms.getD j 0 → ms.getD j 0 ∣ (jl ms k : Int) := by
  intro k
  induction k with
  | zero => intro h; exact absurd h (Nat.not_lt_zero _)
  | succ q ih =>
    intro h h1
    by_cases e : j = q
    · subst e
      have e2 : ((ms.getD j 0).toNat : Int) = ms.getD j 0 := by omega
      have : ((ms.getD j 0).toNat : Int) ∣ ((Nat.lcm (jl ms j) (ms.getD j 0).toNat : Nat) : Int) := by
        rw [Int.ofNat_dvd_left]; exact Nat.dvd_lcm_right _ _
      rw [e2] at this; exact this
    · refine Int.dvd_trans (ih (by omega) h1) ?_
      rw [Int.ofNat_dvd_left]; exact Nat.dvd_lcm_left _ _

theorem jst_unique {rs ms : List Int} {k r m r' m' : Nat} (h : JSt rs ms k r m) (h' : JSt rs ms k r' m') : r = r' ∧ m = m' := by
  have hm : m = m' := h.lcm.trans h'.lcm.symm
  subst hm
  refine ⟨?_, rfl⟩
  have hd : (m : Int) ∣ (r : Int) - (r' : Int) := by
    rw [h.lcm]
    refine jl_dvd ms _ k fun j hj => ⟨(h.ok j hj).2.2.1, ?_⟩
    have h1 := h.cong j hj
    have h2 := h'.cong j hj
    have : (r : Int) - (r' : Int) = ((r : Int) - rs.getD j 0) - ((r' : Int) - rs.getD j 0) := by omega
    rw [this]; exact Int.dvd_sub h1 h2
  obtain ⟨z, hz⟩ := hd
  have h1 := h.hi
  have h2 := h'.hi
  have hz0 : z = 0 := by
    rcases Int.lt_trichotomy z 0 with c | c | c
    · have : (m : Int) * z ≤ (m : Int) * (-1) := Int.mul_le_mul_of_nonneg_left (by omega) (by omega)
      omega
    · exact c
    · have : (m : Int) * 1 ≤ (m : Int) * z := Int.mul_le_mul_of_nonneg_left (by omega) (by omega)
      omega
  subst hz0
  omega

theorem lcm_mul (a b : Nat) : Nat.lcm a b = a * (b / Nat.gcd a b) := by
  unfold Nat.lcm
  exact Nat.mul_div_assoc a (Nat.gcd_dvd_right a b)

theorem jst_next {rs ms : List Int} {k r m R : Nat} (h : JSt rs ms k r m) (n : Nat) (hn : ms.getD k 0 = (n : Int)) (h1 : 1 ≤ n) (h2 : (n : Int) ≤ 1000000000000000000) (h3 : -1000000000000000000 ≤ rs.getD k 0) (h4 : rs.getD k 0 ≤ 1000000000000000000)
    (hcap : ((m * (n / Nat.gcd m n) : Nat) : Int) ≤ 1000000000000000000) (hR : R < m * (n / Nat.gcd m n)) (d1 : (m : Int) ∣ (R : Int) - (r : Int)) (d2 : (n : Int) ∣ (R : Int) - rs.getD k 0) :
    JSt rs ms (k + 1) R (m * (n / Nat.gcd m n)) := by
  refine ⟨hR, hcap, fun j hj => ?_, ?_, fun j hj => ?_⟩
  · by_cases e : j = k
    · subst e; rw [hn]; omega
    · exact h.ok j (by omega)
  · show _ = Nat.lcm (jl ms k) (ms.getD k 0).toNat
    rw [hn, Int.toNat_natCast, ← h.lcm, lcm_mul]
  · by_cases e : j = k
    · subst e; rw [hn]; exact d2
    · have h5 := h.cong j (by omega)
      have h6 : ms.getD j 0 ∣ (m : Int) := by
        rw [h.lcm]
        exact jl_mem ms j k (by omega) (h.ok j (by omega)).2.2.1
      have : (R : Int) - rs.getD j 0 = ((R : Int) - (r : Int)) + ((r : Int) - rs.getD j 0) := by omega
      rw [this]
      exact Int.dvd_add (Int.dvd_trans h6 d1) h5

theorem bezout_nat : ∀ (n m : Nat), ∃ u v : Int, u * (m : Int) + v * (n : Int) = (Nat.gcd m n : Int) := by
  intro n
  induction n using Nat.strongRecOn with
  | ind n ih =>
    intro m
    by_cases h0 : n = 0
    · subst h0; exact ⟨1, 0, by simp⟩
    · obtain ⟨u, v, h⟩ := ih (m % n) (Nat.mod_lt _ (by omega)) n
      refine ⟨v, u - v * ((m / n : Nat) : Int), ?_⟩
      have e : Nat.gcd n (m % n) = Nat.gcd m n := by rw [Nat.gcd_comm n, ← Nat.gcd_rec, Nat.gcd_comm]
      rw [e] at h
      have e2 : (m : Int) = (n : Int) * ((m / n : Nat) : Int) + ((m % n : Nat) : Int) := by rw [← Int.natCast_mul, ← Int.natCast_add, Nat.div_add_mod]
      rw [← h, Int.sub_mul]
      have e3 : v * (m : Int) = v * ((m / n : Nat) : Int) * (n : Int) + v * ((m % n : Nat) : Int) := by
        rw [Int.mul_assoc, ← Int.mul_add, Int.mul_comm ((m / n : Nat) : Int), ← e2]
      omega

theorem crt_exists (r m n : Nat) (a : Int) (hr : r < m) (h1 : 1 ≤ n) (hd : (Nat.gcd m n : Int) ∣ a - (r : Int)) :
    ∃ R : Nat, R < m * (n / Nat.gcd m n) ∧ (m : Int) ∣ (R : Int) - (r : Int) ∧ (n : Int) ∣ (R : Int) - a := by
  obtain ⟨u, v, hl⟩ := bezout_nat n m
  have hg0 : 0 < Nat.gcd m n := Nat.gcd_pos_of_pos_left _ (by omega)
  obtain ⟨xm, hxm⟩ := Nat.gcd_dvd_left m n
  obtain ⟨mo, hmo⟩ := Nat.gcd_dvd_right m n
  obtain ⟨q, hq⟩ := hd
  generalize hg : Nat.gcd m n = g at *
  have e : n / g = mo := by rw [hmo]; exact Nat.mul_div_cancel_left _ hg0
  rw [e]
  have hmo0 : 0 < mo := by
    rcases Nat.eq_zero_or_pos mo with c | c
    · subst c; omega
    · exact c
  obtain ⟨st, hst⟩ := Int.eq_ofNat_of_zero_le (Int.emod_nonneg (q * u) (show (mo : Int) ≠ 0 by omega))
  have hlt : st < mo := by have := Int.emod_lt_of_pos (q * u) (show 0 < (mo : Int) by omega); omega
  refine ⟨r + st * m, ?_, ⟨(st : Int), by simp [Int.mul_comm]; omega⟩, ?_⟩
  · have : (st + 1) * m ≤ mo * m := Nat.mul_le_mul_right _ hlt
    rw [Nat.add_mul, Nat.mul_comm mo] at this; omega
  · obtain ⟨z, hz⟩ := join_step (r : Int) (m : Int) (n : Int) u v (g : Int) (a - (r : Int)) q (st : Int) (mo : Int) (by omega) (by rw [hmo]; simp) ⟨(xm : Int), by rw [hxm]; simp⟩ hl hq
      ⟨-(q * u / (mo : Int)), by rw [← hst, Int.emod_def, Int.neg_mul, Int.mul_comm (mo : Int)]; omega⟩
    exact ⟨z, by rw [← hz]; simp; omega⟩

end Go.Proofs.YtmifenflbaohnaaDoor.MathC
end

section
/- Contracts of package whole's left and joinOne. -/
set_option linter.unusedSimpArgs false
set_option linter.unusedVariables false
set_option maxRecDepth 100000
namespace Go.Proofs.YtmifenflbaohnaaDoor
open Go.RowKit
theorem gcd_nat (m n : Nat) : Int.gcd (m : Int) (n : Int) = Nat.gcd m n := by simp [Int.gcd]

theorem join_fill {r m n uu mo l st g : Nat} {v q a : Int} (hnm : n = g * mo) (hgm : g ∣ m) (hl : (uu : Int) * (m : Int) + v * (n : Int) = (g : Int)) (hq : a - (r : Int) = (g : Int) * q) (hlq : q % (mo : Int) = (l : Int)) (hst : st = l * uu % mo) (hg : g ≠ 0) :
    (n : Int) ∣ (((r + st * m : Nat) : Int)) - a := by
  obtain ⟨xm, hxm⟩ := hgm
  obtain ⟨z, hz⟩ := MathC.join_step (r : Int) (m : Int) (n : Int) (uu : Int) v (g : Int) (a - (r : Int)) q (st : Int) (mo : Int) (by omega)
    (by rw [hnm]; simp) ⟨(xm : Int), by rw [hxm]; simp⟩ hl hq
    (by
      have e1 : (st : Int) = ((l : Int) * (uu : Int)) % (mo : Int) := by rw [hst]; simp
      have e2 : (l : Int) * (uu : Int) = q * (uu : Int) - (mo : Int) * (q / (mo : Int)) * (uu : Int) := by rw [← hlq, Int.emod_def, Int.sub_mul]
      refine ⟨-(q / (mo : Int) * (uu : Int)) - ((l : Int) * (uu : Int)) / (mo : Int), ?_⟩
      rw [e1, Int.emod_def, Int.sub_mul, Int.neg_mul]
      have e3 : (mo : Int) * (q / (mo : Int)) * (uu : Int) = q / (mo : Int) * (uu : Int) * (mo : Int) := by simp only [Int.mul_assoc, Int.mul_comm, Int.mul_left_comm]
      have e4 : (mo : Int) * ((l : Int) * (uu : Int) / (mo : Int)) = (l : Int) * (uu : Int) / (mo : Int) * (mo : Int) := Int.mul_comm ..
      omega)
  refine ⟨z, ?_⟩
  rw [← hz]; simp; omega

end Go.Proofs.YtmifenflbaohnaaDoor
end

section
/- The contract of Join, and the document's examples. -/
set_option linter.unusedSimpArgs false
set_option linter.unusedVariables false
set_option maxRecDepth 100000
namespace Go.Proofs.YtmifenflbaohnaaDoor
open Go.RowKit

/-- What one place comes to, as three numbers. -/
structure JOne (r m : Nat) (a b : Int) (R M c : Int) : Prop where
  cases : (c = 3 ∧ R = 0 ∧ M = 0 ∧ (numB a = false ∨ b < 1 ∨ 1000000000000000000 < b)) ∨
    (numB a = true ∧ ∃ n : Nat, b = (n : Int) ∧ 1 ≤ n ∧ (n : Int) ≤ 1000000000000000000 ∧
      ((c = 5 ∧ R = 0 ∧ M = 0 ∧ ¬ (Nat.gcd m n : Int) ∣ a - (r : Int)) ∨
       (c = 9 ∧ R = 0 ∧ M = 0 ∧ (Nat.gcd m n : Int) ∣ a - (r : Int) ∧ 1000000000000000000 < m * (n / Nat.gcd m n)) ∨
       (c = 0 ∧ ∃ R' : Nat, R = R' ∧ M = ((m * (n / Nat.gcd m n) : Nat) : Int) ∧ m * (n / Nat.gcd m n) ≤ 1000000000000000000 ∧ R' < m * (n / Nat.gcd m n) ∧ (m : Int) ∣ (R' : Int) - (r : Int) ∧ (n : Int) ∣ (R' : Int) - a ∧ (Nat.gcd m n : Int) ∣ a - (r : Int))))

theorem crt_unique {m n R R' : Nat} {r a : Int} (h1 : R < Nat.lcm m n) (h2 : R' < Nat.lcm m n) (d1 : (m : Int) ∣ (R : Int) - r) (d2 : (n : Int) ∣ (R : Int) - a) (e1 : (m : Int) ∣ (R' : Int) - r) (e2 : (n : Int) ∣ (R' : Int) - a) : R = R' := by
  have f1 : (m : Int) ∣ (R : Int) - (R' : Int) := by
    have : (R : Int) - (R' : Int) = ((R : Int) - r) - ((R' : Int) - r) := by omega
    rw [this]; exact Int.dvd_sub d1 e1
  have f2 : (n : Int) ∣ (R : Int) - (R' : Int) := by
    have : (R : Int) - (R' : Int) = ((R : Int) - a) - ((R' : Int) - a) := by omega
    rw [this]; exact Int.dvd_sub d2 e2
  rw [Int.ofNat_dvd_left] at f1 f2
  have f3 := Nat.lcm_dvd f1 f2
  have f4 := Nat.eq_zero_of_dvd_of_lt f3 (by omega)
  omega

/-- The slice s holds the numbers xs. -/
structure IS (w : World) (s : Value) (xs : List Int) : Prop where
  shape : ∃ (aa : Option Addr) (g o cap : Nat), s = .slice aa xs.length cap ∧ (0 < xs.length → aa = some ⟨g, o, none⟩) ∧ (∀ i, i < xs.length → w.cell? ⟨g, o + i, none⟩ = some (.int .i64 (xs.getD i 0))) ∧ (0 < xs.length → g < w.heap.size)

/-- What Join comes to. -/
structure JOut (rs ms : List Int) (R M c at' : Int) : Prop where
  cases : ((1000 < rs.length ∨ 1000 < ms.length) ∧ R = 0 ∧ M = 0 ∧ c = 2 ∧ at' = 0) ∨
    (rs.length ≤ 1000 ∧ ms.length ≤ 1000 ∧ rs.length ≠ ms.length ∧ R = 0 ∧ M = 0 ∧ c = 8 ∧ at' = 0) ∨
    (rs.length ≤ 1000 ∧ rs.length = ms.length ∧ ∃ (k r m : Nat) (R' M' : Int), k < rs.length ∧ MathC.JSt rs ms k r m ∧ at' = k ∧ R = 0 ∧ M = 0 ∧ c ≠ 0 ∧ JOne r m (rs.getD k 0) (ms.getD k 0) R' M' c) ∨
    (rs.length ≤ 1000 ∧ rs.length = ms.length ∧ ∃ r m : Nat, MathC.JSt rs ms rs.length r m ∧ R = r ∧ M = m ∧ c = 0 ∧ at' = 0)

theorem jst_of_one {rs ms : List Int} {k r m : Nat} {R M c : Int} (h : MathC.JSt rs ms k r m) (h1 : JOne r m (rs.getD k 0) (ms.getD k 0) R M c) (hc : c = 0) :
    ∃ r' m' : Nat, R = r' ∧ M = m' ∧ MathC.JSt rs ms (k + 1) r' m' := by
  subst hc
  rcases h1.cases with h2 | ⟨ha, n, hn, n1, n2, h2 | h2 | ⟨_, R', rfl, rfl, p1, p2, p3, p4, p5⟩⟩
  · omega
  · omega
  · omega
  · obtain ⟨a1, a2⟩ := numB_true ha
    exact ⟨R', m * (n / Nat.gcd m n), rfl, rfl, MathC.jst_next h n hn n1 n2 a1 a2 (by omega) p2 p3 p4⟩

end Go.Proofs.YtmifenflbaohnaaDoor
end
