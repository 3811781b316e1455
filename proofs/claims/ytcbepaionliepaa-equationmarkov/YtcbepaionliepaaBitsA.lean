/- Contracts of math/bits: Mul64, Len64, LeadingZeros64. -/
import Derived.Test.YtcbepaionliepaaJnA
import Derived.Laws.Bits64b
import Derived.Laws.MathBits
import Derived.Lib.Strings
import Derived.Lib.Slices
import Derived.Lib.Small
import Derived.Lib.Walk
import Derived.Lib.BitFns
set_option linter.unusedSimpArgs false
set_option linter.unusedVariables false
set_option maxRecDepth 100000
namespace Go.Proofs.Ytcbepaionliepaa
open Go.RowKit

theorem ret2 {k1 k2 : IntKind} {a b a' b' : Int} (h1 : a = a') (h2 : b = b') : Ending.returned (.tuple #[.int k1 a, .int k2 b]) = .returned (.tuple #[.int k1 a', .int k2 b']) := by rw [h1, h2]

set_option maxHeartbeats 1000000 in
theorem Mul64_any (x y : Nat) (hx : x < 18446744073709551616) (hy : y < 18446744073709551616) (w : World) :
    Calls Try.prog 44 #[.int .u64 x, .int .u64 y] w fun e w' => e = .returned (.tuple #[.int .u64 ((x * y / 18446744073709551616 : Nat) : Int), .int .u64 ((x * y % 18446744073709551616 : Nat) : Int)]) ∧ w' = w := by
  have HA : Hid (((x * y / 18446744073709551616 : Nat) : Int) = (x : Int) * (y : Int) / 18446744073709551616 ∧ ((x * y % 18446744073709551616 : Nat) : Int) = (x : Int) * (y : Int) % 18446744073709551616) := by
    constructor <;> simp
  rw [HA.out.1, HA.out.2]
  have HM : Hid _ := mul64_arith (x : Int) (y : Int) (by omega) (by omega) (by omega) (by omega)
  have HX : Hid (bits .and .u64 (x : Int) 4294967295 = (x : Int) % 4294967296) := and_low32 _ (by omega) (by omega)
  have HY : Hid (bits .and .u64 (y : Int) 4294967295 = (y : Int) % 4294967296) := and_low32 _ (by omega) (by omega)
  clear HA hx hy
  go_enter Try.func44, Try.ntmps44
  go_wp2
  go_ret2
  refine ⟨ret2 ?_ ?_, rfl⟩
  · rw [HX.out, HY.out]
    simp only [IntKind.wrap_u64]
    rw [and_low32 _ (by omega) (by omega)]
    exact HM.out
  · rw [IntKind.wrap_u64]

set_option maxHeartbeats 1000000 in
set_option maxRecDepth 100000 in
theorem Len64_0 (x : Int) (w : World) (h0 : 0 ≤ x) (h1 : x ≤ 255) :
    Calls Try.prog 81 #[.int .u64 x] w fun e w' => e = .returned (.int .i64 (Lib.bitLen x.toNat)) ∧ w' = w := by
  have e1 : 0 ≤ x := by omega
  have e2 : x ≤ 255 := by omega
  have l := Lib.bitLen_le8' (x) e1 e2
  have HL : Hid (Lib.len8 (x) = (Lib.bitLen (x).toNat : Int)) := Lib.len8_of _ e1 e2
  go_enter Try.func81, Try.ntmps81
  go_wp2
  go_ret
  refine ⟨ret_int ?_, rfl⟩
  have hl := HL.out
  first | (rw [hl]; omega) | (simp only [wrap64, IntKind.wrap_i64]; rw [hl]; omega) | (rw [hl])

set_option maxHeartbeats 1000000 in
set_option maxRecDepth 100000 in
theorem Len64_8 (x : Int) (w : World) (h0 : 256 ≤ x) (h1 : x ≤ 65535) :
    Calls Try.prog 81 #[.int .u64 x] w fun e w' => e = .returned (.int .i64 (Lib.bitLen x.toNat)) ∧ w' = w := by
  have e1 : 0 ≤ x / 256 := by omega
  have e2 : x / 256 ≤ 255 := by omega
  have l := Lib.bitLen_le8' (x / 256) e1 e2
  have HL : Hid (Lib.len8 (x / 256) = (Lib.bitLen (x / 256).toNat : Int)) := Lib.len8_of _ e1 e2
  have HS : Hid (Lib.bitLen x.toNat = 8 + Lib.bitLen (x.toNat / 256)) := Lib.bitLen_shift8 x.toNat (by omega) (by omega)
  have HT : Hid ((x / 256).toNat = x.toNat / 256) := by show _ = _; omega
  go_enter Try.func81, Try.ntmps81
  go_wp2
  go_ret
  refine ⟨ret_int ?_, rfl⟩
  rw [HT.out] at l
  have hl := HL.out
  rw [HT.out] at hl
  rw [HS.out]
  first | (rw [hl]; omega) | (simp only [wrap64, IntKind.wrap_i64]; rw [hl]; omega)

set_option maxHeartbeats 1000000 in
set_option maxRecDepth 100000 in
theorem Len64_16 (x : Int) (w : World) (h0 : 65536 ≤ x) (h1 : x ≤ 16777215) :
    Calls Try.prog 81 #[.int .u64 x] w fun e w' => e = .returned (.int .i64 (Lib.bitLen x.toNat)) ∧ w' = w := by
  have e1 : 0 ≤ x / 65536 := by omega
  have e2 : x / 65536 ≤ 255 := by omega
  have l := Lib.bitLen_le8' (x / 65536) e1 e2
  have HL : Hid (Lib.len8 (x / 65536) = (Lib.bitLen (x / 65536).toNat : Int)) := Lib.len8_of _ e1 e2
  have HS : Hid (Lib.bitLen x.toNat = 16 + Lib.bitLen (x.toNat / 65536)) := Lib.bitLen_shift16 x.toNat (by omega) (by omega)
  have HT : Hid ((x / 65536).toNat = x.toNat / 65536) := by show _ = _; omega
  go_enter Try.func81, Try.ntmps81
  go_wp2
  go_ret
  refine ⟨ret_int ?_, rfl⟩
  rw [HT.out] at l
  have hl := HL.out
  rw [HT.out] at hl
  rw [HS.out]
  first | (rw [hl]; omega) | (simp only [wrap64, IntKind.wrap_i64]; rw [hl]; omega)

set_option maxHeartbeats 1000000 in
set_option maxRecDepth 100000 in
theorem Len64_24 (x : Int) (w : World) (h0 : 16777216 ≤ x) (h1 : x ≤ 4294967295) :
    Calls Try.prog 81 #[.int .u64 x] w fun e w' => e = .returned (.int .i64 (Lib.bitLen x.toNat)) ∧ w' = w := by
  have e1 : 0 ≤ x / 65536 / 256 := by omega
  have e2 : x / 65536 / 256 ≤ 255 := by omega
  have l := Lib.bitLen_le8' (x / 65536 / 256) e1 e2
  have HL : Hid (Lib.len8 (x / 65536 / 256) = (Lib.bitLen (x / 65536 / 256).toNat : Int)) := Lib.len8_of _ e1 e2
  have HS : Hid (Lib.bitLen x.toNat = 24 + Lib.bitLen (x.toNat / 16777216)) := Lib.bitLen_shift24 x.toNat (by omega) (by omega)
  have HT : Hid ((x / 65536 / 256).toNat = x.toNat / 16777216) := by show _ = _; omega
  go_enter Try.func81, Try.ntmps81
  go_wp2
  go_ret
  refine ⟨ret_int ?_, rfl⟩
  rw [HT.out] at l
  have hl := HL.out
  rw [HT.out] at hl
  rw [HS.out]
  first | (rw [hl]; omega) | (simp only [wrap64, IntKind.wrap_i64]; rw [hl]; omega)

set_option maxHeartbeats 1000000 in
set_option maxRecDepth 100000 in
theorem Len64_32 (x : Int) (w : World) (h0 : 4294967296 ≤ x) (h1 : x ≤ 1099511627775) :
    Calls Try.prog 81 #[.int .u64 x] w fun e w' => e = .returned (.int .i64 (Lib.bitLen x.toNat)) ∧ w' = w := by
  have e1 : 0 ≤ x / 4294967296 := by omega
  have e2 : x / 4294967296 ≤ 255 := by omega
  have l := Lib.bitLen_le8' (x / 4294967296) e1 e2
  have HL : Hid (Lib.len8 (x / 4294967296) = (Lib.bitLen (x / 4294967296).toNat : Int)) := Lib.len8_of _ e1 e2
  have HS : Hid (Lib.bitLen x.toNat = 32 + Lib.bitLen (x.toNat / 4294967296)) := Lib.bitLen_shift32 x.toNat (by omega) (by omega)
  have HT : Hid ((x / 4294967296).toNat = x.toNat / 4294967296) := by show _ = _; omega
  go_enter Try.func81, Try.ntmps81
  go_wp2
  go_ret
  refine ⟨ret_int ?_, rfl⟩
  rw [HT.out] at l
  have hl := HL.out
  rw [HT.out] at hl
  rw [HS.out]
  first | (rw [hl]; omega) | (simp only [wrap64, IntKind.wrap_i64]; rw [hl]; omega)

set_option maxHeartbeats 1000000 in
set_option maxRecDepth 100000 in
theorem Len64_40 (x : Int) (w : World) (h0 : 1099511627776 ≤ x) (h1 : x ≤ 281474976710655) :
    Calls Try.prog 81 #[.int .u64 x] w fun e w' => e = .returned (.int .i64 (Lib.bitLen x.toNat)) ∧ w' = w := by
  have e1 : 0 ≤ x / 4294967296 / 256 := by omega
  have e2 : x / 4294967296 / 256 ≤ 255 := by omega
  have l := Lib.bitLen_le8' (x / 4294967296 / 256) e1 e2
  have HL : Hid (Lib.len8 (x / 4294967296 / 256) = (Lib.bitLen (x / 4294967296 / 256).toNat : Int)) := Lib.len8_of _ e1 e2
  have HS : Hid (Lib.bitLen x.toNat = 40 + Lib.bitLen (x.toNat / 1099511627776)) := Lib.bitLen_shift40 x.toNat (by omega) (by omega)
  have HT : Hid ((x / 4294967296 / 256).toNat = x.toNat / 1099511627776) := by show _ = _; omega
  go_enter Try.func81, Try.ntmps81
  go_wp2
  go_ret
  refine ⟨ret_int ?_, rfl⟩
  rw [HT.out] at l
  have hl := HL.out
  rw [HT.out] at hl
  rw [HS.out]
  first | (rw [hl]; omega) | (simp only [wrap64, IntKind.wrap_i64]; rw [hl]; omega)

set_option maxHeartbeats 1000000 in
set_option maxRecDepth 100000 in
theorem Len64_48 (x : Int) (w : World) (h0 : 281474976710656 ≤ x) (h1 : x ≤ 72057594037927935) :
    Calls Try.prog 81 #[.int .u64 x] w fun e w' => e = .returned (.int .i64 (Lib.bitLen x.toNat)) ∧ w' = w := by
  have e1 : 0 ≤ x / 4294967296 / 65536 := by omega
  have e2 : x / 4294967296 / 65536 ≤ 255 := by omega
  have l := Lib.bitLen_le8' (x / 4294967296 / 65536) e1 e2
  have HL : Hid (Lib.len8 (x / 4294967296 / 65536) = (Lib.bitLen (x / 4294967296 / 65536).toNat : Int)) := Lib.len8_of _ e1 e2
  have HS : Hid (Lib.bitLen x.toNat = 48 + Lib.bitLen (x.toNat / 281474976710656)) := Lib.bitLen_shift48 x.toNat (by omega) (by omega)
  have HT : Hid ((x / 4294967296 / 65536).toNat = x.toNat / 281474976710656) := by show _ = _; omega
  go_enter Try.func81, Try.ntmps81
  go_wp2
  go_ret
  refine ⟨ret_int ?_, rfl⟩
  rw [HT.out] at l
  have hl := HL.out
  rw [HT.out] at hl
  rw [HS.out]
  first | (rw [hl]; omega) | (simp only [wrap64, IntKind.wrap_i64]; rw [hl]; omega)

set_option maxHeartbeats 1000000 in
set_option maxRecDepth 100000 in
theorem Len64_56 (x : Int) (w : World) (h0 : 72057594037927936 ≤ x) (h1 : x ≤ 18446744073709551615) :
    Calls Try.prog 81 #[.int .u64 x] w fun e w' => e = .returned (.int .i64 (Lib.bitLen x.toNat)) ∧ w' = w := by
  have e1 : 0 ≤ x / 4294967296 / 65536 / 256 := by omega
  have e2 : x / 4294967296 / 65536 / 256 ≤ 255 := by omega
  have l := Lib.bitLen_le8' (x / 4294967296 / 65536 / 256) e1 e2
  have HL : Hid (Lib.len8 (x / 4294967296 / 65536 / 256) = (Lib.bitLen (x / 4294967296 / 65536 / 256).toNat : Int)) := Lib.len8_of _ e1 e2
  have HS : Hid (Lib.bitLen x.toNat = 56 + Lib.bitLen (x.toNat / 72057594037927936)) := Lib.bitLen_shift56 x.toNat (by omega) (by omega)
  have HT : Hid ((x / 4294967296 / 65536 / 256).toNat = x.toNat / 72057594037927936) := by show _ = _; omega
  go_enter Try.func81, Try.ntmps81
  go_wp2
  go_ret
  refine ⟨ret_int ?_, rfl⟩
  rw [HT.out] at l
  have hl := HL.out
  rw [HT.out] at hl
  rw [HS.out]
  first | (rw [hl]; omega) | (simp only [wrap64, IntKind.wrap_i64]; rw [hl]; omega)

theorem Len64_int (x : Int) (w : World) (h0 : 0 ≤ x) (h1 : x ≤ 18446744073709551615) :
    Calls Try.prog 81 #[.int .u64 x] w fun e w' => e = .returned (.int .i64 (Lib.bitLen x.toNat)) ∧ w' = w := by
  rcases Int.lt_or_le x 256 with c | c
  · exact Len64_0 x w h0 (by omega)
  rcases Int.lt_or_le x 65536 with d1 | d1
  · exact Len64_8 x w (by omega) (by omega)
  rcases Int.lt_or_le x 16777216 with d2 | d2
  · exact Len64_16 x w (by omega) (by omega)
  rcases Int.lt_or_le x 4294967296 with d3 | d3
  · exact Len64_24 x w (by omega) (by omega)
  rcases Int.lt_or_le x 1099511627776 with d4 | d4
  · exact Len64_32 x w (by omega) (by omega)
  rcases Int.lt_or_le x 281474976710656 with d5 | d5
  · exact Len64_40 x w (by omega) (by omega)
  rcases Int.lt_or_le x 72057594037927936 with d6 | d6
  · exact Len64_48 x w (by omega) (by omega)
  exact Len64_56 x w (by omega) (by omega)

end Go.Proofs.Ytcbepaionliepaa
