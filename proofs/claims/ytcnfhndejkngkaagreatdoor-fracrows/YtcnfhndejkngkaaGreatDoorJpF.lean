import Derived.Test.YtcnfhndejkngkaaGreatDoorJpA
import Derived.Laws.Bits64b
import Derived.Laws.MathBits
import Derived.Lib.Strings
import Derived.Lib.Slices
import Derived.Lib.Small
import Derived.Lib.Walk
import Derived.Lib.BitFns
section
set_option linter.unusedSimpArgs false
set_option linter.unusedVariables false
set_option maxRecDepth 100000
namespace Go.Proofs.YtcnfhndejkngkaaGreatDoor
open Go.RowKit
theorem ret2 {k1 k2 : IntKind} {a b a' b' : Int} (h1 : a = a') (h2 : b = b') : Ending.returned (.tuple #[.int k1 a, .int k2 b]) = .returned (.tuple #[.int k1 a', .int k2 b']) := by rw [h1, h2]
set_option maxHeartbeats 1000000 in
theorem Mul64_any (x y : Nat) (hx : x < 18446744073709551616) (hy : y < 18446744073709551616) (w : World) :
    Calls Tryz.prog 132 #[.int .u64 x, .int .u64 y] w fun e w' => e = .returned (.tuple #[.int .u64 ((x * y / 18446744073709551616 : Nat) : Int), .int .u64 ((x * y % 18446744073709551616 : Nat) : Int)]) ∧ w' = w := by
  have HA : Hid (((x * y / 18446744073709551616 : Nat) : Int) = (x : Int) * (y : Int) / 18446744073709551616 ∧ ((x * y % 18446744073709551616 : Nat) : Int) = (x : Int) * (y : Int) % 18446744073709551616) := by
    constructor <;> simp
  rw [HA.out.1, HA.out.2]
  have HM : Hid _ := mul64_arith (x : Int) (y : Int) (by omega) (by omega) (by omega) (by omega)
  have HX : Hid (bits .and .u64 (x : Int) 4294967295 = (x : Int) % 4294967296) := and_low32 _ (by omega) (by omega)
  have HY : Hid (bits .and .u64 (y : Int) 4294967295 = (y : Int) % 4294967296) := and_low32 _ (by omega) (by omega)
  clear HA hx hy
  go_enter Tryz.func132, Tryz.ntmps132
  go_wp2
  go_ret2
  refine ⟨ret2 ?_ ?_, rfl⟩
  · rw [HX.out, HY.out]
    simp only [IntKind.wrap_u64]
    rw [and_low32 _ (by omega) (by omega)]
    exact HM.out
  · rw [IntKind.wrap_u64]
set_option maxHeartbeats 1000000 in
set_option maxRecDepth 100000 in
theorem Len64_0 (x : Int) (w : World) (h0 : 0 ≤ x) (h1 : x ≤ 255) :
    Calls Tryz.prog 162 #[.int .u64 x] w fun e w' => e = .returned (.int .i64 (Lib.bitLen x.toNat)) ∧ w' = w := by
  have e1 : 0 ≤ x := by omega
  have e2 : x ≤ 255 := by omega
  have l := Lib.bitLen_le8' (x) e1 e2
  have HL : Hid (Lib.len8 (x) = (Lib.bitLen (x).toNat : Int)) := Lib.len8_of _ e1 e2
  go_enter Tryz.func162, Tryz.ntmps162
  go_wp2
  go_ret
  refine ⟨ret_int ?_, rfl⟩
  have hl := HL.out
  first | (rw [hl]; omega) | (simp only [wrap64, IntKind.wrap_i64]; rw [hl]; omega) | (rw [hl])
set_option maxHeartbeats 1000000 in
set_option maxRecDepth 100000 in
theorem Len64_8 (x : Int) (w : World) (h0 : 256 ≤ x) (h1 : x ≤ 65535) :
    Calls Tryz.prog 162 #[.int .u64 x] w fun e w' => e = .returned (.int .i64 (Lib.bitLen x.toNat)) ∧ w' = w := by
  have e1 : 0 ≤ x / 256 := by omega
  have e2 : x / 256 ≤ 255 := by omega
  have l := Lib.bitLen_le8' (x / 256) e1 e2
  have HL : Hid (Lib.len8 (x / 256) = (Lib.bitLen (x / 256).toNat : Int)) := Lib.len8_of _ e1 e2
  have HS : Hid (Lib.bitLen x.toNat = 8 + Lib.bitLen (x.toNat / 256)) := Lib.bitLen_shift8 x.toNat (by omega) (by omega)
  have HT : Hid ((x / 256).toNat = x.toNat / 256) := by show _ = _; omega
  go_enter Tryz.func162, Tryz.ntmps162
  go_wp2
  go_ret
  refine ⟨ret_int ?_, rfl⟩
  rw [HT.out] at l
  have hl := HL.out
  rw [HT.out] at hl
  rw [HS.out]
  first | (rw [hl]; omega) | (simp only [wrap64, IntKind.wrap_i64]; rw [hl]; omega)
set_option maxHeartbeats 1000000 in
set_option maxRecDepth 100000 in
theorem Len64_16 (x : Int) (w : World) (h0 : 65536 ≤ x) (h1 : x ≤ 16777215) :
    Calls Tryz.prog 162 #[.int .u64 x] w fun e w' => e = .returned (.int .i64 (Lib.bitLen x.toNat)) ∧ w' = w := by
  have e1 : 0 ≤ x / 65536 := by omega
  have e2 : x / 65536 ≤ 255 := by omega
  have l := Lib.bitLen_le8' (x / 65536) e1 e2
  have HL : Hid (Lib.len8 (x / 65536) = (Lib.bitLen (x / 65536).toNat : Int)) := Lib.len8_of _ e1 e2
  have HS : Hid (Lib.bitLen x.toNat = 16 + Lib.bitLen (x.toNat / 65536)) := Lib.bitLen_shift16 x.toNat (by omega) (by omega)
  have HT : Hid ((x / 65536).toNat = x.toNat / 65536) := by show _ = _; omega
  go_enter Tryz.func162, Tryz.ntmps162
  go_wp2
  go_ret
  refine ⟨ret_int ?_, rfl⟩
  rw [HT.out] at l
  have hl := HL.out
  rw [HT.out] at hl
  rw [HS.out]
  first | (rw [hl]; omega) | (simp only [wrap64, IntKind.wrap_i64]; rw [hl]; omega)
set_option maxHeartbeats 1000000 in
set_option maxRecDepth 100000 in
theorem Len64_24 (x : Int) (w : World) (h0 : 16777216 ≤ x) (h1 : x ≤ 4294967295) :
    Calls Tryz.prog 162 #[.int .u64 x] w fun e w' => e = .returned (.int .i64 (Lib.bitLen x.toNat)) ∧ w' = w := by
  have e1 : 0 ≤ x / 65536 / 256 := by omega
  have e2 : x / 65536 / 256 ≤ 255 := by omega
  have l := Lib.bitLen_le8' (x / 65536 / 256) e1 e2
  have HL : Hid (Lib.len8 (x / 65536 / 256) = (Lib.bitLen (x / 65536 / 256).toNat : Int)) := Lib.len8_of _ e1 e2
  have HS : Hid (Lib.bitLen x.toNat = 24 + Lib.bitLen (x.toNat / 16777216)) := Lib.bitLen_shift24 x.toNat (by omega) (by omega)
  have HT : Hid ((x / 65536 / 256).toNat = x.toNat / 16777216) := by show _ = _; omega
  go_enter Tryz.func162, Tryz.ntmps162
  go_wp2
  go_ret
  refine ⟨ret_int ?_, rfl⟩
  rw [HT.out] at l
  have hl := HL.out
  rw [HT.out] at hl
  rw [HS.out]
  first | (rw [hl]; omega) | (simp only [wrap64, IntKind.wrap_i64]; rw [hl]; omega)
set_option maxHeartbeats 1000000 in
set_option maxRecDepth 100000 in
theorem Len64_32 (x : Int) (w : World) (h0 : 4294967296 ≤ x) (h1 : x ≤ 1099511627775) :
    Calls Tryz.prog 162 #[.int .u64 x] w fun e w' => e = .returned (.int .i64 (Lib.bitLen x.toNat)) ∧ w' = w := by
  have e1 : 0 ≤ x / 4294967296 := by omega
  have e2 : x / 4294967296 ≤ 255 := by omega
  have l := Lib.bitLen_le8' (x / 4294967296) e1 e2
  have HL : Hid (Lib.len8 (x / 4294967296) = (Lib.bitLen (x / 4294967296).toNat : Int)) := Lib.len8_of _ e1 e2
  have HS : Hid (Lib.bitLen x.toNat = 32 + Lib.bitLen (x.toNat / 4294967296)) := Lib.bitLen_shift32 x.toNat (by omega) (by omega)
  have HT : Hid ((x / 4294967296).toNat = x.toNat / 4294967296) := by show _ = _; omega
  go_enter Tryz.func162, Tryz.ntmps162
  go_wp2
  go_ret
  refine ⟨ret_int ?_, rfl⟩
  rw [HT.out] at l
  have hl := HL.out
  rw [HT.out] at hl
  rw [HS.out]
  first | (rw [hl]; omega) | (simp only [wrap64, IntKind.wrap_i64]; rw [hl]; omega)
set_option maxHeartbeats 1000000 in
set_option maxRecDepth 100000 in
theorem Len64_40 (x : Int) (w : World) (h0 : 1099511627776 ≤ x) (h1 : x ≤ 281474976710655) :
    Calls Tryz.prog 162 #[.int .u64 x] w fun e w' => e = .returned (.int .i64 (Lib.bitLen x.toNat)) ∧ w' = w := by
  have e1 : 0 ≤ x / 4294967296 / 256 := by omega
  have e2 : x / 4294967296 / 256 ≤ 255 := by omega
  have l := Lib.bitLen_le8' (x / 4294967296 / 256) e1 e2
  have HL : Hid (Lib.len8 (x / 4294967296 / 256) = (Lib.bitLen (x / 4294967296 / 256).toNat : Int)) := Lib.len8_of _ e1 e2
  have HS : Hid (Lib.bitLen x.toNat = 40 + Lib.bitLen (x.toNat / 1099511627776)) := Lib.bitLen_shift40 x.toNat (by omega) (by omega)
  have HT : Hid ((x / 4294967296 / 256).toNat = x.toNat / 1099511627776) := by show _ = _; omega
  go_enter Tryz.func162, Tryz.ntmps162
  go_wp2
  go_ret
  refine ⟨ret_int ?_, rfl⟩
  rw [HT.out] at l
  have hl := HL.out
  rw [HT.out] at hl
  rw [HS.out]
  first | (rw [hl]; omega) | (simp only [wrap64, IntKind.wrap_i64]; rw [hl]; omega)
set_option maxHeartbeats 1000000 in
set_option maxRecDepth 100000 in
theorem Len64_48 (x : Int) (w : World) (h0 : 281474976710656 ≤ x) (h1 : x ≤ 72057594037927935) :
    Calls Tryz.prog 162 #[.int .u64 x] w fun e w' => e = .returned (.int .i64 (Lib.bitLen x.toNat)) ∧ w' = w := by
  have e1 : 0 ≤ x / 4294967296 / 65536 := by omega
  have e2 : x / 4294967296 / 65536 ≤ 255 := by omega
  have l := Lib.bitLen_le8' (x / 4294967296 / 65536) e1 e2
  have HL : Hid (Lib.len8 (x / 4294967296 / 65536) = (Lib.bitLen (x / 4294967296 / 65536).toNat : Int)) := Lib.len8_of _ e1 e2
  have HS : Hid (Lib.bitLen x.toNat = 48 + Lib.bitLen (x.toNat / 281474976710656)) := Lib.bitLen_shift48 x.toNat (by omega) (by omega)
  have HT : Hid ((x / 4294967296 / 65536).toNat = x.toNat / 281474976710656) := by show _ = _; omega
  go_enter Tryz.func162, Tryz.ntmps162
  go_wp2
  go_ret
  refine ⟨ret_int ?_, rfl⟩
  rw [HT.out] at l
  have hl := HL.out
  rw [HT.out] at hl
  rw [HS.out]
  first | (rw [hl]; omega) | (simp only [wrap64, IntKind.wrap_i64]; rw [hl]; omega)
set_option maxHeartbeats 1000000 in
set_option maxRecDepth 100000 in
theorem Len64_56 (x : Int) (w : World) (h0 : 72057594037927936 ≤ x) (h1 : x ≤ 18446744073709551615) :
    Calls Tryz.prog 162 #[.int .u64 x] w fun e w' => e = .returned (.int .i64 (Lib.bitLen x.toNat)) ∧ w' = w := by
  have e1 : 0 ≤ x / 4294967296 / 65536 / 256 := by omega
  have e2 : x / 4294967296 / 65536 / 256 ≤ 255 := by omega
  have l := Lib.bitLen_le8' (x / 4294967296 / 65536 / 256) e1 e2
  have HL : Hid (Lib.len8 (x / 4294967296 / 65536 / 256) = (Lib.bitLen (x / 4294967296 / 65536 / 256).toNat : Int)) := Lib.len8_of _ e1 e2
  have HS : Hid (Lib.bitLen x.toNat = 56 + Lib.bitLen (x.toNat / 72057594037927936)) := Lib.bitLen_shift56 x.toNat (by omega) (by omega)
  have HT : Hid ((x / 4294967296 / 65536 / 256).toNat = x.toNat / 72057594037927936) := by show _ = _; omega
  go_enter Tryz.func162, Tryz.ntmps162
  go_wp2
  go_ret
  refine ⟨ret_int ?_, rfl⟩
  rw [HT.out] at l
  have hl := HL.out
  rw [HT.out] at hl
  rw [HS.out]
  first | (rw [hl]; omega) | (simp only [wrap64, IntKind.wrap_i64]; rw [hl]; omega)
theorem Len64_int (x : Int) (w : World) (h0 : 0 ≤ x) (h1 : x ≤ 18446744073709551615) :
    Calls Tryz.prog 162 #[.int .u64 x] w fun e w' => e = .returned (.int .i64 (Lib.bitLen x.toNat)) ∧ w' = w := by
  rcases Int.lt_or_le x 256 with c | c
  · exact Len64_0 x w h0 (by omega)
  rcases Int.lt_or_le x 65536 with d1 | d1
  · exact Len64_8 x w (by omega) (by omega)
  rcases Int.lt_or_le x 16777216 with d2 | d2
  · exact Len64_16 x w (by omega) (by omega)
  rcases Int.lt_or_le x 4294967296 with d3 | d3
  · exact Len64_24 x w (by omega) (by omega)
  rcases Int.lt_or_le x 1099511627776 with d4 | d4
  · exact Len64_32 x w (by omega) (by omega)
  rcases Int.lt_or_le x 281474976710656 with d5 | d5
  · exact Len64_40 x w (by omega) (by omega)
  rcases Int.lt_or_le x 72057594037927936 with d6 | d6
  · exact Len64_48 x w (by omega) (by omega)
  exact Len64_56 x w (by omega) (by omega)
end Go.Proofs.YtcnfhndejkngkaaGreatDoor
end

section
set_option linter.unusedSimpArgs false
set_option linter.unusedVariables false
set_option maxRecDepth 100000
namespace Go.Proofs.YtcnfhndejkngkaaGreatDoor.MathB
structure Dg (u v1 v0 n q r : Nat) : Prop where
  lin : q * v1 + r = u
  up : (u * 4294967296 + n) / (v1 * 4294967296 + v0) ≤ q
theorem dg_start (u v1 v0 n : Nat) (h1 : 0 < v1) (hn : n < 4294967296) : Dg u v1 v0 n (u / v1) (u % v1) := by
  refine ⟨by rw [Nat.mul_comm]; exact Nat.div_add_mod u v1, ?_⟩
  have e1 : (u * 4294967296 + n) / (v1 * 4294967296 + v0) ≤ (u * 4294967296 + n) / (v1 * 4294967296) := Nat.div_le_div_left (by omega) (by omega)
  have e2 : (u * 4294967296 + n) / (v1 * 4294967296) = u / v1 := by
    rw [Nat.mul_comm v1, ← Nat.div_div_eq_div_mul]
    congr 1; omega
  omega
theorem dg_small (u v1 v0 n : Nat) (hn : n < 4294967296) (hu : u < v1 * 4294967296 + v0) : (u * 4294967296 + n) / (v1 * 4294967296 + v0) < 4294967296 := by
  rw [Nat.div_lt_iff_lt_mul (by omega)]
  omega
theorem dg_step {u v1 v0 n q r : Nat} (h : Dg u v1 v0 n q r) (hn : n < 4294967296) (hu : u < v1 * 4294967296 + v0) (hc : 4294967296 ≤ q ∨ 4294967296 * r + n < q * v0) : 1 ≤ q ∧ Dg u v1 v0 n (q - 1) (r + v1) := by
  have hs := dg_small u v1 v0 n hn hu
  have hlt : (u * 4294967296 + n) / (v1 * 4294967296 + v0) < q := by
    rcases hc with hc | hc
    · omega
    · rw [Nat.div_lt_iff_lt_mul (by omega)]
      have := h.lin
      have e : q * (v1 * 4294967296 + v0) = q * v1 * 4294967296 + q * v0 := by rw [Nat.mul_add, Nat.mul_assoc]
      rw [e]; omega
  have hq : 1 ≤ q := Nat.lt_of_le_of_lt (Nat.zero_le _) hlt
  refine ⟨hq, ?_, by omega⟩
  have := h.lin
  obtain ⟨k, rfl⟩ : ∃ k, q = k + 1 := ⟨q - 1, by omega⟩
  rw [Nat.add_mul] at this
  simp only [Nat.add_sub_cancel]; omega
theorem dg_low {u v1 v0 n q r : Nat} (h : Dg u v1 v0 n q r) (hu : u < v1 * 4294967296 + v0) (h0 : v0 < 4294967296) (hr : 4294967296 ≤ r) : q < 4294967296 := by
  have := h.lin
  rcases Nat.lt_or_ge q 4294967296 with c | c
  · exact c
  · have : 4294967296 * v1 ≤ q * v1 := Nat.mul_le_mul_right _ c
    omega
theorem dg_end {u v1 v0 n q r : Nat} (h : Dg u v1 v0 n q r) (hu : u < v1 * 4294967296 + v0) (h0 : v0 < 4294967296) (hc : q * v0 ≤ 4294967296 * r + n ∨ 4294967296 ≤ r) :
    q = (u * 4294967296 + n) / (v1 * 4294967296 + v0) := by
  have hlin := h.lin
  have hc' : q * v0 ≤ 4294967296 * r + n := by
    rcases hc with hc | hc
    · exact hc
    · have hq := dg_low h hu h0 hc
      have := Nat.mul_le_mul (show q ≤ 4294967295 by omega) (show v0 ≤ 4294967295 by omega)
      omega
  refine Nat.le_antisymm ?_ h.up
  rw [Nat.le_div_iff_mul_le (by omega), Nat.mul_add, ← Nat.mul_assoc]
  omega
theorem two_digits (u n1 n0 Y q1 q0 : Nat) (hY : 0 < Y) (h1 : q1 = (u * 4294967296 + n1) / Y) (h0 : q0 = ((u * 4294967296 + n1) % Y * 4294967296 + n0) / Y) :
    (u * 18446744073709551616 + (n1 * 4294967296 + n0)) / Y = q1 * 4294967296 + q0 ∧ (u * 18446744073709551616 + (n1 * 4294967296 + n0)) % Y = ((u * 4294967296 + n1) % Y * 4294967296 + n0) % Y := by
  have e : u * 18446744073709551616 + (n1 * 4294967296 + n0) = Y * (q1 * 4294967296) + ((u * 4294967296 + n1) % Y * 4294967296 + n0) := by
    have := Nat.div_add_mod (u * 4294967296 + n1) Y
    rw [← h1] at this
    rw [← Nat.mul_assoc]
    generalize (u * 4294967296 + n1) % Y = z at *
    generalize Y * q1 = t at *
    omega
  rw [e]
  constructor
  · rw [Nat.mul_add_div hY, h0]
  · rw [Nat.mul_add_mod]
theorem shifted (hi lo y s : Nat) (hlo : lo < 18446744073709551616) (hs : s ≤ 63) (hlt : hi < y) :
    lo / 2 ^ (64 - s) < 2 ^ s ∧ (hi * 2 ^ s + lo / 2 ^ (64 - s)) * 18446744073709551616 + lo * 2 ^ s % 18446744073709551616 = (hi * 18446744073709551616 + lo) * 2 ^ s ∧ hi * 2 ^ s + lo / 2 ^ (64 - s) < y * 2 ^ s := by
  have e64 : 2 ^ (64 - s) * 2 ^ s = 18446744073709551616 := by
    rw [← Nat.pow_add, show 64 - s + s = 64 by omega]
  have hp : 0 < 2 ^ s := Nat.two_pow_pos s
  have hp2 : 0 < 2 ^ (64 - s) := Nat.two_pow_pos _
  have h1 : lo / 2 ^ (64 - s) < 2 ^ s := by
    rw [Nat.div_lt_iff_lt_mul hp2, Nat.mul_comm, e64]; exact hlo
  have h2 : lo * 2 ^ s / 18446744073709551616 = lo / 2 ^ (64 - s) := by
    rw [← e64]; exact Nat.mul_div_mul_right _ _ hp
  have h3 := Nat.div_add_mod (lo * 2 ^ s) 18446744073709551616
  rw [h2] at h3
  have h4 : (hi + 1) * 2 ^ s ≤ y * 2 ^ s := Nat.mul_le_mul_right _ hlt
  rw [Nat.add_mul] at h4
  refine ⟨h1, ?_, by omega⟩
  have h5 : (hi * 18446744073709551616 + lo) * 2 ^ s = hi * 2 ^ s * 18446744073709551616 + lo * 2 ^ s := by rw [Nat.add_mul, Nat.mul_right_comm]
  rw [h5]
  generalize hi * 2 ^ s = A at *
  generalize lo / 2 ^ (64 - s) = D at *
  generalize lo * 2 ^ s = C at *
  omega
theorem unshifted (X y s Q R : Nat) (h : X * 2 ^ s / (y * 2 ^ s) = Q) (h2 : X * 2 ^ s % (y * 2 ^ s) = R) : X / y = Q ∧ X % y = R / 2 ^ s := by
  have hp : 0 < 2 ^ s := Nat.two_pow_pos s
  rw [Nat.mul_div_mul_right _ _ hp] at h
  rw [Nat.mul_mod_mul_right] at h2
  refine ⟨h, ?_⟩
  rw [← h2, Nat.mul_div_cancel _ hp]
end Go.Proofs.YtcnfhndejkngkaaGreatDoor.MathB
end
