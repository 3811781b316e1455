import Derived.Test.YtfbgblidlabipaaGreatDoorJoinA
import Derived.Laws.Bits64b
import Derived.Laws.MathBits
import Derived.Lib.Strings
import Derived.Lib.Slices
import Derived.Lib.Small
import Derived.Lib.Walk
import Derived.Lib.BitFns
section
/- Contracts of the document's answer for layer 1: F, NumbersFault, Gcd, Size, Left. -/
set_option linter.unusedSimpArgs false
set_option linter.unusedVariables false
set_option maxRecDepth 100000
namespace Go.Proofs.YtfbgblidlabipaaGreatDoor
open Go.RowKit

theorem F_any (c a : Int) (w : World) :
    Calls Tryz.prog 11 #[.int .i64 c, .int .i64 a] w fun e w' => e = .returned (.agg #[.int .i64 c, .int .i64 a]) ∧ Below w.heap.size w w' := by
  go_enter Tryz.func11, Tryz.ntmps11
  go_wp2
  refine bodyPost_ret (v := .agg #[.int .i64 c, .int .i64 a]) (by simp [results, Tryz.results11, go_sem]) rfl ⟨rfl, ?_⟩
  exact Below.alloc (Below.refl _ _) (Nat.le_refl _) _

set_option maxHeartbeats 400000 in
theorem refNumbersFault_any (xs : List Int) (b o cap : Nat) (w : World) (hl : xs.length ≤ 1000000000) (hb : b < w.heap.size)
    (hc : ∀ j, j < xs.length → w.cell? ⟨b, o + j, none⟩ = some (.int .i64 (xs.getD j 0))) :
    Calls Tryz.prog 10 #[.slice (some ⟨b, o, none⟩) xs.length cap] w fun e w' => e = .returned (.agg #[.int .i64 (nf 0 xs).1, .int .i64 (nf 0 xs).2]) ∧ Below w.heap.size w w' := by
  go_enter Tryz.func10, Tryz.ntmps10
  go_wp2
  go_loop [3] (fun i => ∃ k : Nat, k ≤ xs.length ∧ i = .int .i64 k ∧ ∀ j, j < k → numB (xs.getD j 0) = true) (fun i => xs.length - (intOf i).toNat)
  case atStart => exact ⟨0, Nat.zero_le _, rfl, fun j hj => absurd hj (Nat.not_lt_zero _)⟩
  case round =>
    obtain ⟨k, hk, rfl, hok⟩ := hrel
    have HOK : Hid (∀ j, j < k → numB (xs.getD j 0) = true) := hok
    have HC := hc
    clear hok hc
    by_cases hlt : k < xs.length
    · have hck := HC k hlt
      obtain ⟨x, hx⟩ : ∃ x, x = xs.getD k 0 := ⟨_, rfl⟩
      rw [← hx] at hck
      have HX : Hid (x = xs.getD k 0) := hx
      clear HC hx
      cases hn : numB x
      · go_wp2_with (go_at_call 59; refine (number_any _ _).mono ?_; rintro e w' ⟨rfl, rfl⟩)
        refine (F_any 3 k _).mono ?_
        rintro e w1 ⟨rfl, hb1⟩
        have hz : w.heap.size < w1.heap.size := by have := hb1.size; simp at this; omega
        have q0 : w1.cell? ⟨w.heap.size, 0, none⟩ = some (.int .i64 0) := cell_later hb1 (by simp)
        have q1 : w1.cell? ⟨w.heap.size, 1, none⟩ = some (.int .i64 0) := cell_later hb1 (by simp)
        have q2 : w1.frozen? ⟨w.heap.size, 0, none⟩ = false := (hb1.frozen (p := ⟨w.heap.size, 0, none⟩) (by simp)).trans (by simp)
        have q3 : w1.frozen? ⟨w.heap.size, 1, none⟩ = false := (hb1.frozen (p := ⟨w.heap.size, 1, none⟩) (by simp)).trans (by simp)
        go_wp2
        refine bodyPost_ret (v := .agg #[.int .i64 3, .int .i64 k]) (by simp [results, Tryz.results10, go_sem, q0, q1, hz]) rfl ⟨?_, ?_⟩
        · rw [nf_hit xs k hlt HOK.out (by rw [← HX.out]; exact hn)]
        · refine Below.setCell (Below.setCell (Below.trans (Below.alloc (Below.refl _ _) ?_ _) (hb1.mono ?_)) ?_ _) ?_ _ <;> simp
      · go_wp2_with (go_at_call 59; refine (number_any _ _).mono ?_; rintro e w' ⟨rfl, rfl⟩)
        go_round
        case rel =>
          refine ⟨k + 1, by omega, by go_num, fun j hj => ?_⟩
          by_cases hjk : j = k
          · subst hjk; rw [← HX.out]; exact hn
          · exact HOK.out j (by omega)
        case measure => simp [intOf]; omega
    · go_wp2
      refine bodyPost_ret (v := .agg #[.int .i64 0, .int .i64 0]) (by simp [results, Tryz.results10, go_sem]) rfl ⟨?_, ?_⟩
      · rw [nf_none xs (fun j hj => HOK.out j (by omega))]
      · exact Below.alloc (Below.refl _ _) (Nat.le_refl _) _

theorem refSize_any (n : Int) (w : World) (h1 : -9223372036854775807 ≤ n) (h2 : n ≤ 9223372036854775807) :
    Calls Tryz.prog 86 #[.int .i64 n] w fun e w' => e = .returned (.int .i64 (n.natAbs : Int)) ∧ w' = w := by
  by_cases h : n < 0
  all_goals
    go_enter Tryz.func86, Tryz.ntmps86
    go_wp2
    go_ret
    exact ⟨ret_int (by omega), rfl⟩

theorem gcd_sub_left (p q : Nat) : Nat.gcd (p % q) q = Nat.gcd p q := by
  rw [Nat.gcd_comm p q, Nat.gcd_rec q p]
theorem gcd_sub_right (p q : Nat) : Nat.gcd p (q % p) = Nat.gcd p q := by
  rw [Nat.gcd_rec p q, Nat.gcd_comm]

set_option maxHeartbeats 1000000 in
theorem refGcd_nat (a b : Nat) (w : World) (ha : a ≤ 1000000000000000000) (hb : b ≤ 1000000000000000000) (x y : Int) (hx : x.natAbs = a) (hy : y.natAbs = b) :
    Calls Tryz.prog 14 #[.int .i64 x, .int .i64 y] w fun e w' => e = .returned (.int .i64 (Int.gcd x y : Int)) ∧ w' = w := by
  have HG : Hid (Int.gcd x y = Nat.gcd a b) := by unfold Int.gcd; rw [hx, hy]; rfl
  rw [HG.out]
  have hx' : (x < 0 → -x = (a : Int)) ∧ (0 ≤ x → x = (a : Int)) := by omega
  have hy' : (y < 0 → -y = (b : Int)) ∧ (0 ≤ y → y = (b : Int)) := by omega
  have HX : Hid ((x < 0 → -x = (a : Int)) ∧ (0 ≤ x → x = (a : Int))) := hx'
  have HY : Hid ((y < 0 → -y = (b : Int)) ∧ (0 ≤ y → y = (b : Int))) := hy'
  have bx : -1000000000000000000 ≤ x ∧ x ≤ 1000000000000000000 := by omega
  have by' : -1000000000000000000 ≤ y ∧ y ≤ 1000000000000000000 := by omega
  clear hx hy hx' hy' HG
  by_cases sx : x < 0 <;> by_cases sy : y < 0
  all_goals
    go_enter Tryz.func14, Tryz.ntmps14
    go_wp2
    go_loop [0, 1] (fun s t => ∃ p q : Nat, s = .int .i64 p ∧ t = .int .i64 q ∧ p ≤ 1000000000000000000 ∧ q ≤ 1000000000000000000 ∧ Nat.gcd p q = Nat.gcd a b) (fun s t => (intOf s).toNat + (intOf t).toNat)
    case atStart =>
      refine ⟨a, b, ?_, ?_, ha, hb, rfl⟩
      · first | rw [HX.out.1 sx] | rw [HX.out.2 (by omega)]
      · first | rw [HY.out.1 sy] | rw [HY.out.2 (by omega)]
    case round =>
      obtain ⟨p, q, rfl, rfl, hp, hq, hg⟩ := hrel
      have H1 : Hid (Nat.gcd p q = Nat.gcd a b) := hg
      clear hg HX HY
      by_cases c1 : 0 < p
      · by_cases c2 : 0 < q
        · by_cases c3 : q < p
          · have hm : p % q < q := Nat.mod_lt _ c2
            have e := gcd_sub_left p q
            have E : Hid (Nat.gcd (p % q) q = Nat.gcd p q) := e
            clear e
            go_wp2
            go_round
            case rel => exact ⟨p % q, q, by go_num, rfl, by omega, hq, E.out.trans H1.out⟩
            case measure => simp [intOf]; omega
          · have hm : q % p < p := Nat.mod_lt _ c1
            have e := gcd_sub_right p q
            have E : Hid (Nat.gcd p (q % p) = Nat.gcd p q) := e
            clear e
            go_wp2
            go_round
            case rel => exact ⟨p, q % p, rfl, by go_num, hp, by omega, E.out.trans H1.out⟩
            case measure => simp [intOf]; omega
        · obtain rfl : q = 0 := by omega
          go_wp2
          go_ret
          exact ⟨ret_int (by rw [← H1.out]; simp), rfl⟩
      · obtain rfl : p = 0 := by omega
        go_wp2
        go_ret
        exact ⟨ret_int (by rw [← H1.out]; simp), rfl⟩

end Go.Proofs.YtfbgblidlabipaaGreatDoor
end

section
/- Contracts of math/bits: Mul64, Len64, LeadingZeros64. -/
set_option linter.unusedSimpArgs false
set_option linter.unusedVariables false
set_option maxRecDepth 100000
namespace Go.Proofs.YtfbgblidlabipaaGreatDoor
open Go.RowKit

theorem ret2 {k1 k2 : IntKind} {a b a' b' : Int} (h1 : a = a') (h2 : b = b') : Ending.returned (.tuple #[.int k1 a, .int k2 b]) = .returned (.tuple #[.int k1 a', .int k2 b']) := by rw [h1, h2]

set_option maxHeartbeats 1000000 in
theorem Mul64_any (x y : Nat) (hx : x < 18446744073709551616) (hy : y < 18446744073709551616) (w : World) :
    Calls Tryz.prog 230 #[.int .u64 x, .int .u64 y] w fun e w' => e = .returned (.tuple #[.int .u64 ((x * y / 18446744073709551616 : Nat) : Int), .int .u64 ((x * y % 18446744073709551616 : Nat) : Int)]) ∧ w' = w := by
  have HA : Hid (((x * y / 18446744073709551616 : Nat) : Int) = (x : Int) * (y : Int) / 18446744073709551616 ∧ ((x * y % 18446744073709551616 : Nat) : Int) = (x : Int) * (y : Int) % 18446744073709551616) := by
    constructor <;> simp
  rw [HA.out.1, HA.out.2]
  have HM : Hid _ := mul64_arith (x : Int) (y : Int) (by omega) (by omega) (by omega) (by omega)
  have HX : Hid (bits .and .u64 (x : Int) 4294967295 = (x : Int) % 4294967296) := and_low32 _ (by omega) (by omega)
  have HY : Hid (bits .and .u64 (y : Int) 4294967295 = (y : Int) % 4294967296) := and_low32 _ (by omega) (by omega)
  clear HA hx hy
  go_enter Tryz.func230, Tryz.ntmps230
  go_wp2
  go_ret2
  refine ⟨ret2 ?_ ?_, rfl⟩
  · rw [HX.out, HY.out]
    simp only [IntKind.wrap_u64]
    rw [and_low32 _ (by omega) (by omega)]
    exact HM.out
  · rw [IntKind.wrap_u64]

set_option maxHeartbeats 1000000 in
set_option maxRecDepth 100000 in
theorem Len64_0 (x : Int) (w : World) (h0 : 0 ≤ x) (h1 : x ≤ 255) :
    Calls Tryz.prog 254 #[.int .u64 x] w fun e w' => e = .returned (.int .i64 (Lib.bitLen x.toNat)) ∧ w' = w := by
  have e1 : 0 ≤ x := by omega
  have e2 : x ≤ 255 := by omega
  have l := Lib.bitLen_le8' (x) e1 e2
  have HL : Hid (Lib.len8 (x) = (Lib.bitLen (x).toNat : Int)) := Lib.len8_of _ e1 e2
  go_enter Tryz.func254, Tryz.ntmps254
  go_wp2
  go_ret
  refine ⟨ret_int ?_, rfl⟩
  have hl := HL.out
  first | (rw [hl]; omega) | (simp only [wrap64, IntKind.wrap_i64]; rw [hl]; omega) | (rw [hl])

set_option maxHeartbeats 1000000 in
set_option maxRecDepth 100000 in
theorem Len64_8 (x : Int) (w : World) (h0 : 256 ≤ x) (h1 : x ≤ 65535) :
    Calls Tryz.prog 254 #[.int .u64 x] w fun e w' => e = .returned (.int .i64 (Lib.bitLen x.toNat)) ∧ w' = w := by
  have e1 : 0 ≤ x / 256 := by omega
  have e2 : x / 256 ≤ 255 := by omega
  have l := Lib.bitLen_le8' (x / 256) e1 e2
  have HL : Hid (Lib.len8 (x / 256) = (Lib.bitLen (x / 256).toNat : Int)) := Lib.len8_of _ e1 e2
  have HS : Hid (Lib.bitLen x.toNat = 8 + Lib.bitLen (x.toNat / 256)) := Lib.bitLen_shift8 x.toNat (by omega) (by omega)
  have HT : Hid ((x / 256).toNat = x.toNat / 256) := by show _ = _; omega
  go_enter Tryz.func254, Tryz.ntmps254
  go_wp2
  go_ret
  refine ⟨ret_int ?_, rfl⟩
  rw [HT.out] at l
  have hl := HL.out
  rw [HT.out] at hl
  rw [HS.out]
  first | (rw [hl]; omega) | (simp only [wrap64, IntKind.wrap_i64]; rw [hl]; omega)

set_option maxHeartbeats 1000000 in
set_option maxRecDepth 100000 in
theorem Len64_16 (x : Int) (w : World) (h0 : 65536 ≤ x) (h1 : x ≤ 16777215) :
    Calls Tryz.prog 254 #[.int .u64 x] w fun e w' => e = .returned (.int .i64 (Lib.bitLen x.toNat)) ∧ w' = w := by
  have e1 : 0 ≤ x / 65536 := by omega
  have e2 : x / 65536 ≤ 255 := by omega
  have l := Lib.bitLen_le8' (x / 65536) e1 e2
  have HL : Hid (Lib.len8 (x / 65536) = (Lib.bitLen (x / 65536).toNat : Int)) := Lib.len8_of _ e1 e2
  have HS : Hid (Lib.bitLen x.toNat = 16 + Lib.bitLen (x.toNat / 65536)) := Lib.bitLen_shift16 x.toNat (by omega) (by omega)
  have HT : Hid ((x / 65536).toNat = x.toNat / 65536) := by show _ = _; omega
  go_enter Tryz.func254, Tryz.ntmps254
  go_wp2
  go_ret
  refine ⟨ret_int ?_, rfl⟩
  rw [HT.out] at l
  have hl := HL.out
  rw [HT.out] at hl
  rw [HS.out]
  first | (rw [hl]; omega) | (simp only [wrap64, IntKind.wrap_i64]; rw [hl]; omega)

set_option maxHeartbeats 1000000 in
set_option maxRecDepth 100000 in
theorem Len64_24 (x : Int) (w : World) (h0 : 16777216 ≤ x) (h1 : x ≤ 4294967295) :
    Calls Tryz.prog 254 #[.int .u64 x] w fun e w' => e = .returned (.int .i64 (Lib.bitLen x.toNat)) ∧ w' = w := by
  have e1 : 0 ≤ x / 65536 / 256 := by omega
  have e2 : x / 65536 / 256 ≤ 255 := by omega
  have l := Lib.bitLen_le8' (x / 65536 / 256) e1 e2
  have HL : Hid (Lib.len8 (x / 65536 / 256) = (Lib.bitLen (x / 65536 / 256).toNat : Int)) := Lib.len8_of _ e1 e2
  have HS : Hid (Lib.bitLen x.toNat = 24 + Lib.bitLen (x.toNat / 16777216)) := Lib.bitLen_shift24 x.toNat (by omega) (by omega)
  have HT : Hid ((x / 65536 / 256).toNat = x.toNat / 16777216) := by show _ = _; omega
  go_enter Tryz.func254, Tryz.ntmps254
  go_wp2
  go_ret
  refine ⟨ret_int ?_, rfl⟩
  rw [HT.out] at l
  have hl := HL.out
  rw [HT.out] at hl
  rw [HS.out]
  first | (rw [hl]; omega) | (simp only [wrap64, IntKind.wrap_i64]; rw [hl]; omega)

set_option maxHeartbeats 1000000 in
set_option maxRecDepth 100000 in
theorem Len64_32 (x : Int) (w : World) (h0 : 4294967296 ≤ x) (h1 : x ≤ 1099511627775) :
    Calls Tryz.prog 254 #[.int .u64 x] w fun e w' => e = .returned (.int .i64 (Lib.bitLen x.toNat)) ∧ w' = w := by
  have e1 : 0 ≤ x / 4294967296 := by omega
  have e2 : x / 4294967296 ≤ 255 := by omega
  have l := Lib.bitLen_le8' (x / 4294967296) e1 e2
  have HL : Hid (Lib.len8 (x / 4294967296) = (Lib.bitLen (x / 4294967296).toNat : Int)) := Lib.len8_of _ e1 e2
  have HS : Hid (Lib.bitLen x.toNat = 32 + Lib.bitLen (x.toNat / 4294967296)) := Lib.bitLen_shift32 x.toNat (by omega) (by omega)
  have HT : Hid ((x / 4294967296).toNat = x.toNat / 4294967296) := by show _ = _; omega
  go_enter Tryz.func254, Tryz.ntmps254
  go_wp2
  go_ret
  refine ⟨ret_int ?_, rfl⟩
  rw [HT.out] at l
  have hl := HL.out
  rw [HT.out] at hl
  rw [HS.out]
  first | (rw [hl]; omega) | (simp only [wrap64, IntKind.wrap_i64]; rw [hl]; omega)

set_option maxHeartbeats 1000000 in
set_option maxRecDepth 100000 in
theorem Len64_40 (x : Int) (w : World) (h0 : 1099511627776 ≤ x) (h1 : x ≤ 281474976710655) :
    Calls Tryz.prog 254 #[.int .u64 x] w fun e w' => e = .returned (.int .i64 (Lib.bitLen x.toNat)) ∧ w' = w := by
  have e1 : 0 ≤ x / 4294967296 / 256 := by omega
  have e2 : x / 4294967296 / 256 ≤ 255 := by omega
  have l := Lib.bitLen_le8' (x / 4294967296 / 256) e1 e2
  have HL : Hid (Lib.len8 (x / 4294967296 / 256) = (Lib.bitLen (x / 4294967296 / 256).toNat : Int)) := Lib.len8_of _ e1 e2
  have HS : Hid (Lib.bitLen x.toNat = 40 + Lib.bitLen (x.toNat / 1099511627776)) := Lib.bitLen_shift40 x.toNat (by omega) (by omega)
  have HT : Hid ((x / 4294967296 / 256).toNat = x.toNat / 1099511627776) := by show _ = _; omega
  go_enter Tryz.func254, Tryz.ntmps254
  go_wp2
  go_ret
  refine ⟨ret_int ?_, rfl⟩
  rw [HT.out] at l
  have hl := HL.out
  rw [HT.out] at hl
  rw [HS.out]
  first | (rw [hl]; omega) | (simp only [wrap64, IntKind.wrap_i64]; rw [hl]; omega)

set_option maxHeartbeats 1000000 in
set_option maxRecDepth 100000 in
theorem Len64_48 (x : Int) (w : World) (h0 : 281474976710656 ≤ x) (h1 : x ≤ 72057594037927935) :
    Calls Tryz.prog 254 #[.int .u64 x] w fun e w' => e = .returned (.int .i64 (Lib.bitLen x.toNat)) ∧ w' = w := by
  have e1 : 0 ≤ x / 4294967296 / 65536 := by omega
  have e2 : x / 4294967296 / 65536 ≤ 255 := by omega
  have l := Lib.bitLen_le8' (x / 4294967296 / 65536) e1 e2
  have HL : Hid (Lib.len8 (x / 4294967296 / 65536) = (Lib.bitLen (x / 4294967296 / 65536).toNat : Int)) := Lib.len8_of _ e1 e2
  have HS : Hid (Lib.bitLen x.toNat = 48 + Lib.bitLen (x.toNat / 281474976710656)) := Lib.bitLen_shift48 x.toNat (by omega) (by omega)
  have HT : Hid ((x / 4294967296 / 65536).toNat = x.toNat / 281474976710656) := by show _ = _; omega
  go_enter Tryz.func254, Tryz.ntmps254
  go_wp2
  go_ret
  refine ⟨ret_int ?_, rfl⟩
  rw [HT.out] at l
  have hl := HL.out
  rw [HT.out] at hl
  rw [HS.out]
  first | (rw [hl]; omega) | (simp only [wrap64, IntKind.wrap_i64]; rw [hl]; omega)

set_option maxHeartbeats 1000000 in
set_option maxRecDepth 100000 in
theorem Len64_56 (x : Int) (w : World) (h0 : 72057594037927936 ≤ x) (h1 : x ≤ 18446744073709551615) :
    Calls Tryz.prog 254 #[.int .u64 x] w fun e w' => e = .returned (.int .i64 (Lib.bitLen x.toNat)) ∧ w' = w := by
  have e1 : 0 ≤ x / 4294967296 / 65536 / 256 := by omega
  have e2 : x / 4294967296 / 65536 / 256 ≤ 255 := by omega
  have l := Lib.bitLen_le8' (x / 4294967296 / 65536 / 256) e1 e2
  have HL : Hid (Lib.len8 (x / 4294967296 / 65536 / 256) = (Lib.bitLen (x / 4294967296 / 65536 / 256).toNat : Int)) := Lib.len8_of _ e1 e2
  have HS : Hid (Lib.bitLen x.toNat = 56 + Lib.bitLen (x.toNat / 72057594037927936)) := Lib.bitLen_shift56 x.toNat (by omega) (by omega)
  have HT : Hid ((x / 4294967296 / 65536 / 256).toNat = x.toNat / 72057594037927936) := by show _ = _; omega
  go_enter Tryz.func254, Tryz.ntmps254
  go_wp2
  go_ret
  refine ⟨ret_int ?_, rfl⟩
  rw [HT.out] at l
  have hl := HL.out
  rw [HT.out] at hl
  rw [HS.out]
  first | (rw [hl]; omega) | (simp only [wrap64, IntKind.wrap_i64]; rw [hl]; omega)

theorem Len64_int (x : Int) (w : World) (h0 : 0 ≤ x) (h1 : x ≤ 18446744073709551615) :
    Calls Tryz.prog 254 #[.int .u64 x] w fun e w' => e = .returned (.int .i64 (Lib.bitLen x.toNat)) ∧ w' = w := by
  rcases Int.lt_or_le x 256 with c | c
  · exact Len64_0 x w h0 (by omega)
  rcases Int.lt_or_le x 65536 with d1 | d1
  · exact Len64_8 x w (by omega) (by omega)
  rcases Int.lt_or_le x 16777216 with d2 | d2
  · exact Len64_16 x w (by omega) (by omega)
  rcases Int.lt_or_le x 4294967296 with d3 | d3
  · exact Len64_24 x w (by omega) (by omega)
  rcases Int.lt_or_le x 1099511627776 with d4 | d4
  · exact Len64_32 x w (by omega) (by omega)
  rcases Int.lt_or_le x 281474976710656 with d5 | d5
  · exact Len64_40 x w (by omega) (by omega)
  rcases Int.lt_or_le x 72057594037927936 with d6 | d6
  · exact Len64_48 x w (by omega) (by omega)
  exact Len64_56 x w (by omega) (by omega)

end Go.Proofs.YtfbgblidlabipaaGreatDoor
end

section
/- Plain facts: one digit of a division by two halves of 32 bits. Nothing of the program. -/
set_option linter.unusedSimpArgs false
set_option linter.unusedVariables false
set_option maxRecDepth 100000
namespace Go.Proofs.YtfbgblidlabipaaGreatDoor.MathB

/-- A guess q of the digit of (u B + n) / (v1 B + v0), with its rest r by v1. -/
structure Dg (u v1 v0 n q r : Nat) : Prop where
  lin : q * v1 + r = u
  up : (u * 4294967296 + n) / (v1 * 4294967296 + v0) ≤ q

theorem dg_start (u v1 v0 n : Nat) (h1 : 0 < v1) (hn : n < 4294967296) : Dg u v1 v0 n (u / v1) (u % v1) := by
  refine ⟨by rw [Nat.mul_comm]; exact Nat.div_add_mod u v1, ?_⟩
  have e1 : (u * 4294967296 + n) / (v1 * 4294967296 + v0) ≤ (u * 4294967296 + n) / (v1 * 4294967296) := Nat.div_le_div_left (by omega) (by omega)
  have e2 : (u * 4294967296 + n) / (v1 * 4294967296) = u / v1 := by
    rw [Nat.mul_comm v1, ← Nat.div_div_eq_div_mul]
    congr 1; omega
  omega

theorem dg_small (u v1 v0 n : Nat) (hn : n < 4294967296) (hu : u < v1 * 4294967296 + v0) : (u * 4294967296 + n) / (v1 * 4294967296 + v0) < 4294967296 := by
  rw [Nat.div_lt_iff_lt_mul (by omega)]
  omega

theorem dg_step {u v1 v0 n q r : Nat} (h : Dg u v1 v0 n q r) (hn : n < 4294967296) (hu : u < v1 * 4294967296 + v0) (hc : 4294967296 ≤ q ∨ 4294967296 * r + n < q * v0) : 1 ≤ q ∧ Dg u v1 v0 n (q - 1) (r + v1) := by
  have hs := dg_small u v1 v0 n hn hu
  have hlt : (u * 4294967296 + n) / (v1 * 4294967296 + v0) < q := by
    rcases hc with hc | hc
    · omega
    · rw [Nat.div_lt_iff_lt_mul (by omega)]
      have := h.lin
      have e : q * (v1 * 4294967296 + v0) = q * v1 * 4294967296 + q * v0 := by rw [Nat.mul_add, Nat.mul_assoc]
      rw [e]; omega
  have hq : 1 ≤ q := Nat.lt_of_le_of_lt (Nat.zero_le _) hlt
  refine ⟨hq, ?_, by omega⟩
  have := h.lin
  obtain ⟨k, rfl⟩ : ∃ k, q = k + 1 := ⟨q - 1, by omega⟩
  rw [Nat.add_mul] at this
  simp only [Nat.add_sub_cancel]; omega

theorem dg_low {u v1 v0 n q r : Nat} (h : Dg u v1 v0 n q r) (hu : u < v1 * 4294967296 + v0) (h0 : v0 < 4294967296) (hr : 4294967296 ≤ r) : q < 4294967296 := by
  have := h.lin
  rcases Nat.lt_or_ge q 4294967296 with c | c
  · exact c
  · have : 4294967296 * v1 ≤ q * v1 := Nat.mul_le_mul_right _ c
    omega

theorem dg_end {u v1 v0 n q r : Nat} (h : Dg u v1 v0 n q r) (hu : u < v1 * 4294967296 + v0) (h0 : v0 < 4294967296) (hc : q * v0 ≤ 4294967296 * r + n ∨ 4294967296 ≤ r) :
    q = (u * 4294967296 + n) / (v1 * 4294967296 + v0) := by
  have hlin := h.lin
  have hc' : q * v0 ≤ 4294967296 * r + n := by
    rcases hc with hc | hc
    · exact hc
    · have hq := dg_low h hu h0 hc
      have := Nat.mul_le_mul (show q ≤ 4294967295 by omega) (show v0 ≤ 4294967295 by omega)
      omega
  refine Nat.le_antisymm ?_ h.up
  rw [Nat.le_div_iff_mul_le (by omega), Nat.mul_add, ← Nat.mul_assoc]
  omega

/-- Two digits: the quotient and the rest. -/
theorem two_digits (u n1 n0 Y q1 q0 : Nat) (hY : 0 < Y) (h1 : q1 = (u * 4294967296 + n1) / Y) (h0 : q0 = ((u * 4294967296 + n1) % Y * 4294967296 + n0) / Y) :
    (u * 18446744073709551616 + (n1 * 4294967296 + n0)) / Y = q1 * 4294967296 + q0 ∧ (u * 18446744073709551616 + (n1 * 4294967296 + n0)) % Y = ((u * 4294967296 + n1) % Y * 4294967296 + n0) % Y := by
  have e : u * 18446744073709551616 + (n1 * 4294967296 + n0) = Y * (q1 * 4294967296) + ((u * 4294967296 + n1) % Y * 4294967296 + n0) := by
    have := Nat.div_add_mod (u * 4294967296 + n1) Y
    rw [← h1] at this
    rw [← Nat.mul_assoc]
    generalize (u * 4294967296 + n1) % Y = z at *
    generalize Y * q1 = t at *
    omega
  rw [e]
  constructor
  · rw [Nat.mul_add_div hY, h0]
  · rw [Nat.mul_add_mod]

/-- What is shifted: a dividend of 128 bits. -/
theorem shifted (hi lo y s : Nat) (hlo : lo < 18446744073709551616) (hs : s ≤ 63) (hlt : hi < y) :
    lo / 2 ^ (64 - s) < 2 ^ s ∧ (hi * 2 ^ s + lo / 2 ^ (64 - s)) * 18446744073709551616 + lo * 2 ^ s % 18446744073709551616 = (hi * 18446744073709551616 + lo) * 2 ^ s ∧ hi * 2 ^ s + lo / 2 ^ (64 - s) < y * 2 ^ s := by
  have e64 : 2 ^ (64 - s) * 2 ^ s = 18446744073709551616 := by
    rw [← Nat.pow_add, show 64 - s + s = 64 by omega]
  have hp : 0 < 2 ^ s := Nat.two_pow_pos s
  have hp2 : 0 < 2 ^ (64 - s) := Nat.two_pow_pos _
  have h1 : lo / 2 ^ (64 - s) < 2 ^ s := by
    rw [Nat.div_lt_iff_lt_mul hp2, Nat.mul_comm, e64]; exact hlo
  have h2 : lo * 2 ^ s / 18446744073709551616 = lo / 2 ^ (64 - s) := by
    rw [← e64]; exact Nat.mul_div_mul_right _ _ hp
  have h3 := Nat.div_add_mod (lo * 2 ^ s) 18446744073709551616
  rw [h2] at h3
  have h4 : (hi + 1) * 2 ^ s ≤ y * 2 ^ s := Nat.mul_le_mul_right _ hlt
  rw [Nat.add_mul] at h4
  refine ⟨h1, ?_, by omega⟩
  have h5 : (hi * 18446744073709551616 + lo) * 2 ^ s = hi * 2 ^ s * 18446744073709551616 + lo * 2 ^ s := by rw [Nat.add_mul, Nat.mul_right_comm]
  rw [h5]
  generalize hi * 2 ^ s = A at *
  generalize lo / 2 ^ (64 - s) = D at *
  generalize lo * 2 ^ s = C at *
  omega

/-- The quotient and the rest of what was shifted. -/
theorem unshifted (X y s Q R : Nat) (h : X * 2 ^ s / (y * 2 ^ s) = Q) (h2 : X * 2 ^ s % (y * 2 ^ s) = R) : X / y = Q ∧ X % y = R / 2 ^ s := by
  have hp : 0 < 2 ^ s := Nat.two_pow_pos s
  rw [Nat.mul_div_mul_right _ _ hp] at h
  rw [Nat.mul_mod_mul_right] at h2
  refine ⟨h, ?_⟩
  rw [← h2, Nat.mul_div_cancel _ hp]

end Go.Proofs.YtfbgblidlabipaaGreatDoor.MathB
end

section
/- Contracts of math/bits: LeadingZeros64, Div64, Rem64; and whole's productLeft. -/
set_option linter.unusedSimpArgs false
set_option linter.unusedVariables false
set_option maxRecDepth 100000
namespace Go.Proofs.YtfbgblidlabipaaGreatDoor
open Go.RowKit

theorem LeadingZeros64_any (x : Int) (w : World) (h0 : 0 ≤ x) (h1 : x ≤ 18446744073709551615) :
    Calls Tryz.prog 312 #[.int .u64 x] w fun e w' => e = .returned (.int .i64 (64 - (Lib.bitLen x.toNat : Int))) ∧ w' = w := by
  have hb : Lib.bitLen x.toNat ≤ 64 := Lib.bitLen_le x.toNat 64 (by omega) (by omega)
  go_enter Tryz.func312, Tryz.ntmps312
  go_wp2_with (go_at_call 254; refine (Len64_int _ _ h0 h1).mono ?_; rintro e w' ⟨rfl, rfl⟩)
  go_ret
  exact ⟨rfl, rfl⟩

theorem bl_spec (x : Nat) : x < 2 ^ 64 → x < 2 ^ Lib.bitLen x ∧ (x ≠ 0 → 2 ^ (Lib.bitLen x - 1) ≤ x) := by
  induction x using Nat.strongRecOn with
  | ind x ih =>
    intro hx
    by_cases h0 : x = 0
    · subst h0; exact ⟨Nat.two_pow_pos _, fun h => absurd rfl h⟩
    · have h1 := Lib.bitLen_half x h0 hx
      have h2 := ih (x / 2) (by omega) (by omega)
      generalize Lib.bitLen (x / 2) = b at *
      rw [h1]
      constructor
      · rw [Nat.pow_add]; omega
      · intro _
        have e : 1 + b - 1 = b := by omega
        rw [e]
        by_cases h3 : x / 2 = 0
        · have : b = 0 := by
            rcases Nat.eq_zero_or_pos b with k | k
            · exact k
            · have := h2.1; have h4 := h1
              exfalso
              have h5 : Lib.bitLen x = 1 := by
                have : x = 1 := by omega
                subst this; decide
              omega
          subst this; omega
        · have h4 := h2.2 h3
          have h5 : 0 < b := by
            rcases Nat.eq_zero_or_pos b with k | k
            · subst k; have := h2.1; simp at this; omega
            · exact k
          have e2 : 2 ^ b = 2 ^ (b - 1) * 2 := by rw [← Nat.pow_succ]; congr 1; omega
          omega

set_option maxHeartbeats 1000000 in
theorem Div64_low (lo y : Nat) (w : World) (hl : lo < 18446744073709551616) (hy : y < 18446744073709551616) (h : 0 < y) :
    Calls Tryz.prog 307 #[.int .u64 0, .int .u64 lo, .int .u64 y] w fun e w' => e = .returned (.tuple #[.int .u64 ((lo / y : Nat) : Int), .int .u64 ((lo % y : Nat) : Int)]) ∧ ∃ n, w' = w.drewN n := by
  have t1 : ((y : Int) == 0) = false := beq_eq_false_iff_ne.2 (by omega)
  have b1 : (lo : Int) ≤ 18446744073709551615 := by omega
  have b2 : (y : Int) ≤ 18446744073709551615 := by omega
  have hq : 0 ≤ (lo : Int) / (y : Int) ∧ (lo : Int) / (y : Int) ≤ 18446744073709551615 := by
    rw [← Int.natCast_ediv]; have := Nat.div_le_self lo y; generalize lo / y = z at *; omega
  clear hl hy
  go_enter Tryz.func307, Tryz.ntmps307
  go_wp2
  go_quiet (fail)
  go_wp2
  go_ret2
  exact ⟨ret2 (Int.natCast_ediv lo y).symm (Int.natCast_emod lo y).symm, _, rfl⟩

theorem mask_nat (a : Nat) (ha : a < 18446744073709551616) : bits .and .u64 (a : Int) 4294967295 = ((a % 4294967296 : Nat) : Int) := by
  rw [and_low32 (a : Int) (by omega) (by omega)]; simp
theorem wrapN (a : Nat) (ha : a < 18446744073709551616) : IntKind.u64.wrap (a : Int) = (a : Int) := by rw [IntKind.wrap_u64]; omega
theorem wrapM (a : Nat) : IntKind.u64.wrap (a : Int) = ((a % 18446744073709551616 : Nat) : Int) := by rw [IntKind.wrap_u64]; omega

theorem or_nat (a b s : Nat) (h : b < 2 ^ s) (h1 : a * 2 ^ s < 18446744073709551616) (h2 : b < 18446744073709551616) : bits .or .u64 ((a * 2 ^ s : Nat) : Int) (b : Int) = ((a * 2 ^ s + b : Nat) : Int) := by
  rw [bits_or_u64_nat _ _ h1 h2, Nat.mul_comm a, Nat.two_pow_add_eq_or_of_lt h]

theorem wrap_rem (u n q Y r : Nat) (h : u * 4294967296 + n = q * Y + r) (hr : r < 18446744073709551616) :
    IntKind.u64.wrap (IntKind.u64.wrap (IntKind.u64.wrap ((u : Int) * 4294967296) + (n : Int)) - IntKind.u64.wrap ((q : Int) * (Y : Int))) = (r : Int) := by
  simp only [IntKind.wrap_u64]
  have : (q : Int) * (Y : Int) = ((q * Y : Nat) : Int) := by simp
  rw [this]
  generalize q * Y = p at *
  omega

theorem cast_quo {hi lo y a b : Nat} (h : (hi * 18446744073709551616 + lo) / y = a * 4294967296 + b) : (a : Int) * 4294967296 + (b : Int) = ((hi : Int) * 18446744073709551616 + (lo : Int)) / (y : Int) := by
  have e : ((hi : Int) * 18446744073709551616 + (lo : Int)) / (y : Int) = (((hi * 18446744073709551616 + lo) / y : Nat) : Int) := by simp
  rw [e, h]; simp
theorem cast_rem {hi lo y R s : Nat} (h : (hi * 18446744073709551616 + lo) % y = R / 2 ^ s) : (R : Int) / 2 ^ s = ((hi : Int) * 18446744073709551616 + (lo : Int)) % (y : Int) := by
  have e : ((hi : Int) * 18446744073709551616 + (lo : Int)) % (y : Int) = (((hi * 18446744073709551616 + lo) % y : Nat) : Int) := by simp
  rw [e, h]; simp

theorem prod_leI2 (x y : Nat) (hx : x < 4294967296) (hy : y < 4294967296) : 0 ≤ (x : Int) * (y : Int) ∧ (x : Int) * (y : Int) ≤ 18446744065119617025 := by
  have := Nat.mul_le_mul (show x ≤ 4294967295 by omega) (show y ≤ 4294967295 by omega)
  rw [← Int.natCast_mul]; omega

set_option maxHeartbeats 4000000 in
set_option maxRecDepth 10000 in
/-- With the dividend shifted: u B^2 + n1 B + n0, the divisor Y = v1 B + v0. -/
theorem Div64_high (hi lo y : Nat) (w : World) (hl : lo < 18446744073709551616) (hy : y < 18446744073709551616) (h : 0 < hi) (hlt : hi < y) :
    Calls Tryz.prog 307 #[.int .u64 hi, .int .u64 lo, .int .u64 y] w fun e w' => e = .returned (.tuple #[.int .u64 (((hi * 18446744073709551616 + lo) / y : Nat) : Int), .int .u64 (((hi * 18446744073709551616 + lo) % y : Nat) : Int)]) ∧ w' = w := by
  have t1 : ((y : Int) == 0) = false := beq_eq_false_iff_ne.2 (by omega)
  have t2 : ((hi : Int) == 0) = false := beq_eq_false_iff_ne.2 (by omega)
  have b1 : (lo : Int) ≤ 18446744073709551615 := by omega
  have b2 : (y : Int) ≤ 18446744073709551615 := by omega
  obtain ⟨s, hs⟩ : ∃ s, s = 64 - Lib.bitLen y := ⟨_, rfl⟩
  have hbl : Lib.bitLen y ≤ 64 := Lib.bitLen_le y 64 (by omega) (by omega)
  have hbs := bl_spec y (by omega)
  have HS : Hid (64 - (Lib.bitLen (y : Int).toNat : Int) = (s : Int)) := by show _ = _; rw [Int.toNat_natCast]; omega
  have hb0 : Lib.bitLen y ≠ 0 := by intro e; rw [e] at hbs; have := hbs.1; simp at this; omega
  have s63 : s ≤ 63 := by omega
  have hp : y * 2 ^ s < 18446744073709551616 ∧ 9223372036854775808 ≤ y * 2 ^ s := by
    have e1 : 2 ^ Lib.bitLen y * 2 ^ s = 18446744073709551616 := by rw [← Nat.pow_add, show Lib.bitLen y + s = 64 by omega]
    have e2 : 2 ^ (Lib.bitLen y - 1) * 2 ^ s = 9223372036854775808 := by rw [← Nat.pow_add, show Lib.bitLen y - 1 + s = 63 by omega]
    constructor
    · rw [← e1]; exact Nat.mul_lt_mul_of_pos_right hbs.1 (Nat.two_pow_pos s)
    · rw [← e2]; exact Nat.mul_le_mul_right _ (hbs.2 (by omega))
  have hpi : (2 : Int) ^ s = ((2 ^ s : Nat) : Int) := by simp
  have hpj : (2 : Int) ^ (64 - s) = ((2 ^ (64 - s) : Nat) : Int) := by simp
  obtain ⟨f1, f2, f3⟩ := MathB.shifted hi lo y s hl s63 hlt
  have hhi : hi * 2 ^ s < 18446744073709551616 := Nat.lt_of_le_of_lt (Nat.le_add_right _ _) (Nat.lt_trans f3 hp.1)
  have eY : IntKind.u64.wrap ((y : Int) * 2 ^ s) = ((y * 2 ^ s : Nat) : Int) := by rw [hpi, ← Int.natCast_mul]; exact wrapN _ hp.1
  have eu : bits BinOp.or .u64 (IntKind.u64.wrap ((hi : Int) * 2 ^ s)) ((lo : Int) / 2 ^ (64 - s)) = ((hi * 2 ^ s + lo / 2 ^ (64 - s) : Nat) : Int) := by
    rw [hpi, hpj, ← Int.natCast_mul, wrapN _ hhi, ← Int.natCast_ediv]
    exact or_nat hi _ s f1 hhi (Nat.lt_of_le_of_lt (Nat.div_le_self ..) hl)
  have en : IntKind.u64.wrap ((lo : Int) * 2 ^ s) = ((lo * 2 ^ s % 18446744073709551616 : Nat) : Int) := by rw [hpi, ← Int.natCast_mul]; exact wrapM _
  have hn64 : lo * 2 ^ s % 18446744073709551616 < 18446744073709551616 := Nat.mod_lt _ (by omega)
  obtain ⟨Y, gY⟩ : ∃ Y, Y = y * 2 ^ s := ⟨_, rfl⟩
  obtain ⟨u, gu⟩ : ∃ u, u = hi * 2 ^ s + lo / 2 ^ (64 - s) := ⟨_, rfl⟩
  obtain ⟨n, gn⟩ : ∃ n, n = lo * 2 ^ s % 18446744073709551616 := ⟨_, rfl⟩
  rw [← gY] at hp eY f3
  rw [← gu] at eu f2 f3
  rw [← gn] at en f2 hn64
  have FX : Hid ((hi * 18446744073709551616 + lo) * 2 ^ s = u * 18446744073709551616 + n) := f2.symm
  have FY : Hid (Y = y * 2 ^ s) := gY
  clear gY gu gn f1 f2 hbs hbl hb0 hs hpi hpj hhi hl hy
  obtain ⟨v1, gv1⟩ : ∃ v1, v1 = Y / 4294967296 := ⟨_, rfl⟩
  obtain ⟨v0, gv0⟩ : ∃ v0, v0 = Y % 4294967296 := ⟨_, rfl⟩
  obtain ⟨n1, gn1⟩ : ∃ n1, n1 = n / 4294967296 := ⟨_, rfl⟩
  obtain ⟨n0, gn0⟩ : ∃ n0, n0 = n % 4294967296 := ⟨_, rfl⟩
  have eY1 : (Y : Int) / 4294967296 = (v1 : Int) := by omega
  have eY0 : bits BinOp.and .u64 (Y : Int) 4294967295 = (v0 : Int) := by rw [mask_nat Y hp.1, gv0]
  have en1 : (n : Int) / 4294967296 = (n1 : Int) := by omega
  have en0 : bits BinOp.and .u64 (n : Int) 4294967295 = (n0 : Int) := by rw [mask_nat n hn64, gn0]
  have GY : Hid (Y = v1 * 4294967296 + v0) := by show _ = _; omega
  have GN : Hid (n = n1 * 4294967296 + n0) := by show _ = _; omega
  have c1 : 2147483648 ≤ v1 := by omega
  have c2 : v1 < 4294967296 := by omega
  have c3 : v0 < 4294967296 := by omega
  have c4 : n1 < 4294967296 := by omega
  have c5 : n0 < 4294967296 := by omega
  have huY : u < v1 * 4294967296 + v0 := by omega
  have hY64 : Y < 18446744073709551616 := hp.1
  have hY0 : 9223372036854775808 ≤ Y := hp.2
  clear gv1 gv0 gn1 gn0 hn64 hp f3
  have hq := MathB.dg_start u v1 v0 n1 (by omega) c4
  have hr0 : u % v1 < v1 := Nat.mod_lt _ (by omega)
  have hq4 : u / v1 ≤ 8589934592 := by
    rw [Nat.div_le_iff_le_mul_add_pred (by omega)]
    have : 2147483648 * 8589934592 ≤ v1 * 8589934592 := Nat.mul_le_mul_right _ c1
    omega
  have eq1 : (u : Int) / (v1 : Int) = ((u / v1 : Nat) : Int) := (Int.natCast_ediv ..).symm
  obtain ⟨q, gq⟩ : ∃ q, q = u / v1 := ⟨_, rfl⟩
  obtain ⟨r, gr⟩ : ∃ r, r = u % v1 := ⟨_, rfl⟩
  rw [← gq] at hq hq4 eq1
  rw [← gr] at hq hr0
  have hlin : (q : Int) * (v1 : Int) + (r : Int) = (u : Int) := by have := hq.lin; rw [← this]; simp
  have er1 : (u : Int) - (q : Int) * (v1 : Int) = (r : Int) := by omega
  have hqv : 0 ≤ (q : Int) * (v1 : Int) ∧ (q : Int) * (v1 : Int) ≤ 18446744073709551615 := by
    rw [← Int.natCast_mul] at hlin ⊢; omega
  have HQ : Hid (MathB.Dg u v1 v0 n1 q r) := hq
  clear hq gq gr hlin
  go_enter Tryz.func307, Tryz.ntmps307
  go_wp2_with fail
  refine (LeadingZeros64_any _ _ (by omega) b2).mono ?_
  rw [HS.out]
  rintro e w' ⟨rfl, rfl⟩
  go_wp2
  go_loop [15, 16] (fun a b => ∃ q r : Nat, a = .int .u64 q ∧ b = .int .u64 r ∧ Hid (MathB.Dg u v1 v0 n1 q r ∧ r < 4294967296 ∧ q ≤ 8589934592)) (fun a _ => (intOf a).toNat)
  case atStart => exact ⟨q, r, rfl, rfl, ⟨HQ.out, by omega, hq4⟩⟩
  case round =>
    clear HQ eY eu en eY1 eY0 en1 en0 eq1 er1 hqv hr0 hq4
    obtain ⟨q, r, rfl, rfl, hd0⟩ := hrel
    obtain ⟨hd, hr, hq4⟩ := hd0.out
    clear hd0
    have HQ : Hid (MathB.Dg u v1 v0 n1 q r) := hd
    clear hd
    by_cases hA : 4294967296 ≤ q
    · obtain ⟨p1, p2⟩ := MathB.dg_step HQ.out c4 huY (Or.inl hA)
      have HQ' : Hid (MathB.Dg u v1 v0 n1 (q - 1) (r + v1)) := p2
      have hA' : (4294967296 : Int) ≤ (q : Int) := by omega
      clear p2 hA
      by_cases hB : 4294967296 ≤ r + v1
      · have hB' : (4294967296 : Int) ≤ (r : Int) + (v1 : Int) := by omega
        have E1' : q - 1 = (u * 4294967296 + n1) / Y := by rw [GY.out]; exact MathB.dg_end HQ'.out huY c3 (Or.inr hB)
        obtain ⟨k1, gk⟩ : ∃ k1, k1 = q - 1 := ⟨_, rfl⟩
        rw [← gk] at E1'
        have ek : (q : Int) - 1 = (k1 : Int) := by omega
        clear hB gk HQ HQ'
        have E1 : Hid (k1 = (u * 4294967296 + n1) / Y) := E1'
        have hq1b : k1 < 4294967296 := by
          rw [E1.out, GY.out]; exact MathB.dg_small u v1 v0 n1 c4 huY
        obtain ⟨u2, gu2⟩ : ∃ u2, u2 = (u * 4294967296 + n1) % Y := ⟨_, rfl⟩
        have HU2 : Hid (u2 = (u * 4294967296 + n1) % Y) := gu2
        have hu2Y : u2 < Y := by rw [gu2]; exact Nat.mod_lt _ (by omega)
        have hu2Y' : u2 < v1 * 4294967296 + v0 := by rw [← GY.out]; exact hu2Y
        have R1 : u * 4294967296 + n1 = k1 * Y + u2 := by
          have := Nat.div_add_mod (u * 4294967296 + n1) Y
          rw [← E1.out, Nat.mul_comm, ← gu2] at this; exact this.symm
        have eU2 := wrap_rem u n1 k1 Y u2 R1 (by omega)
        have hd2 := MathB.dg_start u2 v1 v0 n0 (by omega) c5
        have hr2 : u2 % v1 < v1 := Nat.mod_lt _ (by omega)
        have hq24 : u2 / v1 ≤ 8589934592 := by
          rw [Nat.div_le_iff_le_mul_add_pred (by omega)]
          have : 2147483648 * 8589934592 ≤ v1 * 8589934592 := Nat.mul_le_mul_right _ c1
          omega
        have eq2 : (u2 : Int) / (v1 : Int) = ((u2 / v1 : Nat) : Int) := (Int.natCast_ediv ..).symm
        obtain ⟨q2, gq2⟩ : ∃ q2, q2 = u2 / v1 := ⟨_, rfl⟩
        obtain ⟨r2, gr2⟩ : ∃ r2, r2 = u2 % v1 := ⟨_, rfl⟩
        rw [← gq2] at hd2 hq24 eq2
        rw [← gr2] at hd2 hr2
        have hlin2 : (q2 : Int) * (v1 : Int) + (r2 : Int) = (u2 : Int) := by have := hd2.lin; rw [← this]; simp
        have er2 : (u2 : Int) - (q2 : Int) * (v1 : Int) = (r2 : Int) := by omega
        have hqv2 : 0 ≤ (q2 : Int) * (v1 : Int) ∧ (q2 : Int) * (v1 : Int) ≤ 18446744073709551615 := by
          rw [← Int.natCast_mul] at hlin2 ⊢; omega
        have HQ2 : Hid (MathB.Dg u2 v1 v0 n0 q2 r2) := hd2
        clear hd2 gq2 gr2 hlin2 gu2 R1 E1'
        go_wp2
        go_loop [18, 16] (fun a b => ∃ q r : Nat, a = .int .u64 q ∧ b = .int .u64 r ∧ Hid (MathB.Dg u2 v1 v0 n0 q r ∧ r < 4294967296 ∧ q ≤ 8589934592)) (fun a _ => (intOf a).toNat)
        case atStart => exact ⟨q2, r2, rfl, rfl, ⟨HQ2.out, by omega, hq24⟩⟩
        case round =>
          clear HQ2 eU2 eq2 er2 hqv2 hr2 hq24 hA' ek
          obtain ⟨q2, r2, rfl, rfl, hd0⟩ := hrel
          obtain ⟨hd, hr2, hq24⟩ := hd0.out
          clear hd0
          have HD : Hid (MathB.Dg u2 v1 v0 n0 q2 r2) := hd
          clear hd
          by_cases hA : 4294967296 ≤ q2
          · obtain ⟨p1, p2⟩ := MathB.dg_step HD.out c5 hu2Y' (Or.inl hA)
            have HD' : Hid (MathB.Dg u2 v1 v0 n0 (q2 - 1) (r2 + v1)) := p2
            have hA' : (4294967296 : Int) ≤ (q2 : Int) := by omega
            clear p2 hA
            by_cases hB : 4294967296 ≤ r2 + v1
            · have hB' : (4294967296 : Int) ≤ (r2 : Int) + (v1 : Int) := by omega
              have E2' : q2 - 1 = (u2 * 4294967296 + n0) / Y := by rw [GY.out]; exact MathB.dg_end HD'.out hu2Y' c3 (Or.inr hB)
              obtain ⟨k2, gk⟩ : ∃ k2, k2 = q2 - 1 := ⟨_, rfl⟩
              rw [← gk] at E2'
              have ek : (q2 : Int) - 1 = (k2 : Int) := by omega
              clear hB gk HD HD'
              have E2 : Hid (k2 = (u2 * 4294967296 + n0) / Y) := E2'
              have hfin := MathB.two_digits u n1 n0 Y k1 k2 (by omega) (E1.out) (by rw [← HU2.out]; exact E2.out)
              have hq2b : k2 < 4294967296 := by
                rw [E2.out, GY.out]; exact MathB.dg_small u2 v1 v0 n0 c5 hu2Y'
              have R2 : Hid (u2 * 4294967296 + n0 = k2 * Y + (u2 * 4294967296 + n0) % Y) := by
                show _ = _
                have := Nat.div_add_mod (u2 * 4294967296 + n0) Y
                rw [← E2.out, Nat.mul_comm] at this; exact this.symm
              have hR : (u2 * 4294967296 + n0) % Y < 18446744073709551616 := Nat.lt_trans (Nat.mod_lt _ (by omega)) hY64
              have eR := wrap_rem u2 n0 k2 Y _ R2.out hR
              obtain ⟨R, gR⟩ : ∃ R, R = (u2 * 4294967296 + n0) % Y := ⟨_, rfl⟩
              rw [← HU2.out] at hfin
              rw [← gR] at eR hfin
              have hX := FX.out
              rw [GN.out] at hX
              rw [← hX, FY.out] at hfin
              have hun := MathB.unshifted _ y s _ _ hfin.1 hfin.2
              have HUN : Hid ((hi * 18446744073709551616 + lo) / y = k1 * 4294967296 + k2 ∧ (hi * 18446744073709551616 + lo) % y = R / 2 ^ s) := hun
              clear hfin hun hX gR hR E2'
              go_wp2
              go_ret2
              refine ⟨ret2 ?_ ?_, rfl⟩
              · exact cast_quo HUN.out.1
              · exact cast_rem HUN.out.2
            · have hB' : decide ((4294967296 : Int) ≤ (r2 : Int) + (v1 : Int)) = false := by simp; omega
              have HBn : Hid (¬ 4294967296 ≤ r2 + v1) := hB
              clear hB
              go_wp2
              go_round
              case rel => exact ⟨q2 - 1, r2 + v1, by go_num, by go_num, ⟨HD'.out, by have := HBn.out; omega, by omega⟩⟩
              case measure => simp [intOf]; omega
          · have hvb := prod_leI2 q2 v0 (by omega) c3
            have hA' : decide ((4294967296 : Int) ≤ (q2 : Int)) = false := by simp; omega
            clear hA
            by_cases hC : 4294967296 * r2 + n0 < q2 * v0
            · obtain ⟨p1, p2⟩ := MathB.dg_step HD.out c5 hu2Y' (Or.inr hC)
              have HD' : Hid (MathB.Dg u2 v1 v0 n0 (q2 - 1) (r2 + v1)) := p2
              have hC' : 4294967296 * (r2 : Int) + (n0 : Int) < (q2 : Int) * (v0 : Int) := by rw [← Int.natCast_mul]; omega
              clear p2 hC
              by_cases hB : 4294967296 ≤ r2 + v1
              · have hB' : (4294967296 : Int) ≤ (r2 : Int) + (v1 : Int) := by omega
                have E2' : q2 - 1 = (u2 * 4294967296 + n0) / Y := by rw [GY.out]; exact MathB.dg_end HD'.out hu2Y' c3 (Or.inr hB)
                obtain ⟨k2, gk⟩ : ∃ k2, k2 = q2 - 1 := ⟨_, rfl⟩
                rw [← gk] at E2'
                have ek : (q2 : Int) - 1 = (k2 : Int) := by omega
                clear hB gk HD HD'
                have E2 : Hid (k2 = (u2 * 4294967296 + n0) / Y) := E2'
                have hfin := MathB.two_digits u n1 n0 Y k1 k2 (by omega) (E1.out) (by rw [← HU2.out]; exact E2.out)
                have hq2b : k2 < 4294967296 := by
                  rw [E2.out, GY.out]; exact MathB.dg_small u2 v1 v0 n0 c5 hu2Y'
                have R2 : Hid (u2 * 4294967296 + n0 = k2 * Y + (u2 * 4294967296 + n0) % Y) := by
                  show _ = _
                  have := Nat.div_add_mod (u2 * 4294967296 + n0) Y
                  rw [← E2.out, Nat.mul_comm] at this; exact this.symm
                have hR : (u2 * 4294967296 + n0) % Y < 18446744073709551616 := Nat.lt_trans (Nat.mod_lt _ (by omega)) hY64
                have eR := wrap_rem u2 n0 k2 Y _ R2.out hR
                obtain ⟨R, gR⟩ : ∃ R, R = (u2 * 4294967296 + n0) % Y := ⟨_, rfl⟩
                rw [← HU2.out] at hfin
                rw [← gR] at eR hfin
                have hX := FX.out
                rw [GN.out] at hX
                rw [← hX, FY.out] at hfin
                have hun := MathB.unshifted _ y s _ _ hfin.1 hfin.2
                have HUN : Hid ((hi * 18446744073709551616 + lo) / y = k1 * 4294967296 + k2 ∧ (hi * 18446744073709551616 + lo) % y = R / 2 ^ s) := hun
                clear hfin hun hX gR hR E2'
                go_wp2
                go_ret2
                refine ⟨ret2 ?_ ?_, rfl⟩
                · exact cast_quo HUN.out.1
                · exact cast_rem HUN.out.2
              · have hB' : decide ((4294967296 : Int) ≤ (r2 : Int) + (v1 : Int)) = false := by simp; omega
                have HBn : Hid (¬ 4294967296 ≤ r2 + v1) := hB
                clear hB
                go_wp2
                go_round
                case rel => exact ⟨q2 - 1, r2 + v1, by go_num, by go_num, ⟨HD'.out, by have := HBn.out; omega, by omega⟩⟩
                case measure => simp [intOf]; omega
            · have hC' : decide (4294967296 * (r2 : Int) + (n0 : Int) < (q2 : Int) * (v0 : Int)) = false := by rw [← Int.natCast_mul]; simp only [decide_eq_false_iff_not]; omega
              have E2' : q2 = (u2 * 4294967296 + n0) / Y := by rw [GY.out]; exact MathB.dg_end HD.out hu2Y' c3 (Or.inl (by omega))
              obtain ⟨k2, rfl⟩ : ∃ k2, k2 = q2 := ⟨_, rfl⟩
              have ek : True := trivial
              clear hC HD
              have E2 : Hid (k2 = (u2 * 4294967296 + n0) / Y) := E2'
              have hfin := MathB.two_digits u n1 n0 Y k1 k2 (by omega) (E1.out) (by rw [← HU2.out]; exact E2.out)
              have hq2b : k2 < 4294967296 := by
                rw [E2.out, GY.out]; exact MathB.dg_small u2 v1 v0 n0 c5 hu2Y'
              have R2 : Hid (u2 * 4294967296 + n0 = k2 * Y + (u2 * 4294967296 + n0) % Y) := by
                show _ = _
                have := Nat.div_add_mod (u2 * 4294967296 + n0) Y
                rw [← E2.out, Nat.mul_comm] at this; exact this.symm
              have hR : (u2 * 4294967296 + n0) % Y < 18446744073709551616 := Nat.lt_trans (Nat.mod_lt _ (by omega)) hY64
              have eR := wrap_rem u2 n0 k2 Y _ R2.out hR
              obtain ⟨R, gR⟩ : ∃ R, R = (u2 * 4294967296 + n0) % Y := ⟨_, rfl⟩
              rw [← HU2.out] at hfin
              rw [← gR] at eR hfin
              have hX := FX.out
              rw [GN.out] at hX
              rw [← hX, FY.out] at hfin
              have hun := MathB.unshifted _ y s _ _ hfin.1 hfin.2
              have HUN : Hid ((hi * 18446744073709551616 + lo) / y = k1 * 4294967296 + k2 ∧ (hi * 18446744073709551616 + lo) % y = R / 2 ^ s) := hun
              clear hfin hun hX gR hR E2'
              go_wp2
              go_ret2
              refine ⟨ret2 ?_ ?_, rfl⟩
              · exact cast_quo HUN.out.1
              · exact cast_rem HUN.out.2
      · have hB' : decide ((4294967296 : Int) ≤ (r : Int) + (v1 : Int)) = false := by simp; omega
        have HBn : Hid (¬ 4294967296 ≤ r + v1) := hB
        clear hB
        go_wp2
        go_round
        case rel => exact ⟨q - 1, r + v1, by go_num, by go_num, ⟨HQ'.out, by have := HBn.out; omega, by omega⟩⟩
        case measure => simp [intOf]; omega
    · have hvb := prod_leI2 q v0 (by omega) c3
      have hA' : decide ((4294967296 : Int) ≤ (q : Int)) = false := by simp; omega
      clear hA
      by_cases hC : 4294967296 * r + n1 < q * v0
      · obtain ⟨p1, p2⟩ := MathB.dg_step HQ.out c4 huY (Or.inr hC)
        have HQ' : Hid (MathB.Dg u v1 v0 n1 (q - 1) (r + v1)) := p2
        have hC' : 4294967296 * (r : Int) + (n1 : Int) < (q : Int) * (v0 : Int) := by rw [← Int.natCast_mul]; omega
        clear p2 hC
        by_cases hB : 4294967296 ≤ r + v1
        · have hB' : (4294967296 : Int) ≤ (r : Int) + (v1 : Int) := by omega
          have E1' : q - 1 = (u * 4294967296 + n1) / Y := by rw [GY.out]; exact MathB.dg_end HQ'.out huY c3 (Or.inr hB)
          obtain ⟨k1, gk⟩ : ∃ k1, k1 = q - 1 := ⟨_, rfl⟩
          rw [← gk] at E1'
          have ek : (q : Int) - 1 = (k1 : Int) := by omega
          clear hB gk HQ HQ'
          have E1 : Hid (k1 = (u * 4294967296 + n1) / Y) := E1'
          have hq1b : k1 < 4294967296 := by
            rw [E1.out, GY.out]; exact MathB.dg_small u v1 v0 n1 c4 huY
          obtain ⟨u2, gu2⟩ : ∃ u2, u2 = (u * 4294967296 + n1) % Y := ⟨_, rfl⟩
          have HU2 : Hid (u2 = (u * 4294967296 + n1) % Y) := gu2
          have hu2Y : u2 < Y := by rw [gu2]; exact Nat.mod_lt _ (by omega)
          have hu2Y' : u2 < v1 * 4294967296 + v0 := by rw [← GY.out]; exact hu2Y
          have R1 : u * 4294967296 + n1 = k1 * Y + u2 := by
            have := Nat.div_add_mod (u * 4294967296 + n1) Y
            rw [← E1.out, Nat.mul_comm, ← gu2] at this; exact this.symm
          have eU2 := wrap_rem u n1 k1 Y u2 R1 (by omega)
          have hd2 := MathB.dg_start u2 v1 v0 n0 (by omega) c5
          have hr2 : u2 % v1 < v1 := Nat.mod_lt _ (by omega)
          have hq24 : u2 / v1 ≤ 8589934592 := by
            rw [Nat.div_le_iff_le_mul_add_pred (by omega)]
            have : 2147483648 * 8589934592 ≤ v1 * 8589934592 := Nat.mul_le_mul_right _ c1
            omega
          have eq2 : (u2 : Int) / (v1 : Int) = ((u2 / v1 : Nat) : Int) := (Int.natCast_ediv ..).symm
          obtain ⟨q2, gq2⟩ : ∃ q2, q2 = u2 / v1 := ⟨_, rfl⟩
          obtain ⟨r2, gr2⟩ : ∃ r2, r2 = u2 % v1 := ⟨_, rfl⟩
          rw [← gq2] at hd2 hq24 eq2
          rw [← gr2] at hd2 hr2
          have hlin2 : (q2 : Int) * (v1 : Int) + (r2 : Int) = (u2 : Int) := by have := hd2.lin; rw [← this]; simp
          have er2 : (u2 : Int) - (q2 : Int) * (v1 : Int) = (r2 : Int) := by omega
          have hqv2 : 0 ≤ (q2 : Int) * (v1 : Int) ∧ (q2 : Int) * (v1 : Int) ≤ 18446744073709551615 := by
            rw [← Int.natCast_mul] at hlin2 ⊢; omega
          have HQ2 : Hid (MathB.Dg u2 v1 v0 n0 q2 r2) := hd2
          clear hd2 gq2 gr2 hlin2 gu2 R1 E1'
          go_wp2
          go_loop [18, 16] (fun a b => ∃ q r : Nat, a = .int .u64 q ∧ b = .int .u64 r ∧ Hid (MathB.Dg u2 v1 v0 n0 q r ∧ r < 4294967296 ∧ q ≤ 8589934592)) (fun a _ => (intOf a).toNat)
          case atStart => exact ⟨q2, r2, rfl, rfl, ⟨HQ2.out, by omega, hq24⟩⟩
          case round =>
            clear HQ2 eU2 eq2 er2 hqv2 hr2 hq24 hA' ek
            obtain ⟨q2, r2, rfl, rfl, hd0⟩ := hrel
            obtain ⟨hd, hr2, hq24⟩ := hd0.out
            clear hd0
            have HD : Hid (MathB.Dg u2 v1 v0 n0 q2 r2) := hd
            clear hd
            by_cases hA : 4294967296 ≤ q2
            · obtain ⟨p1, p2⟩ := MathB.dg_step HD.out c5 hu2Y' (Or.inl hA)
              have HD' : Hid (MathB.Dg u2 v1 v0 n0 (q2 - 1) (r2 + v1)) := p2
              have hA' : (4294967296 : Int) ≤ (q2 : Int) := by omega
              clear p2 hA
              by_cases hB : 4294967296 ≤ r2 + v1
              · have hB' : (4294967296 : Int) ≤ (r2 : Int) + (v1 : Int) := by omega
                have E2' : q2 - 1 = (u2 * 4294967296 + n0) / Y := by rw [GY.out]; exact MathB.dg_end HD'.out hu2Y' c3 (Or.inr hB)
                obtain ⟨k2, gk⟩ : ∃ k2, k2 = q2 - 1 := ⟨_, rfl⟩
                rw [← gk] at E2'
                have ek : (q2 : Int) - 1 = (k2 : Int) := by omega
                clear hB gk HD HD'
                have E2 : Hid (k2 = (u2 * 4294967296 + n0) / Y) := E2'
                have hfin := MathB.two_digits u n1 n0 Y k1 k2 (by omega) (E1.out) (by rw [← HU2.out]; exact E2.out)
                have hq2b : k2 < 4294967296 := by
                  rw [E2.out, GY.out]; exact MathB.dg_small u2 v1 v0 n0 c5 hu2Y'
                have R2 : Hid (u2 * 4294967296 + n0 = k2 * Y + (u2 * 4294967296 + n0) % Y) := by
                  show _ = _
                  have := Nat.div_add_mod (u2 * 4294967296 + n0) Y
                  rw [← E2.out, Nat.mul_comm] at this; exact this.symm
                have hR : (u2 * 4294967296 + n0) % Y < 18446744073709551616 := Nat.lt_trans (Nat.mod_lt _ (by omega)) hY64
                have eR := wrap_rem u2 n0 k2 Y _ R2.out hR
                obtain ⟨R, gR⟩ : ∃ R, R = (u2 * 4294967296 + n0) % Y := ⟨_, rfl⟩
                rw [← HU2.out] at hfin
                rw [← gR] at eR hfin
                have hX := FX.out
                rw [GN.out] at hX
                rw [← hX, FY.out] at hfin
                have hun := MathB.unshifted _ y s _ _ hfin.1 hfin.2
                have HUN : Hid ((hi * 18446744073709551616 + lo) / y = k1 * 4294967296 + k2 ∧ (hi * 18446744073709551616 + lo) % y = R / 2 ^ s) := hun
                clear hfin hun hX gR hR E2'
                go_wp2
                go_ret2
                refine ⟨ret2 ?_ ?_, rfl⟩
                · exact cast_quo HUN.out.1
                · exact cast_rem HUN.out.2
              · have hB' : decide ((4294967296 : Int) ≤ (r2 : Int) + (v1 : Int)) = false := by simp; omega
                have HBn : Hid (¬ 4294967296 ≤ r2 + v1) := hB
                clear hB
                go_wp2
                go_round
                case rel => exact ⟨q2 - 1, r2 + v1, by go_num, by go_num, ⟨HD'.out, by have := HBn.out; omega, by omega⟩⟩
                case measure => simp [intOf]; omega
            · have hvb := prod_leI2 q2 v0 (by omega) c3
              have hA' : decide ((4294967296 : Int) ≤ (q2 : Int)) = false := by simp; omega
              clear hA
              by_cases hC : 4294967296 * r2 + n0 < q2 * v0
              · obtain ⟨p1, p2⟩ := MathB.dg_step HD.out c5 hu2Y' (Or.inr hC)
                have HD' : Hid (MathB.Dg u2 v1 v0 n0 (q2 - 1) (r2 + v1)) := p2
                have hC' : 4294967296 * (r2 : Int) + (n0 : Int) < (q2 : Int) * (v0 : Int) := by rw [← Int.natCast_mul]; omega
                clear p2 hC
                by_cases hB : 4294967296 ≤ r2 + v1
                · have hB' : (4294967296 : Int) ≤ (r2 : Int) + (v1 : Int) := by omega
                  have E2' : q2 - 1 = (u2 * 4294967296 + n0) / Y := by rw [GY.out]; exact MathB.dg_end HD'.out hu2Y' c3 (Or.inr hB)
                  obtain ⟨k2, gk⟩ : ∃ k2, k2 = q2 - 1 := ⟨_, rfl⟩
                  rw [← gk] at E2'
                  have ek : (q2 : Int) - 1 = (k2 : Int) := by omega
                  clear hB gk HD HD'
                  have E2 : Hid (k2 = (u2 * 4294967296 + n0) / Y) := E2'
                  have hfin := MathB.two_digits u n1 n0 Y k1 k2 (by omega) (E1.out) (by rw [← HU2.out]; exact E2.out)
                  have hq2b : k2 < 4294967296 := by
                    rw [E2.out, GY.out]; exact MathB.dg_small u2 v1 v0 n0 c5 hu2Y'
                  have R2 : Hid (u2 * 4294967296 + n0 = k2 * Y + (u2 * 4294967296 + n0) % Y) := by
                    show _ = _
                    have := Nat.div_add_mod (u2 * 4294967296 + n0) Y
                    rw [← E2.out, Nat.mul_comm] at this; exact this.symm
                  have hR : (u2 * 4294967296 + n0) % Y < 18446744073709551616 := Nat.lt_trans (Nat.mod_lt _ (by omega)) hY64
                  have eR := wrap_rem u2 n0 k2 Y _ R2.out hR
                  obtain ⟨R, gR⟩ : ∃ R, R = (u2 * 4294967296 + n0) % Y := ⟨_, rfl⟩
                  rw [← HU2.out] at hfin
                  rw [← gR] at eR hfin
                  have hX := FX.out
                  rw [GN.out] at hX
                  rw [← hX, FY.out] at hfin
                  have hun := MathB.unshifted _ y s _ _ hfin.1 hfin.2
                  have HUN : Hid ((hi * 18446744073709551616 + lo) / y = k1 * 4294967296 + k2 ∧ (hi * 18446744073709551616 + lo) % y = R / 2 ^ s) := hun
                  clear hfin hun hX gR hR E2'
                  go_wp2
                  go_ret2
                  refine ⟨ret2 ?_ ?_, rfl⟩
                  · exact cast_quo HUN.out.1
                  · exact cast_rem HUN.out.2
                · have hB' : decide ((4294967296 : Int) ≤ (r2 : Int) + (v1 : Int)) = false := by simp; omega
                  have HBn : Hid (¬ 4294967296 ≤ r2 + v1) := hB
                  clear hB
                  go_wp2
                  go_round
                  case rel => exact ⟨q2 - 1, r2 + v1, by go_num, by go_num, ⟨HD'.out, by have := HBn.out; omega, by omega⟩⟩
                  case measure => simp [intOf]; omega
              · have hC' : decide (4294967296 * (r2 : Int) + (n0 : Int) < (q2 : Int) * (v0 : Int)) = false := by rw [← Int.natCast_mul]; simp only [decide_eq_false_iff_not]; omega
                have E2' : q2 = (u2 * 4294967296 + n0) / Y := by rw [GY.out]; exact MathB.dg_end HD.out hu2Y' c3 (Or.inl (by omega))
                obtain ⟨k2, rfl⟩ : ∃ k2, k2 = q2 := ⟨_, rfl⟩
                have ek : True := trivial
                clear hC HD
                have E2 : Hid (k2 = (u2 * 4294967296 + n0) / Y) := E2'
                have hfin := MathB.two_digits u n1 n0 Y k1 k2 (by omega) (E1.out) (by rw [← HU2.out]; exact E2.out)
                have hq2b : k2 < 4294967296 := by
                  rw [E2.out, GY.out]; exact MathB.dg_small u2 v1 v0 n0 c5 hu2Y'
                have R2 : Hid (u2 * 4294967296 + n0 = k2 * Y + (u2 * 4294967296 + n0) % Y) := by
                  show _ = _
                  have := Nat.div_add_mod (u2 * 4294967296 + n0) Y
                  rw [← E2.out, Nat.mul_comm] at this; exact this.symm
                have hR : (u2 * 4294967296 + n0) % Y < 18446744073709551616 := Nat.lt_trans (Nat.mod_lt _ (by omega)) hY64
                have eR := wrap_rem u2 n0 k2 Y _ R2.out hR
                obtain ⟨R, gR⟩ : ∃ R, R = (u2 * 4294967296 + n0) % Y := ⟨_, rfl⟩
                rw [← HU2.out] at hfin
                rw [← gR] at eR hfin
                have hX := FX.out
                rw [GN.out] at hX
                rw [← hX, FY.out] at hfin
                have hun := MathB.unshifted _ y s _ _ hfin.1 hfin.2
                have HUN : Hid ((hi * 18446744073709551616 + lo) / y = k1 * 4294967296 + k2 ∧ (hi * 18446744073709551616 + lo) % y = R / 2 ^ s) := hun
                clear hfin hun hX gR hR E2'
                go_wp2
                go_ret2
                refine ⟨ret2 ?_ ?_, rfl⟩
                · exact cast_quo HUN.out.1
                · exact cast_rem HUN.out.2
        · have hB' : decide ((4294967296 : Int) ≤ (r : Int) + (v1 : Int)) = false := by simp; omega
          have HBn : Hid (¬ 4294967296 ≤ r + v1) := hB
          clear hB
          go_wp2
          go_round
          case rel => exact ⟨q - 1, r + v1, by go_num, by go_num, ⟨HQ'.out, by have := HBn.out; omega, by omega⟩⟩
          case measure => simp [intOf]; omega
      · have hC' : decide (4294967296 * (r : Int) + (n1 : Int) < (q : Int) * (v0 : Int)) = false := by rw [← Int.natCast_mul]; simp only [decide_eq_false_iff_not]; omega
        have E1' : q = (u * 4294967296 + n1) / Y := by rw [GY.out]; exact MathB.dg_end HQ.out huY c3 (Or.inl (by omega))
        obtain ⟨k1, rfl⟩ : ∃ k1, k1 = q := ⟨_, rfl⟩
        have ek : True := trivial
        clear hC HQ
        have E1 : Hid (k1 = (u * 4294967296 + n1) / Y) := E1'
        have hq1b : k1 < 4294967296 := by
          rw [E1.out, GY.out]; exact MathB.dg_small u v1 v0 n1 c4 huY
        obtain ⟨u2, gu2⟩ : ∃ u2, u2 = (u * 4294967296 + n1) % Y := ⟨_, rfl⟩
        have HU2 : Hid (u2 = (u * 4294967296 + n1) % Y) := gu2
        have hu2Y : u2 < Y := by rw [gu2]; exact Nat.mod_lt _ (by omega)
        have hu2Y' : u2 < v1 * 4294967296 + v0 := by rw [← GY.out]; exact hu2Y
        have R1 : u * 4294967296 + n1 = k1 * Y + u2 := by
          have := Nat.div_add_mod (u * 4294967296 + n1) Y
          rw [← E1.out, Nat.mul_comm, ← gu2] at this; exact this.symm
        have eU2 := wrap_rem u n1 k1 Y u2 R1 (by omega)
        have hd2 := MathB.dg_start u2 v1 v0 n0 (by omega) c5
        have hr2 : u2 % v1 < v1 := Nat.mod_lt _ (by omega)
        have hq24 : u2 / v1 ≤ 8589934592 := by
          rw [Nat.div_le_iff_le_mul_add_pred (by omega)]
          have : 2147483648 * 8589934592 ≤ v1 * 8589934592 := Nat.mul_le_mul_right _ c1
          omega
        have eq2 : (u2 : Int) / (v1 : Int) = ((u2 / v1 : Nat) : Int) := (Int.natCast_ediv ..).symm
        obtain ⟨q2, gq2⟩ : ∃ q2, q2 = u2 / v1 := ⟨_, rfl⟩
        obtain ⟨r2, gr2⟩ : ∃ r2, r2 = u2 % v1 := ⟨_, rfl⟩
        rw [← gq2] at hd2 hq24 eq2
        rw [← gr2] at hd2 hr2
        have hlin2 : (q2 : Int) * (v1 : Int) + (r2 : Int) = (u2 : Int) := by have := hd2.lin; rw [← this]; simp
        have er2 : (u2 : Int) - (q2 : Int) * (v1 : Int) = (r2 : Int) := by omega
        have hqv2 : 0 ≤ (q2 : Int) * (v1 : Int) ∧ (q2 : Int) * (v1 : Int) ≤ 18446744073709551615 := by
          rw [← Int.natCast_mul] at hlin2 ⊢; omega
        have HQ2 : Hid (MathB.Dg u2 v1 v0 n0 q2 r2) := hd2
        clear hd2 gq2 gr2 hlin2 gu2 R1 E1'
        go_wp2
        go_loop [18, 16] (fun a b => ∃ q r : Nat, a = .int .u64 q ∧ b = .int .u64 r ∧ Hid (MathB.Dg u2 v1 v0 n0 q r ∧ r < 4294967296 ∧ q ≤ 8589934592)) (fun a _ => (intOf a).toNat)
        case atStart => exact ⟨q2, r2, rfl, rfl, ⟨HQ2.out, by omega, hq24⟩⟩
        case round =>
          clear HQ2 eU2 eq2 er2 hqv2 hr2 hq24 hA' ek
          obtain ⟨q2, r2, rfl, rfl, hd0⟩ := hrel
          obtain ⟨hd, hr2, hq24⟩ := hd0.out
          clear hd0
          have HD : Hid (MathB.Dg u2 v1 v0 n0 q2 r2) := hd
          clear hd
          by_cases hA : 4294967296 ≤ q2
          · obtain ⟨p1, p2⟩ := MathB.dg_step HD.out c5 hu2Y' (Or.inl hA)
            have HD' : Hid (MathB.Dg u2 v1 v0 n0 (q2 - 1) (r2 + v1)) := p2
            have hA' : (4294967296 : Int) ≤ (q2 : Int) := by omega
            clear p2 hA
            by_cases hB : 4294967296 ≤ r2 + v1
            · have hB' : (4294967296 : Int) ≤ (r2 : Int) + (v1 : Int) := by omega
              have E2' : q2 - 1 = (u2 * 4294967296 + n0) / Y := by rw [GY.out]; exact MathB.dg_end HD'.out hu2Y' c3 (Or.inr hB)
              obtain ⟨k2, gk⟩ : ∃ k2, k2 = q2 - 1 := ⟨_, rfl⟩
              rw [← gk] at E2'
              have ek : (q2 : Int) - 1 = (k2 : Int) := by omega
              clear hB gk HD HD'
              have E2 : Hid (k2 = (u2 * 4294967296 + n0) / Y) := E2'
              have hfin := MathB.two_digits u n1 n0 Y k1 k2 (by omega) (E1.out) (by rw [← HU2.out]; exact E2.out)
              have hq2b : k2 < 4294967296 := by
                rw [E2.out, GY.out]; exact MathB.dg_small u2 v1 v0 n0 c5 hu2Y'
              have R2 : Hid (u2 * 4294967296 + n0 = k2 * Y + (u2 * 4294967296 + n0) % Y) := by
                show _ = _
                have := Nat.div_add_mod (u2 * 4294967296 + n0) Y
                rw [← E2.out, Nat.mul_comm] at this; exact this.symm
              have hR : (u2 * 4294967296 + n0) % Y < 18446744073709551616 := Nat.lt_trans (Nat.mod_lt _ (by omega)) hY64
              have eR := wrap_rem u2 n0 k2 Y _ R2.out hR
              obtain ⟨R, gR⟩ : ∃ R, R = (u2 * 4294967296 + n0) % Y := ⟨_, rfl⟩
              rw [← HU2.out] at hfin
              rw [← gR] at eR hfin
              have hX := FX.out
              rw [GN.out] at hX
              rw [← hX, FY.out] at hfin
              have hun := MathB.unshifted _ y s _ _ hfin.1 hfin.2
              have HUN : Hid ((hi * 18446744073709551616 + lo) / y = k1 * 4294967296 + k2 ∧ (hi * 18446744073709551616 + lo) % y = R / 2 ^ s) := hun
              clear hfin hun hX gR hR E2'
              go_wp2
              go_ret2
              refine ⟨ret2 ?_ ?_, rfl⟩
              · exact cast_quo HUN.out.1
              · exact cast_rem HUN.out.2
            · have hB' : decide ((4294967296 : Int) ≤ (r2 : Int) + (v1 : Int)) = false := by simp; omega
              have HBn : Hid (¬ 4294967296 ≤ r2 + v1) := hB
              clear hB
              go_wp2
              go_round
              case rel => exact ⟨q2 - 1, r2 + v1, by go_num, by go_num, ⟨HD'.out, by have := HBn.out; omega, by omega⟩⟩
              case measure => simp [intOf]; omega
          · have hvb := prod_leI2 q2 v0 (by omega) c3
            have hA' : decide ((4294967296 : Int) ≤ (q2 : Int)) = false := by simp; omega
            clear hA
            by_cases hC : 4294967296 * r2 + n0 < q2 * v0
            · obtain ⟨p1, p2⟩ := MathB.dg_step HD.out c5 hu2Y' (Or.inr hC)
              have HD' : Hid (MathB.Dg u2 v1 v0 n0 (q2 - 1) (r2 + v1)) := p2
              have hC' : 4294967296 * (r2 : Int) + (n0 : Int) < (q2 : Int) * (v0 : Int) := by rw [← Int.natCast_mul]; omega
              clear p2 hC
              by_cases hB : 4294967296 ≤ r2 + v1
              · have hB' : (4294967296 : Int) ≤ (r2 : Int) + (v1 : Int) := by omega
                have E2' : q2 - 1 = (u2 * 4294967296 + n0) / Y := by rw [GY.out]; exact MathB.dg_end HD'.out hu2Y' c3 (Or.inr hB)
                obtain ⟨k2, gk⟩ : ∃ k2, k2 = q2 - 1 := ⟨_, rfl⟩
                rw [← gk] at E2'
                have ek : (q2 : Int) - 1 = (k2 : Int) := by omega
                clear hB gk HD HD'
                have E2 : Hid (k2 = (u2 * 4294967296 + n0) / Y) := E2'
                have hfin := MathB.two_digits u n1 n0 Y k1 k2 (by omega) (E1.out) (by rw [← HU2.out]; exact E2.out)
                have hq2b : k2 < 4294967296 := by
                  rw [E2.out, GY.out]; exact MathB.dg_small u2 v1 v0 n0 c5 hu2Y'
                have R2 : Hid (u2 * 4294967296 + n0 = k2 * Y + (u2 * 4294967296 + n0) % Y) := by
                  show _ = _
                  have := Nat.div_add_mod (u2 * 4294967296 + n0) Y
                  rw [← E2.out, Nat.mul_comm] at this; exact this.symm
                have hR : (u2 * 4294967296 + n0) % Y < 18446744073709551616 := Nat.lt_trans (Nat.mod_lt _ (by omega)) hY64
                have eR := wrap_rem u2 n0 k2 Y _ R2.out hR
                obtain ⟨R, gR⟩ : ∃ R, R = (u2 * 4294967296 + n0) % Y := ⟨_, rfl⟩
                rw [← HU2.out] at hfin
                rw [← gR] at eR hfin
                have hX := FX.out
                rw [GN.out] at hX
                rw [← hX, FY.out] at hfin
                have hun := MathB.unshifted _ y s _ _ hfin.1 hfin.2
                have HUN : Hid ((hi * 18446744073709551616 + lo) / y = k1 * 4294967296 + k2 ∧ (hi * 18446744073709551616 + lo) % y = R / 2 ^ s) := hun
                clear hfin hun hX gR hR E2'
                go_wp2
                go_ret2
                refine ⟨ret2 ?_ ?_, rfl⟩
                · exact cast_quo HUN.out.1
                · exact cast_rem HUN.out.2
              · have hB' : decide ((4294967296 : Int) ≤ (r2 : Int) + (v1 : Int)) = false := by simp; omega
                have HBn : Hid (¬ 4294967296 ≤ r2 + v1) := hB
                clear hB
                go_wp2
                go_round
                case rel => exact ⟨q2 - 1, r2 + v1, by go_num, by go_num, ⟨HD'.out, by have := HBn.out; omega, by omega⟩⟩
                case measure => simp [intOf]; omega
            · have hC' : decide (4294967296 * (r2 : Int) + (n0 : Int) < (q2 : Int) * (v0 : Int)) = false := by rw [← Int.natCast_mul]; simp only [decide_eq_false_iff_not]; omega
              have E2' : q2 = (u2 * 4294967296 + n0) / Y := by rw [GY.out]; exact MathB.dg_end HD.out hu2Y' c3 (Or.inl (by omega))
              obtain ⟨k2, rfl⟩ : ∃ k2, k2 = q2 := ⟨_, rfl⟩
              have ek : True := trivial
              clear hC HD
              have E2 : Hid (k2 = (u2 * 4294967296 + n0) / Y) := E2'
              have hfin := MathB.two_digits u n1 n0 Y k1 k2 (by omega) (E1.out) (by rw [← HU2.out]; exact E2.out)
              have hq2b : k2 < 4294967296 := by
                rw [E2.out, GY.out]; exact MathB.dg_small u2 v1 v0 n0 c5 hu2Y'
              have R2 : Hid (u2 * 4294967296 + n0 = k2 * Y + (u2 * 4294967296 + n0) % Y) := by
                show _ = _
                have := Nat.div_add_mod (u2 * 4294967296 + n0) Y
                rw [← E2.out, Nat.mul_comm] at this; exact this.symm
              have hR : (u2 * 4294967296 + n0) % Y < 18446744073709551616 := Nat.lt_trans (Nat.mod_lt _ (by omega)) hY64
              have eR := wrap_rem u2 n0 k2 Y _ R2.out hR
              obtain ⟨R, gR⟩ : ∃ R, R = (u2 * 4294967296 + n0) % Y := ⟨_, rfl⟩
              rw [← HU2.out] at hfin
              rw [← gR] at eR hfin
              have hX := FX.out
              rw [GN.out] at hX
              rw [← hX, FY.out] at hfin
              have hun := MathB.unshifted _ y s _ _ hfin.1 hfin.2
              have HUN : Hid ((hi * 18446744073709551616 + lo) / y = k1 * 4294967296 + k2 ∧ (hi * 18446744073709551616 + lo) % y = R / 2 ^ s) := hun
              clear hfin hun hX gR hR E2'
              go_wp2
              go_ret2
              refine ⟨ret2 ?_ ?_, rfl⟩
              · exact cast_quo HUN.out.1
              · exact cast_rem HUN.out.2

/-- Rem64: what the 128-bit number leaves. -/
theorem Rem64_any (hi lo y : Nat) (w : World) (hh : hi < 18446744073709551616) (hl : lo < 18446744073709551616) (hy : y < 18446744073709551616) (h : 0 < y) :
    Calls Tryz.prog 296 #[.int .u64 hi, .int .u64 lo, .int .u64 y] w fun e w' => e = .returned (.int .u64 (((hi * 18446744073709551616 + lo) % y : Nat) : Int)) ∧ ∃ n, w' = w.drewN n := by
  have hm : hi % y < y := Nat.mod_lt _ h
  have em : (hi : Int) % (y : Int) = ((hi % y : Nat) : Int) := (Int.natCast_emod ..).symm
  have HE : Hid ((hi % y * 18446744073709551616 + lo) % y = (hi * 18446744073709551616 + lo) % y) := by
    show _ = _
    rw [Nat.add_mod, Nat.mod_mul_mod, ← Nat.add_mod]
  obtain ⟨g, gg⟩ : ∃ g, g = hi % y := ⟨_, rfl⟩
  rw [← gg] at hm em
  have HG : Hid (g = hi % y) := gg
  clear gg
  obtain ⟨R, gR⟩ : ∃ R, R = (hi * 18446744073709551616 + lo) % y := ⟨_, rfl⟩
  rw [← gR]
  have HR : Hid ((g * 18446744073709551616 + lo) % y = R) := by show _ = _; rw [HG.out, HE.out, gR]
  clear gR HE
  have t1 : ((y : Int) == 0) = false := beq_eq_false_iff_ne.2 (by omega)
  have b1 : (hi : Int) ≤ 18446744073709551615 := by omega
  have b2 : (y : Int) ≤ 18446744073709551615 := by omega
  by_cases h0 : g = 0
  · subst h0
    go_enter Tryz.func296, Tryz.ntmps296
    go_wp2_with fail
    refine (Div64_low lo y _ hl hy h).mono ?_
    have e0 : lo % y = R := by have := HR.out; simpa using this
    rw [e0]
    rintro e w1 ⟨rfl, n, rfl⟩
    go_wp2
    go_ret
    exact ⟨rfl, n, rfl⟩
  · go_enter Tryz.func296, Tryz.ntmps296
    go_wp2_with fail
    refine (Div64_high g lo y _ hl hy (by omega) hm).mono ?_
    rw [HR.out]
    rintro e w1 ⟨rfl, rfl⟩
    go_wp2
    go_ret
    exact ⟨rfl, 0, rfl⟩

/-- productLeft: what a b leaves by m. -/
theorem productLeft_any (a b m : Nat) (w : World) (ha : a < m) (hb : b < m) (hm : m ≤ 1000000000000000000) :
    Calls Tryz.prog 285 #[.int .i64 a, .int .i64 b, .int .i64 m] w fun e w' => e = .returned (.int .i64 ((a * b % m : Nat) : Int)) ∧ ∃ n, w' = w.drewN n := by
  have HE : Hid ((a * b / 18446744073709551616 * 18446744073709551616 + a * b % 18446744073709551616) % m = a * b % m) := by
    show _ = _
    rw [Nat.mul_comm, Nat.div_add_mod]
  have hq : a * b / 18446744073709551616 < 18446744073709551616 := by
    rw [Nat.div_lt_iff_lt_mul (by omega)]
    have := Nat.mul_lt_mul'' (show a < 1000000000000000000 by omega) (show b < 1000000000000000000 by omega)
    omega
  have hr : a * b % 18446744073709551616 < 18446744073709551616 := Nat.mod_lt _ (by omega)
  have hR : a * b % m < m := Nat.mod_lt _ (by omega)
  obtain ⟨R, gR⟩ : ∃ R, R = a * b % m := ⟨_, rfl⟩
  rw [← gR] at hR ⊢
  have HR : Hid ((a * b / 18446744073709551616 * 18446744073709551616 + a * b % 18446744073709551616) % m = R) := by show _ = _; rw [HE.out, gR]
  clear HE gR
  go_enter Tryz.func285, Tryz.ntmps285
  go_wp2_with fail
  refine (Mul64_any a b (by omega) (by omega) _).mono ?_
  obtain ⟨H, gH⟩ : ∃ H, H = a * b / 18446744073709551616 := ⟨_, rfl⟩
  obtain ⟨L, gL⟩ : ∃ L, L = a * b % 18446744073709551616 := ⟨_, rfl⟩
  rw [← gH] at hq HR ⊢
  rw [← gL] at hr HR ⊢
  clear gH gL
  rintro e w1 ⟨rfl, rfl⟩
  go_wp2_with fail
  refine (Rem64_any H L m _ hq hr (by omega) (by omega)).mono ?_
  rw [HR.out]
  rintro e w1 ⟨rfl, n, rfl⟩
  go_wp2
  go_ret
  exact ⟨rfl, n, rfl⟩

end Go.Proofs.YtfbgblidlabipaaGreatDoor
end

section
/- Plain facts: joining two remainders, and a list of them. Nothing of the program. -/
set_option linter.unusedSimpArgs false
set_option linter.unusedVariables false
set_option maxRecDepth 100000
namespace Go.Proofs.YtfbgblidlabipaaGreatDoor.MathC

/-- One joining: steps of m that fill the gap. -/
theorem join_step (r m mk u v g gap q : Int) (st : Int) (more : Int) (hg : g ≠ 0) (hmk : mk = g * more) (hm : ∃ x, m = g * x) (hl : u * m + v * mk = g) (hgap : gap = g * q) (hst : ∃ k, st = q * u + k * more) :
    ∃ z, st * m - gap = mk * z := by
  obtain ⟨x, rfl⟩ := hm
  obtain ⟨k, rfl⟩ := hst
  subst hmk hgap
  refine ⟨k * x - q * v, ?_⟩
  have e1 : (q * u + k * more) * (g * x) = q * (u * (g * x)) + (g * more) * (k * x) := by
    rw [Int.add_mul]; congr 1 <;> simp only [Int.mul_assoc, Int.mul_comm, Int.mul_left_comm]
  have e2 : u * (g * x) = g - v * (g * more) := by omega
  rw [e1, e2, Int.mul_sub, Int.mul_sub]
  have e3 : q * (v * (g * more)) = g * more * (q * v) := by simp only [Int.mul_assoc, Int.mul_comm, Int.mul_left_comm]
  have e4 : q * g = g * q := Int.mul_comm ..
  omega

/-- The least number that the first k of ms divide. -/
def jl (ms : List Int) : Nat → Nat
  | 0 => 1
  | k + 1 => Nat.lcm (jl ms k) (ms.getD k 0).toNat

def K : Int := 1000000000000000000

/-- The state behind k places. -/
structure JSt (rs ms : List Int) (k : Nat) (r m : Nat) : Prop where
  hi : r < m
  cap : (m : Int) ≤ 1000000000000000000
  ok : ∀ j, j < k → -1000000000000000000 ≤ rs.getD j 0 ∧ rs.getD j 0 ≤ 1000000000000000000 ∧ 1 ≤ ms.getD j 0 ∧ ms.getD j 0 ≤ 1000000000000000000
  lcm : m = jl ms k
  cong : ∀ j, j < k → ms.getD j 0 ∣ (r : Int) - rs.getD j 0

theorem jst_start (rs ms : List Int) : JSt rs ms 0 0 1 := ⟨by omega, by omega, fun j hj => absurd hj (Nat.not_lt_zero _), rfl, fun j hj => absurd hj (Nat.not_lt_zero _)⟩

theorem jl_dvd (ms : List Int) (d : Int) : ∀ k, (∀ j, j < k → 1 ≤ ms.getD j 0 ∧ ms.getD j 0 ∣ d) → (jl ms k : Int) ∣ d := by
  intro k
  induction k with
  | zero => intro _; exact ⟨d, by simp [jl]⟩
  | succ n ih =>
    intro h
    have h1 := ih (fun j hj => h j (by omega))
    obtain ⟨h2, h3⟩ := h n (by omega)
    have e : ((ms.getD n 0).toNat : Int) = ms.getD n 0 := by omega
    have h4 : ((ms.getD n 0).toNat : Int) ∣ d := by rw [e]; exact h3
    rw [Int.ofNat_dvd_left] at h1 h4 ⊢
    exact Nat.lcm_dvd h1 h4

theorem jl_mem (ms : List Int) (j : Nat) : ∀ k, j < k → 1 ≤ ms.getD j 0 → ms.getD j 0 ∣ (jl ms k : Int) := by
  intro k
  induction k with
  | zero => intro h; exact absurd h (Nat.not_lt_zero _)
  | succ q ih =>
    intro h h1
    by_cases e : j = q
    · subst e
      have e2 : ((ms.getD j 0).toNat : Int) = ms.getD j 0 := by omega
      have : ((ms.getD j 0).toNat : Int) ∣ ((Nat.lcm (jl ms j) (ms.getD j 0).toNat : Nat) : Int) := by
        rw [Int.ofNat_dvd_left]; exact Nat.dvd_lcm_right _ _
      rw [e2] at this; exact this
    · refine Int.dvd_trans (ih (by omega) h1) ?_
      rw [Int.ofNat_dvd_left]; exact Nat.dvd_lcm_left _ _

theorem jst_unique {rs ms : List Int} {k r m r' m' : Nat} (h : JSt rs ms k r m) (h' : JSt rs ms k r' m') : r = r' ∧ m = m' := by
  have hm : m = m' := h.lcm.trans h'.lcm.symm
  subst hm
  refine ⟨?_, rfl⟩
  have hd : (m : Int) ∣ (r : Int) - (r' : Int) := by
    rw [h.lcm]
    refine jl_dvd ms _ k fun j hj => ⟨(h.ok j hj).2.2.1, ?_⟩
    have h1 := h.cong j hj
    have h2 := h'.cong j hj
    have : (r : Int) - (r' : Int) = ((r : Int) - rs.getD j 0) - ((r' : Int) - rs.getD j 0) := by omega
    rw [this]; exact Int.dvd_sub h1 h2
  obtain ⟨z, hz⟩ := hd
  have h1 := h.hi
  have h2 := h'.hi
  have hz0 : z = 0 := by
    rcases Int.lt_trichotomy z 0 with c | c | c
    · have : (m : Int) * z ≤ (m : Int) * (-1) := Int.mul_le_mul_of_nonneg_left (by omega) (by omega)
      omega
    · exact c
    · have : (m : Int) * 1 ≤ (m : Int) * z := Int.mul_le_mul_of_nonneg_left (by omega) (by omega)
      omega
  subst hz0
  omega

theorem lcm_mul (a b : Nat) : Nat.lcm a b = a * (b / Nat.gcd a b) := by
  unfold Nat.lcm
  exact Nat.mul_div_assoc a (Nat.gcd_dvd_right a b)

theorem jst_next {rs ms : List Int} {k r m R : Nat} (h : JSt rs ms k r m) (n : Nat) (hn : ms.getD k 0 = (n : Int)) (h1 : 1 ≤ n) (h2 : (n : Int) ≤ 1000000000000000000) (h3 : -1000000000000000000 ≤ rs.getD k 0) (h4 : rs.getD k 0 ≤ 1000000000000000000)
    (hcap : ((m * (n / Nat.gcd m n) : Nat) : Int) ≤ 1000000000000000000) (hR : R < m * (n / Nat.gcd m n)) (d1 : (m : Int) ∣ (R : Int) - (r : Int)) (d2 : (n : Int) ∣ (R : Int) - rs.getD k 0) :
    JSt rs ms (k + 1) R (m * (n / Nat.gcd m n)) := by
  refine ⟨hR, hcap, fun j hj => ?_, ?_, fun j hj => ?_⟩
  · by_cases e : j = k
    · subst e; rw [hn]; omega
    · exact h.ok j (by omega)
  · show _ = Nat.lcm (jl ms k) (ms.getD k 0).toNat
    rw [hn, Int.toNat_natCast, ← h.lcm, lcm_mul]
  · by_cases e : j = k
    · subst e; rw [hn]; exact d2
    · have h5 := h.cong j (by omega)
      have h6 : ms.getD j 0 ∣ (m : Int) := by
        rw [h.lcm]
        exact jl_mem ms j k (by omega) (h.ok j (by omega)).2.2.1
      have : (R : Int) - rs.getD j 0 = ((R : Int) - (r : Int)) + ((r : Int) - rs.getD j 0) := by omega
      rw [this]
      exact Int.dvd_add (Int.dvd_trans h6 d1) h5

theorem bezout_nat : ∀ (n m : Nat), ∃ u v : Int, u * (m : Int) + v * (n : Int) = (Nat.gcd m n : Int) := by
  intro n
  induction n using Nat.strongRecOn with
  | ind n ih =>
    intro m
    by_cases h0 : n = 0
    · subst h0; exact ⟨1, 0, by simp⟩
    · obtain ⟨u, v, h⟩ := ih (m % n) (Nat.mod_lt _ (by omega)) n
      refine ⟨v, u - v * ((m / n : Nat) : Int), ?_⟩
      have e : Nat.gcd n (m % n) = Nat.gcd m n := by rw [Nat.gcd_comm n, ← Nat.gcd_rec, Nat.gcd_comm]
      rw [e] at h
      have e2 : (m : Int) = (n : Int) * ((m / n : Nat) : Int) + ((m % n : Nat) : Int) := by rw [← Int.natCast_mul, ← Int.natCast_add, Nat.div_add_mod]
      rw [← h, Int.sub_mul]
      have e3 : v * (m : Int) = v * ((m / n : Nat) : Int) * (n : Int) + v * ((m % n : Nat) : Int) := by
        rw [Int.mul_assoc, ← Int.mul_add, Int.mul_comm ((m / n : Nat) : Int), ← e2]
      omega

theorem crt_exists (r m n : Nat) (a : Int) (hr : r < m) (h1 : 1 ≤ n) (hd : (Nat.gcd m n : Int) ∣ a - (r : Int)) :
    ∃ R : Nat, R < m * (n / Nat.gcd m n) ∧ (m : Int) ∣ (R : Int) - (r : Int) ∧ (n : Int) ∣ (R : Int) - a := by
  obtain ⟨u, v, hl⟩ := bezout_nat n m
  have hg0 : 0 < Nat.gcd m n := Nat.gcd_pos_of_pos_left _ (by omega)
  obtain ⟨xm, hxm⟩ := Nat.gcd_dvd_left m n
  obtain ⟨mo, hmo⟩ := Nat.gcd_dvd_right m n
  obtain ⟨q, hq⟩ := hd
  generalize hg : Nat.gcd m n = g at *
  have e : n / g = mo := by rw [hmo]; exact Nat.mul_div_cancel_left _ hg0
  rw [e]
  have hmo0 : 0 < mo := by
    rcases Nat.eq_zero_or_pos mo with c | c
    · subst c; omega
    · exact c
  obtain ⟨st, hst⟩ := Int.eq_ofNat_of_zero_le (Int.emod_nonneg (q * u) (show (mo : Int) ≠ 0 by omega))
  have hlt : st < mo := by have := Int.emod_lt_of_pos (q * u) (show 0 < (mo : Int) by omega); omega
  refine ⟨r + st * m, ?_, ⟨(st : Int), by simp [Int.mul_comm]; omega⟩, ?_⟩
  · have : (st + 1) * m ≤ mo * m := Nat.mul_le_mul_right _ hlt
    rw [Nat.add_mul, Nat.mul_comm mo] at this; omega
  · obtain ⟨z, hz⟩ := join_step (r : Int) (m : Int) (n : Int) u v (g : Int) (a - (r : Int)) q (st : Int) (mo : Int) (by omega) (by rw [hmo]; simp) ⟨(xm : Int), by rw [hxm]; simp⟩ hl hq
      ⟨-(q * u / (mo : Int)), by rw [← hst, Int.emod_def, Int.neg_mul, Int.mul_comm (mo : Int)]; omega⟩
    exact ⟨z, by rw [← hz]; simp; omega⟩

end Go.Proofs.YtfbgblidlabipaaGreatDoor.MathC
end

section
/- Contracts of package whole's left and joinOne. -/
set_option linter.unusedSimpArgs false
set_option linter.unusedVariables false
set_option maxRecDepth 100000
namespace Go.Proofs.YtfbgblidlabipaaGreatDoor
open Go.RowKit

theorem left_any (a : Int) (m : Nat) (w : World) (ha : a.natAbs ≤ 4000000000000000000) (h0 : 0 < m) (hm : (m : Int) ≤ 1000000000000000000) :
    Calls Tryz.prog 175 #[.int .i64 a, .int .i64 m] w fun e w' => e = .returned (.int .i64 (a % (m : Int))) ∧ w' = w := by
  have hb : (a.tmod (m : Int)).natAbs < m := by rw [Int.natAbs_tmod]; exact Nat.mod_lt _ h0
  have t1 : ((m : Int) == 0) = false := beq_eq_false_iff_ne.2 (by omega)
  by_cases h : 0 ≤ a
  · have e : a.tmod (m : Int) = a % (m : Int) := Int.tmod_eq_emod_of_nonneg h
    have h1 : 0 ≤ a % (m : Int) := Int.emod_nonneg _ (by omega)
    have h2 : a % (m : Int) < (m : Int) := Int.emod_lt_of_pos _ (by omega)
    clear hb e
    go_enter Tryz.func175, Tryz.ntmps175
    go_wp2
    go_ret
    exact ⟨rfl, rfl⟩
  · by_cases hz : a.tmod (m : Int) < 0
    · have HE : Hid (a.tmod (m : Int) + (m : Int) = a % (m : Int)) := by
        show _ = _
        have e1 := Int.tmod_eq_emod (a := a) (b := (m : Int))
        rw [e1] at hz ⊢
        split at hz
        · have := Int.emod_nonneg a (show (m : Int) ≠ 0 by omega); omega
        · rename_i hc; rw [if_neg hc]; simp
      go_enter Tryz.func175, Tryz.ntmps175
      go_wp2
      go_ret
      exact ⟨ret_int HE.out, rfl⟩
    · have HE : Hid (a.tmod (m : Int) = a % (m : Int)) := by
        show _ = _
        have e1 := Int.tmod_eq_emod (a := a) (b := (m : Int))
        rw [e1] at hz ⊢
        split at hz
        · rename_i hc; rw [if_pos hc]; omega
        · have := Int.emod_lt_of_pos a (show 0 < (m : Int) by omega); simp at hz; omega
      go_enter Tryz.func175, Tryz.ntmps175
      go_wp2
      go_ret
      exact ⟨ret_int HE.out, rfl⟩

/-- What is told where a place falls: its code. -/
theorem joinOne_range (r m : Nat) (a b : Int) (w : World) (h : numB a = false ∨ b < 1 ∨ 1000000000000000000 < b) :
    Calls Tryz.prog 311 #[.int .i64 r, .int .i64 m, .int .i64 a, .int .i64 b] w fun e w' => e = .returned (.tuple #[.int .i64 0, .int .i64 0, .int .i64 3]) ∧ w' = w := by
  cases hn : numB a
  · go_enter Tryz.func311, Tryz.ntmps311
    go_wp2_with (go_at_call 120; refine (isNumber_any _ _).mono ?_; rintro e w' ⟨rfl, rfl⟩)
    go_ret3
    exact ⟨rfl, rfl⟩
  · by_cases h1 : b < 1
    · go_enter Tryz.func311, Tryz.ntmps311
      go_wp2_with (go_at_call 120; refine (isNumber_any _ _).mono ?_; rintro e w' ⟨rfl, rfl⟩)
      go_ret3
      exact ⟨rfl, rfl⟩
    · have h2 : 1000000000000000000 < b := by rw [hn] at h; rcases h with h | h | h <;> first | cases h | omega
      clear h
      go_enter Tryz.func311, Tryz.ntmps311
      go_wp2_with (go_at_call 120; refine (isNumber_any _ _).mono ?_; rintro e w' ⟨rfl, rfl⟩)
      go_ret3
      exact ⟨rfl, rfl⟩

theorem gcd_nat (m n : Nat) : Int.gcd (m : Int) (n : Int) = Nat.gcd m n := by simp [Int.gcd]

theorem join_fill {r m n uu mo l st g : Nat} {v q a : Int} (hnm : n = g * mo) (hgm : g ∣ m) (hl : (uu : Int) * (m : Int) + v * (n : Int) = (g : Int)) (hq : a - (r : Int) = (g : Int) * q) (hlq : q % (mo : Int) = (l : Int)) (hst : st = l * uu % mo) (hg : g ≠ 0) :
    (n : Int) ∣ (((r + st * m : Nat) : Int)) - a := by
  obtain ⟨xm, hxm⟩ := hgm
  obtain ⟨z, hz⟩ := MathC.join_step (r : Int) (m : Int) (n : Int) (uu : Int) v (g : Int) (a - (r : Int)) q (st : Int) (mo : Int) (by omega)
    (by rw [hnm]; simp) ⟨(xm : Int), by rw [hxm]; simp⟩ hl hq
    (by
      have e1 : (st : Int) = ((l : Int) * (uu : Int)) % (mo : Int) := by rw [hst]; simp
      have e2 : (l : Int) * (uu : Int) = q * (uu : Int) - (mo : Int) * (q / (mo : Int)) * (uu : Int) := by rw [← hlq, Int.emod_def, Int.sub_mul]
      refine ⟨-(q / (mo : Int) * (uu : Int)) - ((l : Int) * (uu : Int)) / (mo : Int), ?_⟩
      rw [e1, Int.emod_def, Int.sub_mul, Int.neg_mul]
      have e3 : (mo : Int) * (q / (mo : Int)) * (uu : Int) = q / (mo : Int) * (uu : Int) * (mo : Int) := by simp only [Int.mul_assoc, Int.mul_comm, Int.mul_left_comm]
      have e4 : (mo : Int) * ((l : Int) * (uu : Int) / (mo : Int)) = (l : Int) * (uu : Int) / (mo : Int) * (mo : Int) := Int.mul_comm ..
      omega)
  refine ⟨z, ?_⟩
  rw [← hz]; simp; omega

set_option maxHeartbeats 1000000 in
/-- A place whose numbers are in their range. -/
theorem joinOne_any (r m n : Nat) (a : Int) (w : World) (hr : r < m) (hm : (m : Int) ≤ 1000000000000000000) (h1 : 1 ≤ n) (hn : (n : Int) ≤ 1000000000000000000) (ha : numB a = true) :
    Calls Tryz.prog 311 #[.int .i64 r, .int .i64 m, .int .i64 a, .int .i64 n] w fun e w' => (∃ q, w' = w.drewN q) ∧
      ((¬ (Nat.gcd m n : Int) ∣ a - (r : Int) ∧ e = .returned (.tuple #[.int .i64 0, .int .i64 0, .int .i64 5])) ∨
       ((Nat.gcd m n : Int) ∣ a - (r : Int) ∧ 1000000000000000000 < m * (n / Nat.gcd m n) ∧ e = .returned (.tuple #[.int .i64 0, .int .i64 0, .int .i64 9])) ∨
       ((Nat.gcd m n : Int) ∣ a - (r : Int) ∧ m * (n / Nat.gcd m n) ≤ 1000000000000000000 ∧ ∃ R : Nat, e = .returned (.tuple #[.int .i64 R, .int .i64 ((m * (n / Nat.gcd m n) : Nat) : Int), .int .i64 0]) ∧ R < m * (n / Nat.gcd m n) ∧ (m : Int) ∣ (R : Int) - (r : Int) ∧ (n : Int) ∣ (R : Int) - a)) := by
  obtain ⟨a1, a2⟩ := numB_true ha
  have hg0 : 0 < Nat.gcd m n := Nat.gcd_pos_of_pos_left _ (by omega)
  have hgn : Nat.gcd m n ∣ n := Nat.gcd_dvd_right m n
  have hgm : Nat.gcd m n ∣ m := Nat.gcd_dvd_left m n
  have hgle : Nat.gcd m n ≤ n := Nat.le_of_dvd (by omega) hgn
  go_enter Tryz.func311, Tryz.ntmps311
  go_wp2_with (go_at_call 120; refine (isNumber_any _ _).mono ?_; rintro e w' ⟨rfl, rfl⟩)
  refine (bezout_any (m : Int) (n : Int) _ (by omega) (by omega)).mono ?_
  rw [gcd_nat]
  rintro e w1 ⟨u, v, rfl, hbz, hw⟩
  have hlin := hbz.lin
  have hlow := hbz.low (by omega)
  have hhigh := hbz.high (by omega)
  rw [gcd_nat] at hlin hhigh
  rw [Int.natAbs_natCast] at hhigh
  have HW : Hid (∃ q, w1 = w'.drewN q) := hw
  have HL : Hid (u * (m : Int) + v * (n : Int) = (Nat.gcd m n : Int)) := hlin
  clear hbz hlin hw
  obtain ⟨uu, rfl⟩ := Int.eq_ofNat_of_zero_le hlow
  obtain ⟨mo, hmo⟩ : ∃ mo, mo = n / Nat.gcd m n := ⟨_, rfl⟩
  have hnm : n = Nat.gcd m n * mo := by rw [hmo, Nat.mul_div_cancel' hgn]
  have hmo0 : 0 < mo := by
    rcases Nat.eq_zero_or_pos mo with e | e
    · rw [e, Nat.mul_zero] at hnm; omega
    · exact e
  have hmon : mo ≤ n := by rw [hmo]; exact Nat.div_le_self ..
  rw [← hmo] at hhigh
  have huu : uu < mo := by omega
  have emo : (n : Int) / (Nat.gcd m n : Int) = (mo : Int) := by rw [hmo, Int.natCast_ediv]
  have HMO : Hid (mo = n / Nat.gcd m n) := hmo
  have HNM : Hid (n = Nat.gcd m n * mo) := hnm
  clear hmo hnm hhigh hlow hgle
  by_cases hd : (Nat.gcd m n : Int) ∣ a - (r : Int)
  · obtain ⟨q, hq⟩ := hd
    have HQ : Hid (a - (r : Int) = (Nat.gcd m n : Int) * q) := hq
    have eq1 : (a - (r : Int)).tdiv (Nat.gcd m n : Int) = q := by rw [hq]; exact Int.mul_tdiv_cancel_left _ (by omega)
    have hqb : -2000000000000000000 ≤ q ∧ q ≤ 2000000000000000000 := by
      have h1 : q.natAbs ≤ (a - (r : Int)).natAbs := by
        rw [hq, Int.natAbs_mul]; exact Nat.le_mul_of_pos_left _ (by omega)
      omega
    have t5 : ((a - (r : Int)).tmod (Nat.gcd m n : Int) != 0) = false := by rw [hq, Int.mul_tmod_right]; rfl
    clear hq
    by_cases hk : 1000000000000000000 < m * mo
    · have t6 : decide (1000000000000000000 / (mo : Int) < (m : Int)) = true := by
        rw [decide_eq_true_iff]; rw [Int.ediv_lt_iff_lt_mul (by omega), ← Int.natCast_mul]; omega
      have HF : Hid ((Nat.gcd m n : Int) ∣ a - (r : Int) ∧ 1000000000000000000 < m * (n / Nat.gcd m n)) := ⟨⟨q, HQ.out⟩, by rw [← HMO.out]; exact hk⟩
      clear hk
      go_wp2
      go_ret3
      obtain ⟨k, rfl⟩ := HW.out
      exact ⟨⟨k, rfl⟩, Or.inr (Or.inl ⟨HF.out.1, HF.out.2, rfl⟩)⟩
    · have t6 : decide (1000000000000000000 / (mo : Int) < (m : Int)) = false := by
        rw [decide_eq_false_iff_not, Int.ediv_lt_iff_lt_mul (by omega), ← Int.natCast_mul]; omega
      have hmm : (m : Int) * (mo : Int) ≤ 1000000000000000000 ∧ 0 ≤ (m : Int) * (mo : Int) := by rw [← Int.natCast_mul]; omega
      have HK : Hid (m * mo ≤ 1000000000000000000) := by show _ ≤ _; omega
      clear hk
      obtain ⟨l, hl⟩ := Int.eq_ofNat_of_zero_le (Int.emod_nonneg q (show (mo : Int) ≠ 0 by omega))
      have hlm : l < mo := by have := Int.emod_lt_of_pos q (show 0 < (mo : Int) by omega); omega
      have HLQ : Hid (q % (mo : Int) = (l : Int)) := hl
      clear hl
      go_wp2_with fail
      refine (left_any q mo _ (by omega) hmo0 (by omega)).mono ?_
      rw [HLQ.out]
      rintro e w2 ⟨rfl, rfl⟩
      go_wp2_with fail
      refine (productLeft_any l uu mo _ hlm huu (by omega)).mono ?_
      have hst : l * uu % mo < mo := Nat.mod_lt _ hmo0
      obtain ⟨st, gst⟩ : ∃ st, st = l * uu % mo := ⟨_, rfl⟩
      rw [← gst] at hst ⊢
      have HST : Hid (st = l * uu % mo) := gst
      clear gst
      rintro e w3 ⟨rfl, hw3⟩
      have HW3 : Hid (∃ k, w3 = w2.drewN k) := hw3
      clear hw3
      have hsm : st * m + m ≤ m * mo := by
        have : (st + 1) * m ≤ mo * m := Nat.mul_le_mul_right _ hst
        rw [Nat.add_mul, Nat.mul_comm mo] at this; omega
      have hsm' : 0 ≤ (st : Int) * (m : Int) ∧ (st : Int) * (m : Int) + (m : Int) ≤ (m : Int) * (mo : Int) := by
        rw [← Int.natCast_mul, ← Int.natCast_mul]; omega
      have HFD : Hid ((n : Int) ∣ (((r + st * m : Nat) : Int)) - a) := join_fill HNM.out hgm HL.out HQ.out HLQ.out HST.out (by omega)
      clear hgm hgn
      go_wp2
      go_ret3
      obtain ⟨k1, rfl⟩ := HW.out
      obtain ⟨k2, rfl⟩ := HW3.out
      refine ⟨⟨k1 + k2, World.drewN_drewN ..⟩, Or.inr (Or.inr ⟨⟨q, HQ.out⟩, by rw [← HMO.out]; exact HK.out, r + st * m, ?_, ?_, ?_, HFD.out⟩)⟩
      · rw [← HMO.out]; exact ret3 (by simp) (by simp) rfl
      · rw [← HMO.out]; omega
      · exact ⟨(st : Int), by simp; rw [Int.mul_comm]; omega⟩
  · have t5 : ((a - (r : Int)).tmod (Nat.gcd m n : Int) != 0) = true := by
      rw [bne_iff_ne]; intro e; exact hd (Int.dvd_of_tmod_eq_zero e)
    have HF : Hid (¬ (Nat.gcd m n : Int) ∣ a - (r : Int)) := hd
    clear hd
    go_wp2
    go_ret3
    obtain ⟨k, rfl⟩ := HW.out
    exact ⟨⟨k, rfl⟩, Or.inl ⟨HF.out, rfl⟩⟩

end Go.Proofs.YtfbgblidlabipaaGreatDoor
end

section
/- The contract of Join, and the document's examples. -/
set_option linter.unusedSimpArgs false
set_option linter.unusedVariables false
set_option maxRecDepth 100000
namespace Go.Proofs.YtfbgblidlabipaaGreatDoor
open Go.RowKit

/-- What one place comes to, as three numbers. -/
structure JOne (r m : Nat) (a b : Int) (R M c : Int) : Prop where
  cases : (c = 3 ∧ R = 0 ∧ M = 0 ∧ (numB a = false ∨ b < 1 ∨ 1000000000000000000 < b)) ∨
    (numB a = true ∧ ∃ n : Nat, b = (n : Int) ∧ 1 ≤ n ∧ (n : Int) ≤ 1000000000000000000 ∧
      ((c = 5 ∧ R = 0 ∧ M = 0 ∧ ¬ (Nat.gcd m n : Int) ∣ a - (r : Int)) ∨
       (c = 9 ∧ R = 0 ∧ M = 0 ∧ (Nat.gcd m n : Int) ∣ a - (r : Int) ∧ 1000000000000000000 < m * (n / Nat.gcd m n)) ∨
       (c = 0 ∧ ∃ R' : Nat, R = R' ∧ M = ((m * (n / Nat.gcd m n) : Nat) : Int) ∧ m * (n / Nat.gcd m n) ≤ 1000000000000000000 ∧ R' < m * (n / Nat.gcd m n) ∧ (m : Int) ∣ (R' : Int) - (r : Int) ∧ (n : Int) ∣ (R' : Int) - a ∧ (Nat.gcd m n : Int) ∣ a - (r : Int))))

theorem crt_unique {m n R R' : Nat} {r a : Int} (h1 : R < Nat.lcm m n) (h2 : R' < Nat.lcm m n) (d1 : (m : Int) ∣ (R : Int) - r) (d2 : (n : Int) ∣ (R : Int) - a) (e1 : (m : Int) ∣ (R' : Int) - r) (e2 : (n : Int) ∣ (R' : Int) - a) : R = R' := by
  have f1 : (m : Int) ∣ (R : Int) - (R' : Int) := by
    have : (R : Int) - (R' : Int) = ((R : Int) - r) - ((R' : Int) - r) := by omega
    rw [this]; exact Int.dvd_sub d1 e1
  have f2 : (n : Int) ∣ (R : Int) - (R' : Int) := by
    have : (R : Int) - (R' : Int) = ((R : Int) - a) - ((R' : Int) - a) := by omega
    rw [this]; exact Int.dvd_sub d2 e2
  rw [Int.ofNat_dvd_left] at f1 f2
  have f3 := Nat.lcm_dvd f1 f2
  have f4 := Nat.eq_zero_of_dvd_of_lt f3 (by omega)
  omega

/-- One place: the same three numbers in whatever world. -/
theorem joinOne_val (r m : Nat) (a b : Int) (hr : r < m) (hm : (m : Int) ≤ 1000000000000000000) :
    ∃ R M c : Int, JOne r m a b R M c ∧ ∀ w, Calls Tryz.prog 311 #[.int .i64 r, .int .i64 m, .int .i64 a, .int .i64 b] w fun e w' => e = .returned (.tuple #[.int .i64 R, .int .i64 M, .int .i64 c]) ∧ ∃ q, w' = w.drewN q := by
  by_cases hbad : numB a = false ∨ b < 1 ∨ 1000000000000000000 < b
  · exact ⟨0, 0, 3, ⟨Or.inl ⟨rfl, rfl, rfl, hbad⟩⟩, fun w => (joinOne_range r m a b w hbad).mono fun e w' h => ⟨h.1, 0, h.2⟩⟩
  · have ha : numB a = true := by cases h : numB a <;> simp_all
    obtain ⟨n, rfl⟩ := Int.eq_ofNat_of_zero_le (show 0 ≤ b by omega)
    have h1 : 1 ≤ n := by omega
    have h2 : (n : Int) ≤ 1000000000000000000 := by omega
    by_cases hd : (Nat.gcd m n : Int) ∣ a - (r : Int)
    · by_cases hk : 1000000000000000000 < m * (n / Nat.gcd m n)
      · refine ⟨0, 0, 9, ⟨Or.inr ⟨ha, n, rfl, h1, h2, Or.inr (Or.inl ⟨rfl, rfl, rfl, hd, hk⟩)⟩⟩, fun w => (joinOne_any r m n a w hr hm h1 h2 ha).mono fun e w' h => ?_⟩
        obtain ⟨hw, h | h | h⟩ := h
        · exact absurd hd h.1
        · exact ⟨h.2.2, hw⟩
        · omega
      · have hex := MathC.crt_exists r m n a hr h1 hd
        · obtain ⟨R', p1, p2, p3⟩ := hex
          refine ⟨R', ((m * (n / Nat.gcd m n) : Nat) : Int), 0, ⟨Or.inr ⟨ha, n, rfl, h1, h2, Or.inr (Or.inr ⟨rfl, R', rfl, rfl, by omega, p1, p2, p3, hd⟩)⟩⟩, fun w => (joinOne_any r m n a w hr hm h1 h2 ha).mono fun e w' h => ?_⟩
          obtain ⟨hw, h | h | h⟩ := h
          · exact absurd hd h.1
          · omega
          · obtain ⟨_, _, R, rfl, q1, q2, q3⟩ := h
            rw [← MathC.lcm_mul] at p1 q1
            obtain rfl := crt_unique q1 p1 q2 q3 p2 p3
            exact ⟨rfl, hw⟩
    · refine ⟨0, 0, 5, ⟨Or.inr ⟨ha, n, rfl, h1, h2, Or.inl ⟨rfl, rfl, rfl, hd⟩⟩⟩, fun w => (joinOne_any r m n a w hr hm h1 h2 ha).mono fun e w' h => ?_⟩
      obtain ⟨hw, h | h | h⟩ := h
      · exact ⟨h.2, hw⟩
      · exact absurd h.1 hd
      · exact absurd h.1 hd

/-- The slice s holds the numbers xs. -/
structure IS (w : World) (s : Value) (xs : List Int) : Prop where
  shape : ∃ (aa : Option Addr) (g o cap : Nat), s = .slice aa xs.length cap ∧ (0 < xs.length → aa = some ⟨g, o, none⟩) ∧ (∀ i, i < xs.length → w.cell? ⟨g, o + i, none⟩ = some (.int .i64 (xs.getD i 0))) ∧ (0 < xs.length → g < w.heap.size)

/-- What Join comes to. -/
structure JOut (rs ms : List Int) (R M c at' : Int) : Prop where
  cases : ((1000 < rs.length ∨ 1000 < ms.length) ∧ R = 0 ∧ M = 0 ∧ c = 2 ∧ at' = 0) ∨
    (rs.length ≤ 1000 ∧ ms.length ≤ 1000 ∧ rs.length ≠ ms.length ∧ R = 0 ∧ M = 0 ∧ c = 8 ∧ at' = 0) ∨
    (rs.length ≤ 1000 ∧ rs.length = ms.length ∧ ∃ (k r m : Nat) (R' M' : Int), k < rs.length ∧ MathC.JSt rs ms k r m ∧ at' = k ∧ R = 0 ∧ M = 0 ∧ c ≠ 0 ∧ JOne r m (rs.getD k 0) (ms.getD k 0) R' M' c) ∨
    (rs.length ≤ 1000 ∧ rs.length = ms.length ∧ ∃ r m : Nat, MathC.JSt rs ms rs.length r m ∧ R = r ∧ M = m ∧ c = 0 ∧ at' = 0)

theorem jst_of_one {rs ms : List Int} {k r m : Nat} {R M c : Int} (h : MathC.JSt rs ms k r m) (h1 : JOne r m (rs.getD k 0) (ms.getD k 0) R M c) (hc : c = 0) :
    ∃ r' m' : Nat, R = r' ∧ M = m' ∧ MathC.JSt rs ms (k + 1) r' m' := by
  subst hc
  rcases h1.cases with h2 | ⟨ha, n, hn, n1, n2, h2 | h2 | ⟨_, R', rfl, rfl, p1, p2, p3, p4, p5⟩⟩
  · omega
  · omega
  · omega
  · obtain ⟨a1, a2⟩ := numB_true ha
    exact ⟨R', m * (n / Nat.gcd m n), rfl, rfl, MathC.jst_next h n hn n1 n2 a1 a2 (by omega) p2 p3 p4⟩

set_option maxHeartbeats 2000000 in
theorem Join_any (s t : Value) (rs ms : List Int) (w : World) (hs : IS w s rs) (ht : IS w t ms) (hl1 : rs.length ≤ 9000000000000000000) (hl2 : ms.length ≤ 9000000000000000000) :
    Calls Tryz.prog 306 #[s, t] w fun e w' => ∃ R M c at' : Int, e = .returned (.tuple #[.int .i64 R, .int .i64 M, .agg #[.int .i64 c, .int .i64 at']]) ∧ JOut rs ms R M c at' ∧ Below w.heap.size w w' := by
  obtain ⟨a1, g1, o1, c1, rfl, p1, cell1, lt1⟩ := hs.shape
  obtain ⟨a2, g2, o2, c2, rfl, p2, cell2, lt2⟩ := ht.shape
  clear hs ht
  have P1 : Hid (0 < rs.length → a1 = some ⟨g1, o1, none⟩) := p1
  have P2 : Hid (0 < ms.length → a2 = some ⟨g2, o2, none⟩) := p2
  have C1 : Hid (∀ i, i < rs.length → w.cell? ⟨g1, o1 + i, none⟩ = some (.int .i64 (rs.getD i 0))) := cell1
  have C2 : Hid (∀ i, i < ms.length → w.cell? ⟨g2, o2 + i, none⟩ = some (.int .i64 (ms.getD i 0))) := cell2
  have L1 : Hid (0 < rs.length → g1 < w.heap.size) := lt1
  have L2 : Hid (0 < ms.length → g2 < w.heap.size) := lt2
  clear p1 p2 cell1 cell2 lt1 lt2
  by_cases hm : 1000 < rs.length ∨ 1000 < ms.length
  · have HO : Hid (JOut rs ms 0 0 2 0) := ⟨Or.inl ⟨hm, rfl, rfl, rfl, rfl⟩⟩
    by_cases hm1 : 1000 < rs.length
    · clear hm
      go_enter Tryz.func306, Tryz.ntmps306
      go_wp2
      exact bodyPost_ret (v := .tuple #[.int .i64 0, .int .i64 0, .agg #[.int .i64 2, .int .i64 0]]) (by simp [results, Tryz.results306, go_sem]) rfl ⟨0, 0, 2, 0, rfl, HO.out, Below.alloc (Below.refl _ _) (Nat.le_refl _) _⟩
    · have hm2 : 1000 < ms.length := by omega
      clear hm
      go_enter Tryz.func306, Tryz.ntmps306
      go_wp2
      exact bodyPost_ret (v := .tuple #[.int .i64 0, .int .i64 0, .agg #[.int .i64 2, .int .i64 0]]) (by simp [results, Tryz.results306, go_sem]) rfl ⟨0, 0, 2, 0, rfl, HO.out, Below.alloc (Below.refl _ _) (Nat.le_refl _) _⟩
  · have b1 : rs.length ≤ 1000 := by omega
    have b2 : ms.length ≤ 1000 := by omega
    clear hm hl1 hl2
    by_cases he : rs.length = ms.length
    · have t1 : ((rs.length : Int) != (ms.length : Int)) = false := by simp; omega
      have HE : Hid (rs.length = ms.length) := he
      have he1 : rs.length ≤ ms.length := by omega
      have he2 : ms.length ≤ rs.length := by omega
      clear he
      go_enter Tryz.func306, Tryz.ntmps306
      go_wp2
      go_loopw [4, 5, 26] (fun x y i wr => ∃ k r m : Nat, k ≤ rs.length ∧ i = .int .i64 k ∧ x = .int .i64 r ∧ y = .int .i64 m ∧ MathC.JSt rs ms k r m ∧ ∃ q, wr = (w.alloc (.cells #[.int .i64 0, .int .i64 0] 25)).drewN q) (fun _ _ i _ => rs.length - (intOf i).toNat)
      case atStart => exact ⟨0, 0, 1, Nat.zero_le _, rfl, rfl, rfl, MathC.jst_start rs ms, 0, rfl⟩
      case round =>
        obtain ⟨k, r, m, hk, rfl, rfl, rfl, hj, hw⟩ := hrel
        have HJ : Hid (MathC.JSt rs ms k r m) := hj
        have HW : Hid (∃ q, wr = (w.alloc (.cells #[.int .i64 0, .int .i64 0] 25)).drewN q) := hw
        have hsz : w.heap.size < wr.heap.size := by obtain ⟨q, e⟩ := hw; rw [e]; simp
        have f0 : wr.cell? ⟨w.heap.size, 0, none⟩ = some (.int .i64 0) := by obtain ⟨q, e⟩ := hw; rw [e]; simp
        have f1 : wr.cell? ⟨w.heap.size, 1, none⟩ = some (.int .i64 0) := by obtain ⟨q, e⟩ := hw; rw [e]; simp
        have f2 : wr.frozen? ⟨w.heap.size, 0, none⟩ = false := by obtain ⟨q, e⟩ := hw; rw [e]; simp
        have f3 : wr.frozen? ⟨w.heap.size, 1, none⟩ = false := by obtain ⟨q, e⟩ := hw; rw [e]; simp
        have HB : Hid (Below w.heap.size w wr) := by obtain ⟨q, e⟩ := hw; show Below _ _ _; rw [e]; exact below_drewN' (Below.alloc (Below.refl _ _) (Nat.le_refl _) _)
        have hrm := hj.hi
        have hcap := hj.cap
        clear hj hw
        by_cases hlt : k < rs.length
        · obtain rfl := P1.out (by omega)
          obtain rfl := P2.out (by omega)
          have q1 : wr.cell? ⟨g1, o1 + k, none⟩ = some (.int .i64 (rs.getD k 0)) := (HB.out.cell (p := ⟨g1, o1 + k, none⟩) (L1.out (by omega))).trans (C1.out k hlt)
          have q2 : wr.cell? ⟨g2, o2 + k, none⟩ = some (.int .i64 (ms.getD k 0)) := (HB.out.cell (p := ⟨g2, o2 + k, none⟩) (L2.out (by omega))).trans (C2.out k (by omega))
          obtain ⟨R, M, c, hone, hcalls⟩ := joinOne_val r m (rs.getD k 0) (ms.getD k 0) hrm hcap
          obtain ⟨x, hx⟩ : ∃ x, x = rs.getD k 0 := ⟨_, rfl⟩
          obtain ⟨y, hy⟩ : ∃ y, y = ms.getD k 0 := ⟨_, rfl⟩
          rw [← hx] at q1 hcalls
          rw [← hy] at q2 hcalls
          have HONE : Hid (JOne r m (rs.getD k 0) (ms.getD k 0) R M c) := hone
          have HC : Hid (∀ w, Calls Tryz.prog 311 #[.int .i64 r, .int .i64 m, .int .i64 x, .int .i64 y] w fun e w' => e = .returned (.tuple #[.int .i64 R, .int .i64 M, .int .i64 c]) ∧ ∃ q, w' = w.drewN q) := hcalls
          clear hone hcalls hx hy
          by_cases hc : c = 0
          · have t5 : (c != 0) = false := by simp [hc]
            have HN := jst_of_one HJ.out HONE.out hc
            have HNN : Hid (∃ r' m' : Nat, R = r' ∧ M = m' ∧ MathC.JSt rs ms (k + 1) r' m') := HN
            clear HN hc
            go_wp2
            go_quiet ((go_at_call 311; exact Calls.quiet_of (HC.out _)))
            go_wp2
            go_roundw
            case rel =>
              obtain ⟨r', m', rfl, rfl, h3⟩ := HNN.out
              refine ⟨k + 1, r', m', by omega, by go_num, rfl, rfl, h3, ?_⟩
              obtain ⟨q, rfl⟩ := HW.out
              exact ⟨_, World.drewN_drewN ..⟩
            case measure => simp [intOf]; omega
          · have t5 : (c != 0) = true := by simp [hc]
            have HO : Hid (JOut rs ms 0 0 c k) := ⟨Or.inr (Or.inr (Or.inl ⟨b1, HE.out, k, r, m, R, M, hlt, HJ.out, rfl, rfl, rfl, hc, HONE.out⟩))⟩
            clear hc
            go_wp2
            go_quiet ((go_at_call 311; exact Calls.quiet_of (HC.out _)))
            go_wp2
            refine bodyPost_ret (v := .tuple #[.int .i64 0, .int .i64 0, .agg #[.int .i64 c, .int .i64 k]]) (by simp [results, Tryz.results306, go_sem, f0, f1]) rfl ⟨0, 0, c, k, rfl, HO.out, ?_⟩
            exact Below.setCell (Below.setCell (below_drewN' HB.out) (Nat.le_refl _) _) (Nat.le_refl _) _
        · obtain rfl : k = rs.length := by omega
          have HO : Hid (JOut rs ms r m 0 0) := ⟨Or.inr (Or.inr (Or.inr ⟨b1, HE.out, r, m, HJ.out, rfl, rfl, rfl, rfl⟩))⟩
          go_wp2
          refine bodyPost_ret (v := .tuple #[.int .i64 r, .int .i64 m, .agg #[.int .i64 0, .int .i64 0]]) (by simp [results, Tryz.results306, go_sem, f0, f1]) rfl ⟨r, m, 0, 0, rfl, HO.out, ?_⟩
          exact Below.setCell (Below.setCell HB.out (Nat.le_refl _) _) (Nat.le_refl _) _
    · have t1 : ((rs.length : Int) != (ms.length : Int)) = true := by rw [bne_iff_ne]; omega
      have HO : Hid (JOut rs ms 0 0 8 0) := ⟨Or.inr (Or.inl ⟨b1, b2, he, rfl, rfl, rfl, rfl⟩)⟩
      clear he
      go_enter Tryz.func306, Tryz.ntmps306
      go_wp2
      exact bodyPost_ret (v := .tuple #[.int .i64 0, .int .i64 0, .agg #[.int .i64 8, .int .i64 0]]) (by simp [results, Tryz.results306, go_sem]) rfl ⟨0, 0, 8, 0, rfl, HO.out, Below.alloc (Below.refl _ _) (Nat.le_refl _) _⟩

end Go.Proofs.YtfbgblidlabipaaGreatDoor
end
