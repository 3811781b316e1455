import Derived.Test.YtnkjadpmigpneaaGreatDoorJpE
import Derived.Shelf.Spec.TrailingZeros
import Derived.Test.YtnkjadpmigpneaaGreatDoorBitsB
import Derived.Test.YtnkjadpmigpneaaGreatDoorJpM
section
set_option linter.unusedVariables false
set_option maxRecDepth 100000
namespace Go.Proofs.YtnkjadpmigpneaaGreatDoor
def twoS (n : Nat) : Int := if n % 8 = 3 ∨ n % 8 = 5 then -1 else 1
def sgnS (a n : Nat) : Int := if a % 4 = 3 ∧ n % 4 = 3 then -1 else 1
def jac (a n : Nat) : Int :=
  if h0 : a = 0 then (if n = 1 then 1 else 0)
  else if a % 2 = 0 then twoS n * jac (a / 2) n
  else sgnS a n * jac (n % a) a
termination_by a
decreasing_by
  · omega
  · exact Nat.mod_lt _ (by omega)
end Go.Proofs.YtnkjadpmigpneaaGreatDoor
end

section
set_option linter.unusedSimpArgs false
set_option linter.unusedVariables false
set_option maxRecDepth 100000
namespace Go.Proofs.YtnkjadpmigpneaaGreatDoor
open Go.RowKit
def Tb (w : World) : Prop := TabAt 2 Lib.deBruijn64tab w
theorem Tb.lt {w : World} (h : Tb w) : 2 < w.heap.size := by
  rcases Nat.lt_or_ge 2 w.heap.size with k | k
  · exact k
  · have h1 := h 0 (by decide)
    simp only [World.cell?, Array.getElem?_eq_none k] at h1; cases h1
theorem Tb.below {w w' : World} (h : Tb w) (k : Below w.heap.size w w') : Tb w' := fun j hj => (k.cell (p := ⟨2, j, none⟩) h.lt).trans (h j hj)
set_option maxHeartbeats 1000000 in
theorem tz_core (x k idx : Nat) (w : World) (hx0 : ((x : Int) == 0) = false)
    (key : IntKind.u64.wrap (bits BinOp.and IntKind.u64 (x : Int) (IntKind.u64.wrap (-(x : Int))) * 285870213051353865) / 288230376151711744 = (idx : Int))
    (hi : idx < 64) (hk : k < 64) (hcell : w.cell? ⟨2, idx, none⟩ = some (.int .u8 k)) :
    Calls Tryz.prog 142 #[.int .u64 x] w fun e w' => e = .returned (.int .i64 k) ∧ w' = w := by
  go_enter Tryz.func142, Tryz.ntmps142
  go_wp2_with (simp only [key])
  go_ret
  exact ⟨rfl, rfl⟩
theorem tz_any (x : Nat) (hx : x < 18446744073709551616) (h0 : x ≠ 0) :
    ∃ t b : Nat, x = 2 ^ t * b ∧ b % 2 = 1 ∧ t < 64 ∧ ∀ w, Tb w → Calls Tryz.prog 142 #[.int .u64 x] w fun e w' => e = .returned (.int .i64 t) ∧ w' = w := by
  obtain ⟨hlow, hk⟩ := Lib.lowest_bit 64 x h0 hx
  obtain ⟨m, hm, hk2⟩ := Lib.ctzFrom_spec 64 x (by omega) hx
  have e : Lib.ctz 64 x = Lib.ctzFrom 64 x := by simp [Lib.ctz, h0]
  refine ⟨Lib.ctz 64 x, 2 * m + 1, by rw [e]; exact hm, by omega, hk, fun w hT => ?_⟩
  obtain ⟨hi, htab⟩ := Lib.deBruijn64_at _ hk
  have hcell := hT _ hi
  rw [htab] at hcell
  exact tz_core x _ _ w (by simp; omega) (tz64_key x _ hx h0 hlow) hi hk hcell
end Go.Proofs.YtnkjadpmigpneaaGreatDoor
end

section
set_option linter.unusedSimpArgs false
set_option linter.unusedVariables false
set_option maxRecDepth 100000
namespace Go.Proofs.YtnkjadpmigpneaaGreatDoor
open Go.RowKit
theorem mod_pow_succ (n i : Nat) : n % 2 ^ (i + 1) = n % 2 ^ i + 2 ^ i * (n / 2 ^ i % 2) := by
  rw [Nat.pow_succ, Nat.mod_mul]
theorem pow_sq (A i m : Nat) : (A ^ 2 ^ i % m) * (A ^ 2 ^ i % m) % m = A ^ 2 ^ (i + 1) % m := by
  rw [← Nat.mul_mod, ← Nat.pow_add, Nat.pow_succ]; congr 2; omega
theorem pow_one_bit (A n i m : Nat) (h : n / 2 ^ i % 2 = 1) : (A ^ (n % 2 ^ i) % m) * (A ^ 2 ^ i % m) % m = A ^ (n % 2 ^ (i + 1)) % m := by
  rw [← Nat.mul_mod, ← Nat.pow_add, mod_pow_succ, h, Nat.mul_one]
theorem pow_no_bit (A n i m : Nat) (h : n / 2 ^ i % 2 = 0) : A ^ (n % 2 ^ i) % m = A ^ (n % 2 ^ (i + 1)) % m := by
  rw [mod_pow_succ, h, Nat.mul_zero, Nat.add_zero]
theorem and_one_i64 (a : Nat) (ha : a < 9223372036854775808) : bits .and .i64 (a : Int) 1 = ((a % 2 : Nat) : Int) := by
  have h1 : (BitVec.ofInt 64 (a : Int)).toNat = a := by
    rw [BitVec.ofInt_natCast, BitVec.toNat_ofNat]; exact Nat.mod_eq_of_lt (by omega)
  have h2 : (BitVec.ofInt 64 (1 : Int)).toNat = 1 := by decide
  show IntKind.i64.wrap ((BitVec.ofInt 64 (a : Int) &&& BitVec.ofInt 64 (1 : Int)).toNat : Int) = _
  rw [BitVec.toNat_and, h1, h2, Nat.and_one_is_mod, IntKind.wrap_i64]
  omega
theorem bit_i64 (n i b : Nat) (hn : n < 9223372036854775808) (h : n / 2 ^ i % 2 = b) : bits .and .i64 ((n : Int) / 2 ^ i) 1 = (b : Int) := by
  have e : (n : Int) / 2 ^ i = ((n / 2 ^ i : Nat) : Int) := by simp
  rw [e, and_one_i64 _ (Nat.lt_of_le_of_lt (Nat.div_le_self ..) hn), h]
set_option maxHeartbeats 1000000 in
theorem modPower_any (a : Int) (n m : Nat) (w : World) (ha : a.natAbs ≤ 4000000000000000000) (h0 : 0 < m) (hm : m ≤ 1000000000000000000) (hn : n ≤ 1000000000000000000) :
    Calls Tryz.prog 143 #[.int .i64 a, .int .i64 n, .int .i64 m] w fun e w' => e = .returned (.int .i64 (((a % (m : Int)).toNat ^ n % m : Nat) : Int)) ∧ ∃ q, w' = w.drewN q := by
  obtain ⟨A, gA⟩ : ∃ A : Nat, A = (a % (m : Int)).toNat := ⟨_, rfl⟩
  have h1 : 0 ≤ a % (m : Int) := Int.emod_nonneg _ (by omega)
  have h2 : a % (m : Int) < (m : Int) := Int.emod_lt_of_pos _ (by omega)
  have HA : Hid (a % (m : Int) = (A : Int)) := by show _ = _; omega
  have hA : A < m := by omega
  rw [← gA]
  clear gA h1 h2
  have hbl := bl_spec n (by omega)
  have hL : Lib.bitLen n ≤ 64 := Lib.bitLen_le n 64 (by omega) (by omega)
  obtain ⟨L, gL⟩ : ∃ L, L = Lib.bitLen n := ⟨_, rfl⟩
  rw [← gL] at hbl hL
  have HL : Hid (n < 2 ^ L) := hbl.1
  have HLE : Hid (Lib.bitLen ((n : Int).toNat) = L) := by show _ = _; rw [gL]; rfl
  clear hbl gL
  go_enter Tryz.func143, Tryz.ntmps143
  go_wp2_with fail
  refine (left_any 1 m w (by omega) h0 (by omega)).mono ?_
  rintro e w1 ⟨rfl, rfl⟩
  obtain ⟨o, go⟩ : ∃ o, o = 1 % m := ⟨_, rfl⟩
  have e1 : (1 : Int) % (m : Int) = (o : Int) := by rw [go]; rfl
  rw [e1]
  have hom : o < m := by rw [go]; exact Nat.mod_lt _ h0
  have HO : Hid (o = 1 % m) := go
  clear e1 go
  go_wp2_with fail
  refine (left_any a m w1 ha h0 (by omega)).mono ?_
  rintro e w2 ⟨rfl, rfl⟩
  rw [HA.out]
  go_wp2_with fail
  refine (Len64_int _ _ (by omega) (by omega)).mono ?_
  rw [HLE.out]
  rintro e w3 ⟨rfl, rfl⟩
  go_wp2_with fail
  go_loopw [7, 8, 18] (fun av sv iv wx => ∃ i x y : Nat, i ≤ L ∧ iv = .int .i64 i ∧ av = .int .i64 x ∧ sv = .int .i64 y ∧ x < m ∧ y < m ∧ Hid (x = A ^ (n % 2 ^ i) % m ∧ y = A ^ 2 ^ i % m ∧ ∃ q, wx = w3.drewN q)) (fun _ _ iv _ => L - (intOf iv).toNat)
  case atStart => exact ⟨0, o, A, Nat.zero_le _, rfl, rfl, rfl, hom, hA, by rw [HO.out]; simp [Nat.mod_one], by simp [Nat.mod_eq_of_lt hA], 0, rfl⟩
  case round =>
    obtain ⟨i, x, y, hi, rfl, rfl, rfl, hx, hy, HR⟩ := hrel
    by_cases hlt : i < L
    · have hy2 : y * y % m < m := Nat.mod_lt _ h0
      obtain ⟨y2, gy⟩ : ∃ y2, y2 = y * y % m := ⟨_, rfl⟩
      have HY2 : Hid (y2 = A ^ 2 ^ (i + 1) % m) := by show _ = _; rw [gy, HR.out.2.1, pow_sq]
      have HYE : Hid (y * y % m = y2) := gy.symm
      rw [← gy] at hy2
      clear gy
      rcases Nat.mod_two_eq_zero_or_one (n / 2 ^ i) with hb | hb
      · have hbit := bit_i64 n i 0 (by omega) hb
        have HX2 : Hid (x = A ^ (n % 2 ^ (i + 1)) % m) := by show _ = _; rw [HR.out.1, pow_no_bit _ _ _ _ hb]
        clear hb
        go_wp2_with fail
        refine (productLeft_any y y m _ hy hy hm).mono ?_
        rw [HYE.out]
        rintro e w4 ⟨rfl, q4, rfl⟩
        go_wp2
        go_roundw
        case rel =>
          obtain ⟨q, hq⟩ := HR.out.2.2
          exact ⟨i + 1, x, y2, by omega, by go_num, rfl, rfl, hx, hy2, HX2.out, HY2.out, drewN_more ⟨q, hq⟩ _⟩
        case measure => simp [intOf]; omega
      · have hbit := bit_i64 n i 1 (by omega) hb
        have hx2 : x * y % m < m := Nat.mod_lt _ h0
        obtain ⟨x2, gx⟩ : ∃ x2, x2 = x * y % m := ⟨_, rfl⟩
        have HX2 : Hid (x2 = A ^ (n % 2 ^ (i + 1)) % m) := by show _ = _; rw [gx, HR.out.1, HR.out.2.1, pow_one_bit _ _ _ _ hb]
        have HXE : Hid (x * y % m = x2) := gx.symm
        rw [← gx] at hx2
        clear hb gx
        go_wp2_with fail
        refine (productLeft_any x y m _ hx hy hm).mono ?_
        rw [HXE.out]
        rintro e w4 ⟨rfl, q4, rfl⟩
        go_wp2_with fail
        refine (productLeft_any y y m _ hy hy hm).mono ?_
        rw [HYE.out]
        rintro e w5 ⟨rfl, q5, rfl⟩
        go_wp2
        go_roundw
        case rel =>
          obtain ⟨q, hq⟩ := HR.out.2.2
          exact ⟨i + 1, x2, y2, by omega, by go_num, rfl, rfl, hx2, hy2, HX2.out, HY2.out, drewN_more ⟨q, hq⟩ _⟩
        case measure => simp [intOf]; omega
    · obtain rfl : i = L := by omega
      have HE : Hid (x = A ^ n % m) := by
        have h := HR.out.1
        rw [Nat.mod_eq_of_lt HL.out] at h
        exact h
      obtain ⟨q, rfl⟩ := HR.out.2.2
      go_wp2
      go_ret
      rw [HE.out]
      exact ⟨rfl, q, rfl⟩
end Go.Proofs.YtnkjadpmigpneaaGreatDoor
end
