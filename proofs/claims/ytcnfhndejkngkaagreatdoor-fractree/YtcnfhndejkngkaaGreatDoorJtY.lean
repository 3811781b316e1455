import Derived.Test.YtcnfhndejkngkaaGreatDoorJtP
import Derived.Test.YtcnfhndejkngkaaGreatDoorJtG
import Derived.Shelf.Spec.TrailingZeros
import Derived.Test.YtcnfhndejkngkaaGreatDoorBitsB
import Derived.Test.YtcnfhndejkngkaaGreatDoorJtD
import Derived.Test.YtcnfhndejkngkaaGreatDoorJtV
section
/- Plain facts: Jacobi's symbol as it is reckoned by taking out 2 and turning round, and what follows of it. -/
set_option linter.unusedVariables false
set_option maxRecDepth 100000
namespace Go.Proofs.YtcnfhndejkngkaaGreatDoor

/-- The symbol of 2. -/
def twoS (n : Nat) : Int := if n % 8 = 3 ∨ n % 8 = 5 then -1 else 1
/-- The sign of turning round. -/
def sgnS (a n : Nat) : Int := if a % 4 = 3 ∧ n % 4 = 3 then -1 else 1

def jac (a n : Nat) : Int :=
  if h0 : a = 0 then (if n = 1 then 1 else 0)
  else if a % 2 = 0 then twoS n * jac (a / 2) n
  else sgnS a n * jac (n % a) a
termination_by a
decreasing_by
  · omega
  · exact Nat.mod_lt _ (by omega)

theorem jac_zero (n : Nat) : jac 0 n = if n = 1 then 1 else 0 := by rw [jac]; simp
theorem jac_even (a n : Nat) (h0 : a ≠ 0) (h : a % 2 = 0) : jac a n = twoS n * jac (a / 2) n := by rw [jac]; simp [h0, h]
theorem jac_odd (a n : Nat) (h : a % 2 = 1) : jac a n = sgnS a n * jac (n % a) a := by
  rw [jac, dif_neg (by omega), if_neg (by omega)]

theorem twoS_sq (n : Nat) : twoS n = 1 ∨ twoS n = -1 := by unfold twoS; split <;> simp
theorem sgnS_sq (a n : Nat) : sgnS a n = 1 ∨ sgnS a n = -1 := by unfold sgnS; split <;> simp

/-- It is 1 or -1 of numbers without a common divisor, else 0. -/
theorem jac_unit (a : Nat) : ∀ n, n % 2 = 1 → (Nat.gcd a n = 1 → jac a n = 1 ∨ jac a n = -1) ∧ (Nat.gcd a n ≠ 1 → jac a n = 0) := by
  induction a using Nat.strongRecOn with
  | ind a ih =>
    intro n hn
    by_cases h0 : a = 0
    · subst h0
      rw [jac_zero, Nat.gcd_zero_left]
      constructor
      · intro h; rw [if_pos h]; exact .inl rfl
      · intro h; rw [if_neg h]
    · by_cases h2 : a % 2 = 0
      · obtain ⟨h3, h4⟩ := ih (a / 2) (by omega) n hn
        have hc : Nat.gcd 2 n = 1 := by
          rw [Nat.gcd_rec, show n % 2 = 1 from hn]; rfl
        have hg : Nat.gcd a n = Nat.gcd (a / 2) n := by
          have e : a = 2 * (a / 2) := by omega
          conv => lhs; rw [e]
          exact Nat.Coprime.gcd_mul_left_cancel (a / 2) hc
        rw [jac_even a n h0 h2, hg]
        constructor
        · intro h
          rcases twoS_sq n with e | e <;> rcases h3 h with f | f <;> rw [e, f] <;> simp
        · intro h; rw [h4 h]; simp
      · have hodd : a % 2 = 1 := by omega
        obtain ⟨h3, h4⟩ := ih (n % a) (Nat.mod_lt _ (by omega)) a hodd
        have hg : Nat.gcd a n = Nat.gcd (n % a) a := Nat.gcd_rec a n
        rw [jac_odd a n hodd, hg]
        constructor
        · intro h
          rcases sgnS_sq a n with e | e <;> rcases h3 h with f | f <;> rw [e, f] <;> simp
        · intro h; rw [h4 h]; simp

theorem jac_one (n : Nat) : jac 1 n = 1 := by
  rw [jac_odd 1 n rfl, Nat.mod_one, jac_zero]
  simp [sgnS]
theorem jac_one_mod (n : Nat) (h : 1 ≤ n) : jac (1 % n) n = 1 := by
  by_cases h1 : n = 1
  · subst h1; rw [Nat.mod_one, jac_zero]; rfl
  · rw [Nat.mod_eq_of_lt (by omega), jac_one]

theorem jac_two (n : Nat) (h : n % 2 = 1) : jac (2 % n) n = twoS n := by
  by_cases h1 : n = 1
  · subst h1; rw [Nat.mod_one, jac_zero]; rfl
  · rw [Nat.mod_eq_of_lt (by omega), jac_even 2 n (by omega) rfl, show 2 / 2 = 1 from rfl, jac_one]; omega

/-- GAUSS: turning round. -/
theorem jac_turn (m n : Nat) (hm : m % 2 = 1) (hn : n % 2 = 1) : jac (m % n) n = sgnS m n * jac (n % m) m := by
  have key : ∀ m n : Nat, m % 2 = 1 → n % 2 = 1 → m < n → jac (m % n) n = sgnS m n * jac (n % m) m := fun m n h1 h2 h => by
    rw [Nat.mod_eq_of_lt h, jac_odd m n h1]
  rcases Nat.lt_trichotomy m n with h | h | h
  · exact key m n hm hn h
  · subst h
    by_cases h1 : m = 1
    · subst h1; simp [jac_zero, sgnS]
    · rw [Nat.mod_self, jac_zero, if_neg h1]; simp
  · have := key n m hn hm h
    have hs : sgnS n m = sgnS m n := by unfold sgnS; simp [and_comm]
    rw [hs] at this
    rw [this]
    rcases sgnS_sq m n with e | e <;> rw [e] <;> omega

/-- 2 is taken out so often. -/
theorem jac_out (s : Nat) : ∀ m n, 0 < m → jac (2 ^ s * m) n = twoS n ^ s * jac m n := by
  induction s with
  | zero => intro m n h; simp
  | succ s ih =>
    intro m n h
    have hp : 0 < 2 ^ s := Nat.pow_pos (by omega)
    have e : 2 ^ (s + 1) * m = 2 * (2 ^ s * m) := by rw [Nat.pow_succ]; simp [Nat.mul_comm, Nat.mul_left_comm]
    have hpos : 0 < 2 ^ s * m := Nat.mul_pos hp h
    rw [e, jac_even _ n (by omega) (by omega), show 2 * (2 ^ s * m) / 2 = 2 ^ s * m by omega, ih m n h, Int.pow_succ, Int.mul_comm (twoS n ^ s) (twoS n), Int.mul_assoc]

theorem two_part (k : Nat) (h : 0 < k) : ∃ s m, k = 2 ^ s * m ∧ m % 2 = 1 := by
  induction k using Nat.strongRecOn with
  | ind k ih =>
    by_cases h2 : k % 2 = 1
    · exact ⟨0, k, by simp, h2⟩
    · obtain ⟨s, m, e, hm⟩ := ih (k / 2) (by omega) (by omega)
      exact ⟨s + 1, m, by rw [Nat.pow_succ, Nat.mul_right_comm, ← e]; omega, hm⟩

theorem jac_less (n : Nat) (h : n % 2 = 1) : jac (n - 1) n = if n % 4 = 1 then 1 else -1 := by
  by_cases h1 : n = 1
  · subst h1; rw [show 1 - 1 = 0 from rfl, jac_zero]; rfl
  · obtain ⟨s, m, e, hm⟩ := two_part (n - 1) (by omega)
    have hm0 : 0 < m := by omega
    have hmod : n % m = 1 % m := by
      have : n = 1 + m * 2 ^ s := by rw [Nat.mul_comm, ← e]; omega
      rw [this, Nat.add_mul_mod_self_left]
    rw [e, jac_out s m n hm0, jac_odd m n hm, hmod, jac_one_mod m (by omega), Int.mul_one]
    match s, e with
    | 0, e => simp at e; omega
    | 1, e =>
      rw [Int.pow_succ, Int.pow_zero, Int.one_mul]
      have e2 : n = 2 * m + 1 := by simp at e; omega
      unfold twoS sgnS
      rcases (show m % 4 = 1 ∨ m % 4 = 3 by omega) with h4 | h4
      · rw [if_pos (by omega), if_neg (by omega), if_neg (by omega)]; rfl
      · rw [if_neg (by omega), if_pos (by omega), if_neg (by omega)]; rfl
    | 2, e =>
      have e2 : n = 4 * m + 1 := by simp at e; omega
      have hs : sgnS m n = 1 := by unfold sgnS; rw [if_neg (by omega)]
      rw [hs, if_pos (by omega)]
      rcases twoS_sq n with h3 | h3 <;> rw [h3] <;> rfl
    | s + 3, e =>
      have e2 : n = 8 * (2 ^ s * m) + 1 := by
        have e3 : 2 ^ (s + 3) * m = 8 * (2 ^ s * m) := by rw [Nat.pow_add, Nat.mul_comm (2 ^ s), Nat.mul_assoc]
        omega
      have hs : sgnS m n = 1 := by unfold sgnS; rw [if_neg (by omega)]
      have ht : twoS n = 1 := by unfold twoS; rw [if_neg (by omega)]
      rw [hs, ht, if_pos (by omega), Int.one_pow]; rfl

end Go.Proofs.YtcnfhndejkngkaaGreatDoor
end

section
/- math/bits.TrailingZeros64, residue.symbol and residue.Jacobi. -/
set_option linter.unusedSimpArgs false
set_option linter.unusedVariables false
set_option maxRecDepth 100000
namespace Go.Proofs.YtcnfhndejkngkaaGreatDoor
open Go.RowKit

/-- The table of package math/bits is in memory. -/
def Tb (w : World) : Prop := TabAt 5 Lib.deBruijn64tab w
theorem Tb.lt {w : World} (h : Tb w) : 5 < w.heap.size := by
  rcases Nat.lt_or_ge 5 w.heap.size with k | k
  · exact k
  · have h1 := h 0 (by decide)
    simp only [World.cell?, Array.getElem?_eq_none k] at h1; cases h1
theorem Tb.below {w w' : World} (h : Tb w) (k : Below w.heap.size w w') : Tb w' := fun j hj => (k.cell (p := ⟨5, j, none⟩) h.lt).trans (h j hj)
theorem Tb.alloc {w : World} (h : Tb w) (o : Obj) : Tb (w.alloc o) := h.below (Below.alloc (Below.refl _ _) (Nat.le_refl _) _)
theorem Tb.upto {B : Nat} {w w' : World} (h : Tb w) (k : Below B w w') (hB : w.heap.size ≤ B) : Tb w' := h.below (k.mono hB)

set_option maxHeartbeats 1000000 in
theorem tz_core (x k idx : Nat) (w : World) (hx0 : ((x : Int) == 0) = false)
    (key : IntKind.u64.wrap (bits BinOp.and IntKind.u64 (x : Int) (IntKind.u64.wrap (-(x : Int))) * 285870213051353865) / 288230376151711744 = (idx : Int))
    (hi : idx < 64) (hk : k < 64) (hcell : w.cell? ⟨5, idx, none⟩ = some (.int .u8 k)) :
    Calls Tryz.prog 175 #[.int .u64 x] w fun e w' => e = .returned (.int .i64 k) ∧ w' = w := by
  go_enter Tryz.func175, Tryz.ntmps175
  go_wp2_with (simp only [key])
  go_ret
  exact ⟨rfl, rfl⟩

/-- x is 2 so often, times an odd number. -/
theorem tz_any (x : Nat) (hx : x < 18446744073709551616) (h0 : x ≠ 0) :
    ∃ t b : Nat, x = 2 ^ t * b ∧ b % 2 = 1 ∧ t < 64 ∧ ∀ w, Tb w → Calls Tryz.prog 175 #[.int .u64 x] w fun e w' => e = .returned (.int .i64 t) ∧ w' = w := by
  obtain ⟨hlow, hk⟩ := Lib.lowest_bit 64 x h0 hx
  obtain ⟨m, hm, hk2⟩ := Lib.ctzFrom_spec 64 x (by omega) hx
  have e : Lib.ctz 64 x = Lib.ctzFrom 64 x := by simp [Lib.ctz, h0]
  refine ⟨Lib.ctz 64 x, 2 * m + 1, by rw [e]; exact hm, by omega, hk, fun w hT => ?_⟩
  obtain ⟨hi, htab⟩ := Lib.deBruijn64_at _ hk
  have hcell := hT _ hi
  rw [htab] at hcell
  exact tz_core x _ _ w (by simp; omega) (tz64_key x _ hx h0 hlow) hi hk hcell

/-- One round: out with all 2, and turned round. -/
theorem jac_round {a n t b : Nat} {z J : Int} (h : a = 2 ^ t * b) (hb : b % 2 = 1) (hz : z * jac a n = J) :
    (if b % 4 = 3 ∧ n % 4 = 3 then -(if t % 2 = 1 ∧ (n % 8 = 3 ∨ n % 8 = 5) then -z else z) else (if t % 2 = 1 ∧ (n % 8 = 3 ∨ n % 8 = 5) then -z else z)) * jac (n % b) b = J := by
  rw [h, jac_out t b n (by omega), jac_odd b n hb] at hz
  rw [← hz]
  have e1 : twoS n ^ t = if t % 2 = 1 ∧ (n % 8 = 3 ∨ n % 8 = 5) then -1 else 1 := by
    unfold twoS
    by_cases h8 : n % 8 = 3 ∨ n % 8 = 5
    · rw [if_pos h8]
      rcases Nat.mod_two_eq_zero_or_one t with h2 | h2
      · rw [if_neg (by omega)]
        obtain ⟨k, rfl⟩ : ∃ k, t = 2 * k := ⟨t / 2, by omega⟩
        rw [Int.pow_mul]; simp [Int.one_pow]
      · rw [if_pos ⟨h2, h8⟩]
        obtain ⟨k, rfl⟩ : ∃ k, t = 2 * k + 1 := ⟨t / 2, by omega⟩
        rw [Int.pow_succ, Int.pow_mul]; simp [Int.one_pow]
    · rw [if_neg h8, if_neg (by omega), Int.one_pow]
  rw [e1]
  unfold sgnS
  split <;> split <;> grind

end Go.Proofs.YtcnfhndejkngkaaGreatDoor
end

section
/- The contract of modulo.Power: a power by a number, bit by bit. -/
set_option linter.unusedSimpArgs false
set_option linter.unusedVariables false
set_option maxRecDepth 100000
namespace Go.Proofs.YtcnfhndejkngkaaGreatDoor
open Go.RowKit

/-- One more bit of the exponent. -/
theorem mod_pow_succ (n i : Nat) : n % 2 ^ (i + 1) = n % 2 ^ i + 2 ^ i * (n / 2 ^ i % 2) := by
  rw [Nat.pow_succ, Nat.mod_mul]

theorem pow_sq (A i m : Nat) : (A ^ 2 ^ i % m) * (A ^ 2 ^ i % m) % m = A ^ 2 ^ (i + 1) % m := by
  rw [← Nat.mul_mod, ← Nat.pow_add, Nat.pow_succ]; congr 2; omega

theorem pow_one_bit (A n i m : Nat) (h : n / 2 ^ i % 2 = 1) : (A ^ (n % 2 ^ i) % m) * (A ^ 2 ^ i % m) % m = A ^ (n % 2 ^ (i + 1)) % m := by
  rw [← Nat.mul_mod, ← Nat.pow_add, mod_pow_succ, h, Nat.mul_one]
theorem pow_no_bit (A n i m : Nat) (h : n / 2 ^ i % 2 = 0) : A ^ (n % 2 ^ i) % m = A ^ (n % 2 ^ (i + 1)) % m := by
  rw [mod_pow_succ, h, Nat.mul_zero, Nat.add_zero]

theorem and_one_i64 (a : Nat) (ha : a < 9223372036854775808) : bits .and .i64 (a : Int) 1 = ((a % 2 : Nat) : Int) := by
  have h1 : (BitVec.ofInt 64 (a : Int)).toNat = a := by
    rw [BitVec.ofInt_natCast, BitVec.toNat_ofNat]; exact Nat.mod_eq_of_lt (by omega)
  have h2 : (BitVec.ofInt 64 (1 : Int)).toNat = 1 := by decide
  show IntKind.i64.wrap ((BitVec.ofInt 64 (a : Int) &&& BitVec.ofInt 64 (1 : Int)).toNat : Int) = _
  rw [BitVec.toNat_and, h1, h2, Nat.and_one_is_mod, IntKind.wrap_i64]
  omega

theorem bit_i64 (n i b : Nat) (hn : n < 9223372036854775808) (h : n / 2 ^ i % 2 = b) : bits .and .i64 ((n : Int) / 2 ^ i) 1 = (b : Int) := by
  have e : (n : Int) / 2 ^ i = ((n / 2 ^ i : Nat) : Int) := by simp
  rw [e, and_one_i64 _ (Nat.lt_of_le_of_lt (Nat.div_le_self ..) hn), h]

set_option maxHeartbeats 1000000 in
theorem modPower_any (a : Int) (n m : Nat) (w : World) (ha : a.natAbs ≤ 4000000000000000000) (h0 : 0 < m) (hm : m ≤ 1000000000000000000) (hn : n ≤ 1000000000000000000) :
    Calls Tryz.prog 158 #[.int .i64 a, .int .i64 n, .int .i64 m] w fun e w' => e = .returned (.int .i64 (((a % (m : Int)).toNat ^ n % m : Nat) : Int)) ∧ ∃ q, w' = w.drewN q := by
  obtain ⟨A, gA⟩ : ∃ A : Nat, A = (a % (m : Int)).toNat := ⟨_, rfl⟩
  have h1 : 0 ≤ a % (m : Int) := Int.emod_nonneg _ (by omega)
  have h2 : a % (m : Int) < (m : Int) := Int.emod_lt_of_pos _ (by omega)
  have HA : Hid (a % (m : Int) = (A : Int)) := by show _ = _; omega
  have hA : A < m := by omega
  rw [← gA]
  clear gA h1 h2
  have hbl := bl_spec n (by omega)
  have hL : Lib.bitLen n ≤ 64 := Lib.bitLen_le n 64 (by omega) (by omega)
  obtain ⟨L, gL⟩ : ∃ L, L = Lib.bitLen n := ⟨_, rfl⟩
  rw [← gL] at hbl hL
  have HL : Hid (n < 2 ^ L) := hbl.1
  have HLE : Hid (Lib.bitLen ((n : Int).toNat) = L) := by show _ = _; rw [gL]; rfl
  clear hbl gL
  go_enter Tryz.func158, Tryz.ntmps158
  go_wp2_with fail
  refine (left_any 1 m w (by omega) h0 (by omega)).mono ?_
  rintro e w1 ⟨rfl, rfl⟩
  obtain ⟨o, go⟩ : ∃ o, o = 1 % m := ⟨_, rfl⟩
  have e1 : (1 : Int) % (m : Int) = (o : Int) := by rw [go]; rfl
  rw [e1]
  have hom : o < m := by rw [go]; exact Nat.mod_lt _ h0
  have HO : Hid (o = 1 % m) := go
  clear e1 go
  go_wp2_with fail
  refine (left_any a m w1 ha h0 (by omega)).mono ?_
  rintro e w2 ⟨rfl, rfl⟩
  rw [HA.out]
  go_wp2_with fail
  refine (Len64_int _ _ (by omega) (by omega)).mono ?_
  rw [HLE.out]
  rintro e w3 ⟨rfl, rfl⟩
  go_wp2_with fail
  go_loopw [7, 8, 18] (fun av sv iv wx => ∃ i x y : Nat, i ≤ L ∧ iv = .int .i64 i ∧ av = .int .i64 x ∧ sv = .int .i64 y ∧ x < m ∧ y < m ∧ Hid (x = A ^ (n % 2 ^ i) % m ∧ y = A ^ 2 ^ i % m ∧ ∃ q, wx = w3.drewN q)) (fun _ _ iv _ => L - (intOf iv).toNat)
  case atStart => exact ⟨0, o, A, Nat.zero_le _, rfl, rfl, rfl, hom, hA, by rw [HO.out]; simp [Nat.mod_one], by simp [Nat.mod_eq_of_lt hA], 0, rfl⟩
  case round =>
    obtain ⟨i, x, y, hi, rfl, rfl, rfl, hx, hy, HR⟩ := hrel
    by_cases hlt : i < L
    · have hy2 : y * y % m < m := Nat.mod_lt _ h0
      obtain ⟨y2, gy⟩ : ∃ y2, y2 = y * y % m := ⟨_, rfl⟩
      have HY2 : Hid (y2 = A ^ 2 ^ (i + 1) % m) := by show _ = _; rw [gy, HR.out.2.1, pow_sq]
      have HYE : Hid (y * y % m = y2) := gy.symm
      rw [← gy] at hy2
      clear gy
      rcases Nat.mod_two_eq_zero_or_one (n / 2 ^ i) with hb | hb
      · have hbit := bit_i64 n i 0 (by omega) hb
        have HX2 : Hid (x = A ^ (n % 2 ^ (i + 1)) % m) := by show _ = _; rw [HR.out.1, pow_no_bit _ _ _ _ hb]
        clear hb
        go_wp2_with fail
        refine (productLeft_any y y m _ hy hy hm).mono ?_
        rw [HYE.out]
        rintro e w4 ⟨rfl, q4, rfl⟩
        go_wp2
        go_roundw
        case rel =>
          obtain ⟨q, hq⟩ := HR.out.2.2
          exact ⟨i + 1, x, y2, by omega, by go_num, rfl, rfl, hx, hy2, HX2.out, HY2.out, drewN_more ⟨q, hq⟩ _⟩
        case measure => simp [intOf]; omega
      · have hbit := bit_i64 n i 1 (by omega) hb
        have hx2 : x * y % m < m := Nat.mod_lt _ h0
        obtain ⟨x2, gx⟩ : ∃ x2, x2 = x * y % m := ⟨_, rfl⟩
        have HX2 : Hid (x2 = A ^ (n % 2 ^ (i + 1)) % m) := by show _ = _; rw [gx, HR.out.1, HR.out.2.1, pow_one_bit _ _ _ _ hb]
        have HXE : Hid (x * y % m = x2) := gx.symm
        rw [← gx] at hx2
        clear hb gx
        go_wp2_with fail
        refine (productLeft_any x y m _ hx hy hm).mono ?_
        rw [HXE.out]
        rintro e w4 ⟨rfl, q4, rfl⟩
        go_wp2_with fail
        refine (productLeft_any y y m _ hy hy hm).mono ?_
        rw [HYE.out]
        rintro e w5 ⟨rfl, q5, rfl⟩
        go_wp2
        go_roundw
        case rel =>
          obtain ⟨q, hq⟩ := HR.out.2.2
          exact ⟨i + 1, x2, y2, by omega, by go_num, rfl, rfl, hx2, hy2, HX2.out, HY2.out, drewN_more ⟨q, hq⟩ _⟩
        case measure => simp [intOf]; omega
    · obtain rfl : i = L := by omega
      have HE : Hid (x = A ^ n % m) := by
        have h := HR.out.1
        rw [Nat.mod_eq_of_lt HL.out] at h
        exact h
      obtain ⟨q, rfl⟩ := HR.out.2.2
      go_wp2
      go_ret
      rw [HE.out]
      exact ⟨rfl, q, rfl⟩

end Go.Proofs.YtcnfhndejkngkaaGreatDoor
end

section
/- Plain facts: Fermat's theorem of every prime; powers and polynomials a little beside; Hensel's step. -/
set_option linter.unusedVariables false
set_option maxRecDepth 100000
namespace Go.Proofs.YtcnfhndejkngkaaGreatDoor

/-! ### Products over a rearrangement; Fermat's theorem -/

def pd (g : Nat → Nat) : Nat → Nat
  | 0 => 1
  | n + 1 => pd g n * g n

theorem pd_cong {g h : Nat → Nat} : ∀ N, (∀ i, i < N → g i = h i) → pd g N = pd h N := by
  intro N
  induction N with
  | zero => intro _; rfl
  | succ N ih => intro e; rw [pd, pd, ih (fun i hi => e i (by omega)), e N (by omega)]

theorem pd_upd (g : Nat → Nat) (k v : Nat) : ∀ N, k < N → pd g N * v = pd (fun i => if i = k then v else g i) N * g k := by
  intro N
  induction N with
  | zero => intro h; omega
  | succ N ih =>
    intro h
    rw [pd, pd]
    by_cases hk : k = N
    · subst hk
      rw [if_pos rfl, pd_cong (h := fun i => if i = k then v else g i) k (fun i hi => by rw [if_neg (by omega)])]
      rw [Nat.mul_assoc, Nat.mul_assoc, Nat.mul_comm (g k) v]
    · rw [if_neg (by omega), Nat.mul_right_comm, ih (by omega), Nat.mul_right_comm]

theorem pd_perm : ∀ (N : Nat) (f : Nat → Nat), (∀ i, i < N → f i < N) → (∀ i j, i < j → j < N → f i ≠ f j) → ∀ g : Nat → Nat, pd (fun i => g (f i)) N = pd g N := by
  intro N
  induction N with
  | zero => intro f _ _ g; rfl
  | succ N ih =>
    intro f hf hi g
    obtain ⟨k, hk, hkN⟩ := pigeon (N + 1) f hf hi N (by omega)
    by_cases hkn : k = N
    · subst hkn
      have h1 : ∀ i, i < k → f i < k := fun i h => by
        have := hf i (by omega)
        have := hi i k h (by omega)
        omega
      rw [pd, pd, ih f h1 (fun i j h h' => hi i j h (by omega)) g, hkN]
    · have h1 : ∀ i, i < N → (if i = k then f N else f i) < N := by
        intro i h
        split
        · have := hf N (by omega)
          have := hi k N (by omega) (by omega)
          omega
        · have := hf i (by omega)
          rcases Nat.lt_trichotomy i k with h3 | h3 | h3
          · have := hi i k h3 hk; omega
          · contradiction
          · have := hi k i h3 (by omega); omega
      have h2 : ∀ i j, i < j → j < N → (if i = k then f N else f i) ≠ (if j = k then f N else f j) := by
        intro i j hij hj
        split <;> split
        · omega
        · exact fun h => hi j N (by omega) (by omega) h.symm
        · exact hi i N (by omega) (by omega)
        · exact hi i j hij (by omega)
      have h3 := ih _ h1 h2 g
      rw [pd, pd, ← h3, pd_upd (fun i => g (f i)) k (g (f N)) N (by omega), hkN]
      congr 1
      refine pd_cong N (fun i h => ?_)
      split <;> rfl

theorem pd_mod (b p : Nat) : ∀ N, pd (fun i => b * (i + 1) % p) N % p = b ^ N * pd (fun i => i + 1) N % p := by
  intro N
  induction N with
  | zero => simp [pd]
  | succ N ih =>
    rw [pd, pd, Nat.mul_mod, ih, Nat.mod_mod, ← Nat.mul_mod, Nat.pow_succ]
    congr 1
    simp only [Nat.mul_assoc, Nat.mul_left_comm]

theorem pd_free {p : Nat} (hp : Pr p) : ∀ N, N < p → ¬ p ∣ pd (fun i => i + 1) N := by
  intro N
  induction N with
  | zero => intro _ h; have := Nat.le_of_dvd (by decide) h; have := hp.1; simp [pd] at *; omega
  | succ N ih =>
    intro hN h
    rw [pd] at h
    rcases pr_mul hp h with h | h
    · exact ih (by omega) h
    · have := Nat.le_of_dvd (by omega) h; omega

/-- (Fermat) -/
theorem fermat {p b : Nat} (hp : Pr p) (hb : b % p ≠ 0) : b ^ (p - 1) % p = 1 := by
  have h2 := hp.1
  have hnd : ¬ p ∣ b := fun h => hb (Nat.mod_eq_zero_of_dvd h)
  have hne : ∀ i, i < p - 1 → b * (i + 1) % p ≠ 0 := by
    intro i hi h0
    rcases pr_mul hp (Nat.dvd_of_mod_eq_zero h0) with h | h
    · exact hnd h
    · have := Nat.le_of_dvd (by omega) h; omega
  have hlt : ∀ i, b * (i + 1) % p < p := fun i => Nat.mod_lt _ (by omega)
  have hperm := pd_perm (p - 1) (fun i => b * (i + 1) % p - 1) (fun i hi => by have := hne i hi; have := hlt i; show b * (i + 1) % p - 1 < p - 1; omega)
    (fun i j hij hj he => by
      have h1 := hne i (by omega)
      have h3 := hne j hj
      have he : b * (i + 1) % p - 1 = b * (j + 1) % p - 1 := he
      have h4 : b * (i + 1) % p = b * (j + 1) % p := by omega
      have h5 : p ∣ b * (j + 1) - b * (i + 1) := Nat.dvd_of_mod_eq_zero (Nat.sub_mod_eq_zero_of_mod_eq h4.symm)
      rw [← Nat.mul_sub] at h5
      rcases pr_mul hp h5 with h | h
      · exact hnd h
      · have := Nat.le_of_dvd (by omega) h; omega) (fun i => i + 1)
  rw [pd_cong (h := fun i => b * (i + 1) % p) (p - 1) (fun i hi => by have := hne i hi; show b * (i + 1) % p - 1 + 1 = _; omega)] at hperm
  have hm := pd_mod b p (p - 1)
  rw [hperm] at hm
  obtain ⟨G, hG⟩ : ∃ G, G = pd (fun i => i + 1) (p - 1) := ⟨_, rfl⟩
  have hfree := pd_free hp (p - 1) (by omega)
  rw [← hG] at hm hfree
  have hpos : 0 < b ^ (p - 1) := Nat.pow_pos (by rcases Nat.eq_zero_or_pos b with h | h; · subst h; simp at hb
                                                 · exact h)
  have h5 : p ∣ b ^ (p - 1) * G - 1 * G := Nat.dvd_of_mod_eq_zero (Nat.sub_mod_eq_zero_of_mod_eq (by rw [Nat.one_mul]; exact hm.symm))
  rw [← Nat.sub_mul] at h5
  rcases pr_mul hp h5 with h | h
  · obtain ⟨c, hc⟩ := h
    have : b ^ (p - 1) = p * c + 1 := by omega
    rw [this, Nat.mul_add_mod, Nat.mod_eq_of_lt (by omega)]
  · exact absurd h hfree

theorem fermat_all {p : Nat} (hp : Pr p) (b : Nat) : b ^ p % p = b % p := by
  have h2 := hp.1
  obtain ⟨q, rfl⟩ : ∃ q, p = q + 1 := ⟨p - 1, by omega⟩
  by_cases hb : b % (q + 1) = 0
  · rw [Nat.pow_succ, Nat.mul_mod, hb]; simp
  · have := fermat hp hb
    rw [Nat.add_sub_cancel] at this
    rw [Nat.pow_succ, Nat.mul_mod, this, Nat.one_mul, Nat.mod_mod]

/-- (Miller) An odd prime passes. -/
theorem prime_passes {n b t d : Nat} (hp : Pr n) (hb : b % n ≠ 0) (hd : n - 1 = 2 ^ t * d) : b ^ d % n = 1 ∨ ∃ i, i < t ∧ b ^ (d * 2 ^ i) % n = n - 1 :=
  miller hp t (by rw [Nat.mul_comm, ← hd]; exact fermat hp hb)

/-! ### Powers and polynomials a little beside -/

theorem pow_beside (v h : Int) : ∀ m : Nat, ∃ c : Int, (v + h) ^ (m + 1) = v ^ (m + 1) + ((m : Int) + 1) * v ^ m * h + h * h * c := by
  intro m
  induction m with
  | zero => exact ⟨0, by simp [Int.pow_succ]⟩
  | succ m ih =>
    obtain ⟨c, hc⟩ := ih
    refine ⟨v * c + ((m : Int) + 1) * v ^ m + h * c, ?_⟩
    rw [Int.pow_succ, hc, Int.pow_succ v (m + 1), Int.pow_succ v m]
    push_cast
    grind

theorem pow_lift {u v : Int} {p j : Nat} (hp : 1 ≤ p) (hj : 1 ≤ j) (h : ((p : Int) ^ j) ∣ u - v) : ((p : Int) ^ (j + 1)) ∣ u ^ p - v ^ p := by
  obtain ⟨t, ht⟩ := h
  obtain ⟨m, rfl⟩ : ∃ m, p = m + 1 := ⟨p - 1, by omega⟩
  obtain ⟨i, rfl⟩ : ∃ i, j = i + 1 := ⟨j - 1, by omega⟩
  obtain ⟨P, hP⟩ : ∃ P : Int, P = ((m + 1 : Nat) : Int) := ⟨_, rfl⟩
  rw [← hP] at ht ⊢
  obtain ⟨c, hc⟩ := pow_beside v (P ^ (i + 1) * t) m
  have hu : u = v + P ^ (i + 1) * t := by omega
  have hP' : (m : Int) + 1 = P := by rw [hP]; simp
  rw [hu, hc, hP']
  refine ⟨v ^ m * t + P ^ i * t * t * c, ?_⟩
  rw [Int.pow_succ P (i + 1), Int.pow_succ P i]
  grind

/-- (Euler) A power's power leaves the same. -/
theorem teich_fix {p : Nat} (hp : Pr p) (a : Int) (ha : (p : Int) ∣ a ^ p - a) : ∀ k : Nat, 1 ≤ k → ((p : Int) ^ k) ∣ a ^ (p ^ k) - a ^ (p ^ (k - 1)) := by
  intro k hk
  induction k with
  | zero => omega
  | succ k ih =>
    by_cases h0 : k = 0
    · subst h0; simpa [Int.pow_succ] using ha
    · have h := pow_lift (by have := hp.1; omega) (by omega) (ih (by omega))
      rw [← Int.pow_mul, ← Int.pow_mul, ← Nat.pow_succ, ← Nat.pow_succ, show (k - 1).succ = k by omega] at h
      exact h

def pv : List Int → Int → Int
  | [], _ => 0
  | a :: l, x => a + x * pv l x
def dv : List Int → Int → Int
  | [], _ => 0
  | _ :: l, x => pv l x + x * dv l x

theorem pv_beside (l : List Int) (x h : Int) : ∃ c, pv l (x + h) = pv l x + dv l x * h + h * h * c := by
  induction l with
  | nil => exact ⟨0, by simp [pv, dv]⟩
  | cons a l ih =>
    obtain ⟨c, hc⟩ := ih
    refine ⟨x * c + dv l x + h * c, ?_⟩
    simp only [pv, dv, hc]
    grind

theorem pv_same (l : List Int) {x y m : Int} (h : m ∣ x - y) : m ∣ pv l x - pv l y := by
  induction l with
  | nil => simp [pv]
  | cons a l ih =>
    obtain ⟨s, hs⟩ := h
    obtain ⟨t, ht⟩ := ih
    refine ⟨s * pv l x + y * t, ?_⟩
    simp only [pv]
    grind

theorem dv_same (l : List Int) {x y m : Int} (h : m ∣ x - y) : m ∣ dv l x - dv l y := by
  induction l with
  | nil => simp [dv]
  | cons a l ih =>
    obtain ⟨r, hr⟩ := pv_same l h
    obtain ⟨s, hs⟩ := h
    obtain ⟨t, ht⟩ := ih
    refine ⟨r + s * dv l x + y * t, ?_⟩
    simp only [dv]
    grind

/-- The numbers of the derivative, from place k on. -/
def dl : Nat → List Int → List Int
  | _, [] => []
  | k, a :: l => (k : Int) * a :: dl (k + 1) l

theorem pv_dl (l : List Int) (x : Int) : ∀ k : Nat, pv (dl k l) x = (k : Int) * pv l x + x * dv l x := by
  induction l with
  | nil => intro k; simp [dl, pv, dv]
  | cons a l ih =>
    intro k
    simp only [dl, pv, dv, ih]
    push_cast
    grind

theorem dv_dl (a : Int) (l : List Int) (x : Int) : dv (a :: l) x = pv (dl 1 l) x := by
  rw [pv_dl]; simp [dv]

theorem pv_congr (m : Int) (x : Int) : ∀ l l' : List Int, l.length = l'.length → (∀ i, i < l.length → m ∣ l.getD i 0 - l'.getD i 0) → m ∣ pv l x - pv l' x := by
  intro l
  induction l with
  | nil => intro l' h _; cases l' with
    | nil => simp [pv]
    | cons _ _ => simp at h
  | cons a l ih =>
    intro l' h he
    cases l' with
    | nil => simp at h
    | cons b l' =>
      obtain ⟨s, hs⟩ := ih l' (by simpa using h) (fun i hi => by have := he (i + 1) (by simp; omega); simpa using this)
      have h0 := he 0 (by simp)
      simp at h0
      obtain ⟨t, ht⟩ := h0
      refine ⟨t + x * s, ?_⟩
      simp only [pv]
      grind

theorem pv_drop (l : List Int) (x : Int) (k : Nat) (hk : k < l.length) : pv (l.drop k) x = l.getD k 0 + x * pv (l.drop (k + 1)) x := by
  rw [List.drop_eq_getElem_cons hk, pv, List.getD_eq_getElem?_getD, List.getElem?_eq_getElem hk]; rfl

theorem pv_take (x : Int) : ∀ (l : List Int) (i : Nat), i < l.length → pv (l.take (i + 1)) x = pv (l.take i) x + l.getD i 0 * x ^ i := by
  intro l
  induction l with
  | nil => intro i h; simp at h
  | cons a l ih =>
    intro i h
    cases i with
    | zero => simp [pv]
    | succ i =>
      have := ih i (by simpa using h)
      simp only [List.take_succ_cons, pv, List.getD_cons_succ] at this ⊢
      rw [this, Int.pow_succ]
      grind

theorem dv_take (x : Int) : ∀ (l : List Int) (i : Nat), 1 ≤ i → i < l.length → dv (l.take (i + 1)) x = dv (l.take i) x + l.getD i 0 * i * x ^ (i - 1) := by
  intro l
  induction l with
  | nil => intro i _ h; simp at h
  | cons a l ih =>
    intro i h1 h
    obtain ⟨i, rfl⟩ : ∃ j, i = j + 1 := ⟨i - 1, by omega⟩
    have h' : i < l.length := by simpa using h
    have hp := pv_take x l i h'
    simp only [List.take_succ_cons, dv, List.getD_cons_succ, Nat.add_sub_cancel]
    by_cases h0 : i = 0
    · subst h0
      rw [hp]
      cases l with
      | nil => simp at h'
      | cons b l => simp [dv, pv]
    · have hd := ih i (by omega) h'
      obtain ⟨r, rfl⟩ : ∃ r, i = r + 1 := ⟨i - 1, by omega⟩
      rw [hp, hd, Nat.add_sub_cancel, Int.pow_succ]
      push_cast
      grind

/-- (Hensel) One step. -/
theorem hensel_step {l : List Int} {j : Nat} {P x x0 v y : Int} (hj : 1 ≤ j) (hx : P ∣ x - x0) (hr : (P ^ j) ∣ pv l x) (hv : P ∣ dv l x0 * v - 1)
    (hy : (P ^ (j + 1)) ∣ y - (x - pv l x * v)) : P ∣ y - x0 ∧ (P ^ (j + 1)) ∣ pv l y := by
  obtain ⟨i, rfl⟩ : ∃ i, j = i + 1 := ⟨j - 1, by omega⟩
  have hd := dv_same l hx
  obtain ⟨t, ht⟩ := hr
  obtain ⟨c, hc⟩ := pv_beside l x (-(pv l x * v))
  obtain ⟨z, hz⟩ := hx
  obtain ⟨s, hs⟩ := hv
  obtain ⟨r, hrr⟩ := hd
  have hsame := pv_same l hy
  obtain ⟨q, hq⟩ := hy
  obtain ⟨g, hg⟩ := hsame
  rw [Int.pow_succ P (i + 1), Int.pow_succ P i] at hq hg ⊢
  rw [Int.pow_succ P i] at ht
  constructor
  · exact ⟨z + P ^ i * P * q - P ^ i * t * v, by grind⟩
  · have e : x - pv l x * v = x + -(pv l x * v) := by omega
    rw [e] at hg
    obtain ⟨A, hA⟩ : ∃ A, A = pv l x := ⟨_, rfl⟩
    obtain ⟨D, hD⟩ : ∃ D, D = dv l x := ⟨_, rfl⟩
    rw [← hA, ← hD] at hc
    rw [← hD] at hrr
    rw [← hA] at ht hg
    rw [hc] at hg
    obtain ⟨E, hE⟩ : ∃ E, E = dv l x0 := ⟨_, rfl⟩
    rw [← hE] at hrr hs
    obtain ⟨Y, hY⟩ : ∃ Y, Y = pv l y := ⟨_, rfl⟩
    rw [← hY] at hg ⊢
    clear hc hA hD hE hY e hq
    obtain ⟨Q, hQ⟩ : ∃ Q, Q = P ^ i := ⟨_, rfl⟩
    rw [← hQ] at ht hg ⊢
    have hdv : D * v = 1 + P * (s + r * v) := by grind
    refine ⟨g - t * (s + r * v) + Q * t * t * v * v * c, ?_⟩
    have e1 : Y = Q * P * P * g + (A + D * -(A * v) + -(A * v) * -(A * v) * c) := by omega
    rw [e1, ht]
    have e2 : Q * P * t + D * -(Q * P * t * v) = Q * P * t * (1 - D * v) := by grind
    rw [e2, hdv]
    grind

end Go.Proofs.YtcnfhndejkngkaaGreatDoor
end
