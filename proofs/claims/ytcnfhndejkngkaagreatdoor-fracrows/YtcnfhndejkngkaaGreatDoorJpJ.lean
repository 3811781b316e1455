import Derived.Test.YtcnfhndejkngkaaGreatDoorBigN
import Derived.Test.YtcnfhndejkngkaaGreatDoorJpA
import Derived.Test.YtcnfhndejkngkaaGreatDoorBitsB
import Derived.Test.YtcnfhndejkngkaaGreatDoorJpC
import Derived.Test.YtcnfhndejkngkaaGreatDoorJpH
import Derived.Test.YtcnfhndejkngkaaGreatDoorJpB
section
set_option linter.unusedSimpArgs false
set_option linter.unusedVariables false
set_option maxRecDepth 100000
namespace Go.Proofs.YtcnfhndejkngkaaGreatDoor
open Go.RowKit
theorem Div_any (bz bx by' : Nat) (x y : Int) (m n : Nat) (w : World) (hz : Slot w bz) (hx : BigAt w bx x) (hy : BigAt w by' y) (hy0 : y ≠ 0) (hm : x.natAbs < pw m) (hn : y.natAbs < pw n) (hm' : m ≤ 100000000) (hn' : n ≤ 100000000) :
    Calls Tryz.prog 40 #[.pointer (some ⟨bz, 0, none⟩), .pointer (some ⟨bx, 0, none⟩), .pointer (some ⟨by', 0, none⟩)] w fun e w' => e = .returned (.pointer (some ⟨bz, 0, none⟩)) ∧ BigAt w' bz (x / y) ∧ Upd bz w w' := by
  have lz := hz.lt
  have HZ : Hid (Slot w bz) := hz
  have HX : Hid (BigAt w bx x) := hx
  have HY : Hid (BigAt w by' y) := hy
  have HM : Hid (x.natAbs < pw m) := hm
  have HN : Hid (y.natAbs < pw n) := hn
  have HY0 : Hid (y ≠ 0) := hy0
  clear hx hy hz hm hn hy0
  go_enter Tryz.func40, Tryz.ntmps40
  go_wp2_with fail
  refine (DivMod_any bz bx by' w.heap.size x y m n _ (HZ.out.below (Below.alloc_self' w _) (Nat.le_refl _)) (slot_new w _ _) (by omega) (HX.out.below (Below.alloc_self' w _) (Nat.le_refl _)) (HY.out.below (Below.alloc_self' w _) (Nat.le_refl _)) HY0.out HM.out HN.out hm' hn').mono ?_
  rintro e w1 ⟨rfl, h2, _, h3⟩
  go_wp2
  go_ret
  exact ⟨rfl, h2, h3.swap.fresh (Below.alloc_self' w _) (Nat.le_refl _)⟩
end Go.Proofs.YtcnfhndejkngkaaGreatDoor
end

section
set_option linter.unusedSimpArgs false
set_option linter.unusedVariables false
set_option maxRecDepth 100000
namespace Go.Proofs.YtcnfhndejkngkaaGreatDoor
open Go.RowKit
theorem F_any (c a : Int) (w : World) :
    Calls Tryz.prog 10 #[.int .i64 c, .int .i64 a] w fun e w' => e = .returned (.agg #[.int .i64 c, .int .i64 a]) ∧ Below w.heap.size w w' := by
  go_enter Tryz.func10, Tryz.ntmps10
  go_wp2
  refine bodyPost_ret (v := .agg #[.int .i64 c, .int .i64 a]) (by simp [results, Tryz.results10, go_sem]) rfl ⟨rfl, ?_⟩
  exact Below.alloc (Below.refl _ _) (Nat.le_refl _) _
theorem gcd_sub_left (p q : Nat) : Nat.gcd (p % q) q = Nat.gcd p q := by
  rw [Nat.gcd_comm p q, Nat.gcd_rec q p]
theorem gcd_sub_right (p q : Nat) : Nat.gcd p (q % p) = Nat.gcd p q := by
  rw [Nat.gcd_rec p q, Nat.gcd_comm]
set_option maxHeartbeats 1000000 in
theorem refGcd_nat (a b : Nat) (w : World) (ha : a ≤ 1000000000000000000) (hb : b ≤ 1000000000000000000) (x y : Int) (hx : x.natAbs = a) (hy : y.natAbs = b) :
    Calls Tryz.prog 39 #[.int .i64 x, .int .i64 y] w fun e w' => e = .returned (.int .i64 (Int.gcd x y : Int)) ∧ w' = w := by
  have HG : Hid (Int.gcd x y = Nat.gcd a b) := by unfold Int.gcd; rw [hx, hy]; rfl
  rw [HG.out]
  have hx' : (x < 0 → -x = (a : Int)) ∧ (0 ≤ x → x = (a : Int)) := by omega
  have hy' : (y < 0 → -y = (b : Int)) ∧ (0 ≤ y → y = (b : Int)) := by omega
  have HX : Hid ((x < 0 → -x = (a : Int)) ∧ (0 ≤ x → x = (a : Int))) := hx'
  have HY : Hid ((y < 0 → -y = (b : Int)) ∧ (0 ≤ y → y = (b : Int))) := hy'
  have bx : -1000000000000000000 ≤ x ∧ x ≤ 1000000000000000000 := by omega
  have by' : -1000000000000000000 ≤ y ∧ y ≤ 1000000000000000000 := by omega
  clear hx hy hx' hy' HG
  by_cases sx : x < 0 <;> by_cases sy : y < 0
  all_goals
    go_enter Tryz.func39, Tryz.ntmps39
    go_wp2
    go_loop [0, 1] (fun s t => ∃ p q : Nat, s = .int .i64 p ∧ t = .int .i64 q ∧ p ≤ 1000000000000000000 ∧ q ≤ 1000000000000000000 ∧ Nat.gcd p q = Nat.gcd a b) (fun s t => (intOf s).toNat + (intOf t).toNat)
    case atStart =>
      refine ⟨a, b, ?_, ?_, ha, hb, rfl⟩
      · first | rw [HX.out.1 sx] | rw [HX.out.2 (by omega)]
      · first | rw [HY.out.1 sy] | rw [HY.out.2 (by omega)]
    case round =>
      obtain ⟨p, q, rfl, rfl, hp, hq, hg⟩ := hrel
      have H1 : Hid (Nat.gcd p q = Nat.gcd a b) := hg
      clear hg HX HY
      by_cases c1 : 0 < p
      · by_cases c2 : 0 < q
        · by_cases c3 : q < p
          · have hm : p % q < q := Nat.mod_lt _ c2
            have e := gcd_sub_left p q
            have E : Hid (Nat.gcd (p % q) q = Nat.gcd p q) := e
            clear e
            go_wp2
            go_round
            case rel => exact ⟨p % q, q, by go_num, rfl, by omega, hq, E.out.trans H1.out⟩
            case measure => simp [intOf]; omega
          · have hm : q % p < p := Nat.mod_lt _ c1
            have e := gcd_sub_right p q
            have E : Hid (Nat.gcd p (q % p) = Nat.gcd p q) := e
            clear e
            go_wp2
            go_round
            case rel => exact ⟨p, q % p, rfl, by go_num, hp, by omega, E.out.trans H1.out⟩
            case measure => simp [intOf]; omega
        · obtain rfl : q = 0 := by omega
          go_wp2
          go_ret
          exact ⟨ret_int (by rw [← H1.out]; simp), rfl⟩
      · obtain rfl : p = 0 := by omega
        go_wp2
        go_ret
        exact ⟨ret_int (by rw [← H1.out]; simp), rfl⟩
end Go.Proofs.YtcnfhndejkngkaaGreatDoor
end

section
set_option linter.unusedSimpArgs false
set_option linter.unusedVariables false
set_option maxRecDepth 100000
namespace Go.Proofs.YtcnfhndejkngkaaGreatDoor.MathC
def jl (ms : List Int) : Nat → Nat
  | 0 => 1
  | k + 1 => Nat.lcm (jl ms k) (ms.getD k 0).toNat
def K : Int := 1000000000000000000
structure JSt (rs ms : List Int) (k : Nat) (r m : Nat) : Prop where
  hi : r < m
  cap : (m : Int) ≤ 1000000000000000000
  ok : ∀ j, j < k → -1000000000000000000 ≤ rs.getD j 0 ∧ rs.getD j 0 ≤ 1000000000000000000 ∧ 1 ≤ ms.getD j 0 ∧ ms.getD j 0 ≤ 1000000000000000000
  lcm : m = jl ms k
  cong : ∀ j, j < k → ms.getD j 0 ∣ (r : Int) - rs.getD j 0
end Go.Proofs.YtcnfhndejkngkaaGreatDoor.MathC
end

section
set_option linter.unusedSimpArgs false
set_option linter.unusedVariables false
set_option maxRecDepth 100000
namespace Go.Proofs.YtcnfhndejkngkaaGreatDoor
open Go.RowKit
theorem left_any (a : Int) (m : Nat) (w : World) (ha : a.natAbs ≤ 4000000000000000000) (h0 : 0 < m) (hm : (m : Int) ≤ 1000000000000000000) :
    Calls Tryz.prog 129 #[.int .i64 a, .int .i64 m] w fun e w' => e = .returned (.int .i64 (a % (m : Int))) ∧ w' = w := by
  have hb : (a.tmod (m : Int)).natAbs < m := by rw [Int.natAbs_tmod]; exact Nat.mod_lt _ h0
  have t1 : ((m : Int) == 0) = false := beq_eq_false_iff_ne.2 (by omega)
  by_cases h : 0 ≤ a
  · have e : a.tmod (m : Int) = a % (m : Int) := Int.tmod_eq_emod_of_nonneg h
    have h1 : 0 ≤ a % (m : Int) := Int.emod_nonneg _ (by omega)
    have h2 : a % (m : Int) < (m : Int) := Int.emod_lt_of_pos _ (by omega)
    clear hb e
    go_enter Tryz.func129, Tryz.ntmps129
    go_wp2
    go_ret
    exact ⟨rfl, rfl⟩
  · by_cases hz : a.tmod (m : Int) < 0
    · have HE : Hid (a.tmod (m : Int) + (m : Int) = a % (m : Int)) := by
        show _ = _
        have e1 := Int.tmod_eq_emod (a := a) (b := (m : Int))
        rw [e1] at hz ⊢
        split at hz
        · have := Int.emod_nonneg a (show (m : Int) ≠ 0 by omega); omega
        · rename_i hc; rw [if_neg hc]; simp
      go_enter Tryz.func129, Tryz.ntmps129
      go_wp2
      go_ret
      exact ⟨ret_int HE.out, rfl⟩
    · have HE : Hid (a.tmod (m : Int) = a % (m : Int)) := by
        show _ = _
        have e1 := Int.tmod_eq_emod (a := a) (b := (m : Int))
        rw [e1] at hz ⊢
        split at hz
        · rename_i hc; rw [if_pos hc]; omega
        · have := Int.emod_lt_of_pos a (show 0 < (m : Int) by omega); simp at hz; omega
      go_enter Tryz.func129, Tryz.ntmps129
      go_wp2
      go_ret
      exact ⟨ret_int HE.out, rfl⟩
end Go.Proofs.YtcnfhndejkngkaaGreatDoor
end

section
set_option linter.unusedSimpArgs false
set_option linter.unusedVariables false
set_option maxRecDepth 100000
namespace Go.Proofs.YtcnfhndejkngkaaGreatDoor
open Go.RowKit
theorem mod_pow_succ (n i : Nat) : n % 2 ^ (i + 1) = n % 2 ^ i + 2 ^ i * (n / 2 ^ i % 2) := by
  rw [Nat.pow_succ, Nat.mod_mul]
theorem pow_sq (A i m : Nat) : (A ^ 2 ^ i % m) * (A ^ 2 ^ i % m) % m = A ^ 2 ^ (i + 1) % m := by
  rw [← Nat.mul_mod, ← Nat.pow_add, Nat.pow_succ]; congr 2; omega
theorem pow_one_bit (A n i m : Nat) (h : n / 2 ^ i % 2 = 1) : (A ^ (n % 2 ^ i) % m) * (A ^ 2 ^ i % m) % m = A ^ (n % 2 ^ (i + 1)) % m := by
  rw [← Nat.mul_mod, ← Nat.pow_add, mod_pow_succ, h, Nat.mul_one]
theorem pow_no_bit (A n i m : Nat) (h : n / 2 ^ i % 2 = 0) : A ^ (n % 2 ^ i) % m = A ^ (n % 2 ^ (i + 1)) % m := by
  rw [mod_pow_succ, h, Nat.mul_zero, Nat.add_zero]
theorem and_one_i64 (a : Nat) (ha : a < 9223372036854775808) : bits .and .i64 (a : Int) 1 = ((a % 2 : Nat) : Int) := by
  have h1 : (BitVec.ofInt 64 (a : Int)).toNat = a := by
    rw [BitVec.ofInt_natCast, BitVec.toNat_ofNat]; exact Nat.mod_eq_of_lt (by omega)
  have h2 : (BitVec.ofInt 64 (1 : Int)).toNat = 1 := by decide
  show IntKind.i64.wrap ((BitVec.ofInt 64 (a : Int) &&& BitVec.ofInt 64 (1 : Int)).toNat : Int) = _
  rw [BitVec.toNat_and, h1, h2, Nat.and_one_is_mod, IntKind.wrap_i64]
  omega
theorem bit_i64 (n i b : Nat) (hn : n < 9223372036854775808) (h : n / 2 ^ i % 2 = b) : bits .and .i64 ((n : Int) / 2 ^ i) 1 = (b : Int) := by
  have e : (n : Int) / 2 ^ i = ((n / 2 ^ i : Nat) : Int) := by simp
  rw [e, and_one_i64 _ (Nat.lt_of_le_of_lt (Nat.div_le_self ..) hn), h]
set_option maxHeartbeats 1000000 in
theorem modPower_any (a : Int) (n m : Nat) (w : World) (ha : a.natAbs ≤ 4000000000000000000) (h0 : 0 < m) (hm : m ≤ 1000000000000000000) (hn : n ≤ 1000000000000000000) :
    Calls Tryz.prog 158 #[.int .i64 a, .int .i64 n, .int .i64 m] w fun e w' => e = .returned (.int .i64 (((a % (m : Int)).toNat ^ n % m : Nat) : Int)) ∧ ∃ q, w' = w.drewN q := by
  obtain ⟨A, gA⟩ : ∃ A : Nat, A = (a % (m : Int)).toNat := ⟨_, rfl⟩
  have h1 : 0 ≤ a % (m : Int) := Int.emod_nonneg _ (by omega)
  have h2 : a % (m : Int) < (m : Int) := Int.emod_lt_of_pos _ (by omega)
  have HA : Hid (a % (m : Int) = (A : Int)) := by show _ = _; omega
  have hA : A < m := by omega
  rw [← gA]
  clear gA h1 h2
  have hbl := bl_spec n (by omega)
  have hL : Lib.bitLen n ≤ 64 := Lib.bitLen_le n 64 (by omega) (by omega)
  obtain ⟨L, gL⟩ : ∃ L, L = Lib.bitLen n := ⟨_, rfl⟩
  rw [← gL] at hbl hL
  have HL : Hid (n < 2 ^ L) := hbl.1
  have HLE : Hid (Lib.bitLen ((n : Int).toNat) = L) := by show _ = _; rw [gL]; rfl
  clear hbl gL
  go_enter Tryz.func158, Tryz.ntmps158
  go_wp2_with fail
  refine (left_any 1 m w (by omega) h0 (by omega)).mono ?_
  rintro e w1 ⟨rfl, rfl⟩
  obtain ⟨o, go⟩ : ∃ o, o = 1 % m := ⟨_, rfl⟩
  have e1 : (1 : Int) % (m : Int) = (o : Int) := by rw [go]; rfl
  rw [e1]
  have hom : o < m := by rw [go]; exact Nat.mod_lt _ h0
  have HO : Hid (o = 1 % m) := go
  clear e1 go
  go_wp2_with fail
  refine (left_any a m w1 ha h0 (by omega)).mono ?_
  rintro e w2 ⟨rfl, rfl⟩
  rw [HA.out]
  go_wp2_with fail
  refine (Len64_int _ _ (by omega) (by omega)).mono ?_
  rw [HLE.out]
  rintro e w3 ⟨rfl, rfl⟩
  go_wp2_with fail
  go_loopw [7, 8, 18] (fun av sv iv wx => ∃ i x y : Nat, i ≤ L ∧ iv = .int .i64 i ∧ av = .int .i64 x ∧ sv = .int .i64 y ∧ x < m ∧ y < m ∧ Hid (x = A ^ (n % 2 ^ i) % m ∧ y = A ^ 2 ^ i % m ∧ ∃ q, wx = w3.drewN q)) (fun _ _ iv _ => L - (intOf iv).toNat)
  case atStart => exact ⟨0, o, A, Nat.zero_le _, rfl, rfl, rfl, hom, hA, by rw [HO.out]; simp [Nat.mod_one], by simp [Nat.mod_eq_of_lt hA], 0, rfl⟩
  case round =>
    obtain ⟨i, x, y, hi, rfl, rfl, rfl, hx, hy, HR⟩ := hrel
    by_cases hlt : i < L
    · have hy2 : y * y % m < m := Nat.mod_lt _ h0
      obtain ⟨y2, gy⟩ : ∃ y2, y2 = y * y % m := ⟨_, rfl⟩
      have HY2 : Hid (y2 = A ^ 2 ^ (i + 1) % m) := by show _ = _; rw [gy, HR.out.2.1, pow_sq]
      have HYE : Hid (y * y % m = y2) := gy.symm
      rw [← gy] at hy2
      clear gy
      rcases Nat.mod_two_eq_zero_or_one (n / 2 ^ i) with hb | hb
      · have hbit := bit_i64 n i 0 (by omega) hb
        have HX2 : Hid (x = A ^ (n % 2 ^ (i + 1)) % m) := by show _ = _; rw [HR.out.1, pow_no_bit _ _ _ _ hb]
        clear hb
        go_wp2_with fail
        refine (productLeft_any y y m _ hy hy hm).mono ?_
        rw [HYE.out]
        rintro e w4 ⟨rfl, q4, rfl⟩
        go_wp2
        go_roundw
        case rel =>
          obtain ⟨q, hq⟩ := HR.out.2.2
          exact ⟨i + 1, x, y2, by omega, by go_num, rfl, rfl, hx, hy2, HX2.out, HY2.out, drewN_more ⟨q, hq⟩ _⟩
        case measure => simp [intOf]; omega
      · have hbit := bit_i64 n i 1 (by omega) hb
        have hx2 : x * y % m < m := Nat.mod_lt _ h0
        obtain ⟨x2, gx⟩ : ∃ x2, x2 = x * y % m := ⟨_, rfl⟩
        have HX2 : Hid (x2 = A ^ (n % 2 ^ (i + 1)) % m) := by show _ = _; rw [gx, HR.out.1, HR.out.2.1, pow_one_bit _ _ _ _ hb]
        have HXE : Hid (x * y % m = x2) := gx.symm
        rw [← gx] at hx2
        clear hb gx
        go_wp2_with fail
        refine (productLeft_any x y m _ hx hy hm).mono ?_
        rw [HXE.out]
        rintro e w4 ⟨rfl, q4, rfl⟩
        go_wp2_with fail
        refine (productLeft_any y y m _ hy hy hm).mono ?_
        rw [HYE.out]
        rintro e w5 ⟨rfl, q5, rfl⟩
        go_wp2
        go_roundw
        case rel =>
          obtain ⟨q, hq⟩ := HR.out.2.2
          exact ⟨i + 1, x2, y2, by omega, by go_num, rfl, rfl, hx2, hy2, HX2.out, HY2.out, drewN_more ⟨q, hq⟩ _⟩
        case measure => simp [intOf]; omega
    · obtain rfl : i = L := by omega
      have HE : Hid (x = A ^ n % m) := by
        have h := HR.out.1
        rw [Nat.mod_eq_of_lt HL.out] at h
        exact h
      obtain ⟨q, rfl⟩ := HR.out.2.2
      go_wp2
      go_ret
      rw [HE.out]
      exact ⟨rfl, q, rfl⟩
end Go.Proofs.YtcnfhndejkngkaaGreatDoor
end

section
set_option linter.unusedSimpArgs false
set_option linter.unusedVariables false
set_option maxRecDepth 100000
namespace Go.Proofs.YtcnfhndejkngkaaGreatDoor
open Go.RowKit
set_option maxHeartbeats 1000000 in
theorem Uint64_any (bx : Nat) (x : Int) (w : World) (hx : BigAt w bx x) (h : x.natAbs < 18446744073709551616) :
    Calls Tryz.prog 69 #[.pointer (some ⟨bx, 0, none⟩)] w fun e w' => e = .returned (.int .u64 (x.natAbs : Int)) ∧ ∃ q, w' = w.drewN q := by
  obtain ⟨xa, xl, xc, cx0, cx1, nx, _⟩ := hx.open
  obtain ⟨l, aa, g, cap, e, va, na, sa, pa, cell, _, lt⟩ := nx.open
  simp at e
  obtain ⟨rfl, rfl, rfl⟩ := e
  have h2 : l.length ≤ 2 := na.len (by rw [va, pw_two]; exact h)
  obtain ⟨X, gX⟩ : ∃ X, X = x.natAbs := ⟨_, rfl⟩
  rw [← gX] at va h ⊢
  clear hx nx lt na gX cx0
  rcases short_list l h2 with rfl | ⟨a, rfl⟩ | ⟨a, b, rfl⟩
  · have hv : X = 0 := by simpa [val] using va.symm
    subst hv
    clear va h cell sa pa h2
    go_enter Tryz.func69, Tryz.ntmps69
    go_wp2
    go_ret
    exact ⟨rfl, 0, rfl⟩
  · have hv : X = a := by simpa [val] using va.symm
    subst hv
    have c0 := cell 0 (by simp)
    simp at c0
    obtain rfl := pa (by simp)
    have s0 := sa X (by simp)
    clear va h cell sa pa h2
    go_enter Tryz.func69, Tryz.ntmps69
    go_wp2
    go_ret
    exact ⟨rfl, 0, rfl⟩
  · have hv : X = a + 4294967296 * b := by simpa [val] using va.symm
    have c0 := cell 0 (by simp)
    have c1 := cell 1 (by simp)
    simp at c0 c1
    obtain rfl := pa (by simp)
    have s0 := sa a (by simp)
    have s1 := sa b (by simp)
    have eo := or_low a b s0 s1
    rw [← hv] at eo
    clear va h hv cell sa pa h2
    go_enter Tryz.func69, Tryz.ntmps69
    go_wp2
    first
      | (go_ret; exact ⟨rfl, 0, rfl⟩)
      | (go_quiet (fail)
         go_wp2
         go_ret
         exact ⟨rfl, _, rfl⟩)
set_option maxHeartbeats 1000000 in
theorem Int64_any (bx : Nat) (x : Int) (w : World) (hx : BigAt w bx x) (h : x.natAbs < 9223372036854775808) :
    Calls Tryz.prog 43 #[.pointer (some ⟨bx, 0, none⟩)] w fun e w' => e = .returned (.int .i64 x) ∧ ∃ q, w' = w.drewN q := by
  obtain ⟨xa, xl, xc, cx0, cx1, nx, _⟩ := hx.open
  have HX : Hid (BigAt w bx x) := hx
  clear hx nx cx1
  by_cases hneg : x < 0
  · rw [decide_eq_true hneg] at cx0
    go_enter Tryz.func43, Tryz.ntmps43
    go_wp2_with fail
    refine (Uint64_any bx x w HX.out (by omega)).mono ?_
    rintro e w1 ⟨rfl, q, rfl⟩
    go_wp2
    go_ret
    exact ⟨ret_int (by omega), q, rfl⟩
  · rw [decide_eq_false hneg] at cx0
    go_enter Tryz.func43, Tryz.ntmps43
    go_wp2_with fail
    refine (Uint64_any bx x w HX.out (by omega)).mono ?_
    rintro e w1 ⟨rfl, q, rfl⟩
    go_wp2
    go_ret
    exact ⟨ret_int (by omega), q, rfl⟩
end Go.Proofs.YtcnfhndejkngkaaGreatDoor
end

section
set_option linter.unusedSimpArgs false
set_option linter.unusedVariables false
set_option maxRecDepth 100000
namespace Go.Proofs.YtcnfhndejkngkaaGreatDoor
open Go.RowKit
structure Sv (b : Nat) (c d : Int) (w : World) : Prop where
  c0 : w.cell? ⟨b, 0, none⟩ = some (.int .i64 c)
  c1 : w.cell? ⟨b, 1, none⟩ = some (.int .i64 d)
  f0 : w.frozen? ⟨b, 0, none⟩ = false
  f1 : w.frozen? ⟨b, 1, none⟩ = false
  lt : b < w.heap.size
theorem Sv.below {b : Nat} {c d : Int} {w w' : World} (h : Sv b c d w) (k : Below w.heap.size w w') : Sv b c d w' :=
  ⟨cell_later k h.c0, cell_later k h.c1, (k.frozen (p := ⟨b, 0, none⟩) h.lt).trans h.f0, (k.frozen (p := ⟨b, 1, none⟩) h.lt).trans h.f1, Nat.lt_of_lt_of_le h.lt k.size⟩
theorem Sv.drew {b : Nat} {c d : Int} {w : World} (h : Sv b c d w) : Sv b c d w.drew := ⟨h.c0, h.c1, h.f0, h.f1, h.lt⟩
theorem Sv.drewN {b n : Nat} {c d : Int} {w : World} (h : Sv b c d w) : Sv b c d (w.drewN n) := h.below (below_drewN' (Below.refl _ _))
theorem Sv.alloc {b : Nat} {c d : Int} {w : World} (h : Sv b c d w) (C : Array Value) (t : TypeId) : Sv b c d (w.alloc (.cells C t)) := h.below (Below.alloc (Below.refl _ _) (Nat.le_refl _) _)
theorem Sv.new (c d : Int) (w : World) : Sv w.heap.size c d (w.alloc (.cells #[.int .i64 c, .int .i64 d] 25)) :=
  ⟨by simp, by simp, by simp, by simp, by simp⟩
theorem Sv.set {b : Nat} {c d : Int} {w : World} (h : Sv b c d w) (x y : Int) : Sv b x y ((w.setCell ⟨b, 0, none⟩ (.int .i64 x)).setCell ⟨b, 1, none⟩ (.int .i64 y)) := by
  obtain ⟨c0, c1, f0, f1, lt⟩ := h
  exact ⟨by go_simp, by go_simp, by go_simp, by go_simp, by simpa using lt⟩
theorem Sv.other {b b' : Nat} {c d : Int} {w : World} (h : Sv b c d w) (x y : Value) (hne : b' ≠ b) : Sv b c d ((w.setCell ⟨b', 0, none⟩ x).setCell ⟨b', 1, none⟩ y) := by
  have k : ∀ v : World, ∀ o : Nat, ∀ z : Value, (v.setCell ⟨b', o, none⟩ z).heap[b]? = v.heap[b]? := fun v o z => Below.heap_setCell _ _ _ _ (Ne.symm hne)
  have e : ((w.setCell ⟨b', 0, none⟩ x).setCell ⟨b', 1, none⟩ y).heap[b]? = w.heap[b]? := (k _ _ _).trans (k _ _ _)
  refine ⟨?_, ?_, ?_, ?_, by simpa using h.lt⟩
  · exact (World.cell?_of_block e).trans h.c0
  · exact (World.cell?_of_block e).trans h.c1
  · exact (World.frozen?_of_block e).trans h.f0
  · exact (World.frozen?_of_block e).trans h.f1
end Go.Proofs.YtcnfhndejkngkaaGreatDoor
end
