import Derived.Test.YtcnfhndejkngkaaGreatDoorJpF
set_option linter.unusedSimpArgs false
set_option linter.unusedVariables false
set_option maxRecDepth 100000
namespace Go.Proofs.YtcnfhndejkngkaaGreatDoor
open Go.RowKit
theorem LeadingZeros64_any (x : Int) (w : World) (h0 : 0 ≤ x) (h1 : x ≤ 18446744073709551615) :
    Calls Tryz.prog 202 #[.int .u64 x] w fun e w' => e = .returned (.int .i64 (64 - (Lib.bitLen x.toNat : Int))) ∧ w' = w := by
  have hb : Lib.bitLen x.toNat ≤ 64 := Lib.bitLen_le x.toNat 64 (by omega) (by omega)
  go_enter Tryz.func202, Tryz.ntmps202
  go_wp2_with (go_at_call 162; refine (Len64_int _ _ h0 h1).mono ?_; rintro e w' ⟨rfl, rfl⟩)
  go_ret
  exact ⟨rfl, rfl⟩
theorem bl_spec (x : Nat) : x < 2 ^ 64 → x < 2 ^ Lib.bitLen x ∧ (x ≠ 0 → 2 ^ (Lib.bitLen x - 1) ≤ x) := by
  induction x using Nat.strongRecOn with
  | ind x ih =>
    intro hx
    by_cases h0 : x = 0
    · subst h0; exact ⟨Nat.two_pow_pos _, fun h => absurd rfl h⟩
    · have h1 := Lib.bitLen_half x h0 hx
      have h2 := ih (x / 2) (by omega) (by omega)
      generalize Lib.bitLen (x / 2) = b at *
      rw [h1]
      constructor
      · rw [Nat.pow_add]; omega
      · intro _
        have e : 1 + b - 1 = b := by omega
        rw [e]
        by_cases h3 : x / 2 = 0
        · have : b = 0 := by
            rcases Nat.eq_zero_or_pos b with k | k
            · exact k
            · have := h2.1; have h4 := h1
              exfalso
              have h5 : Lib.bitLen x = 1 := by
                have : x = 1 := by omega
                subst this; decide
              omega
          subst this; omega
        · have h4 := h2.2 h3
          have h5 : 0 < b := by
            rcases Nat.eq_zero_or_pos b with k | k
            · subst k; have := h2.1; simp at this; omega
            · exact k
          have e2 : 2 ^ b = 2 ^ (b - 1) * 2 := by rw [← Nat.pow_succ]; congr 1; omega
          omega
set_option maxHeartbeats 1000000 in
theorem Div64_low (lo y : Nat) (w : World) (hl : lo < 18446744073709551616) (hy : y < 18446744073709551616) (h : 0 < y) :
    Calls Tryz.prog 194 #[.int .u64 0, .int .u64 lo, .int .u64 y] w fun e w' => e = .returned (.tuple #[.int .u64 ((lo / y : Nat) : Int), .int .u64 ((lo % y : Nat) : Int)]) ∧ ∃ n, w' = w.drewN n := by
  have t1 : ((y : Int) == 0) = false := beq_eq_false_iff_ne.2 (by omega)
  have b1 : (lo : Int) ≤ 18446744073709551615 := by omega
  have b2 : (y : Int) ≤ 18446744073709551615 := by omega
  have hq : 0 ≤ (lo : Int) / (y : Int) ∧ (lo : Int) / (y : Int) ≤ 18446744073709551615 := by
    rw [← Int.natCast_ediv]; have := Nat.div_le_self lo y; generalize lo / y = z at *; omega
  clear hl hy
  go_enter Tryz.func194, Tryz.ntmps194
  go_wp2
  go_quiet (fail)
  go_wp2
  go_ret2
  exact ⟨ret2 (Int.natCast_ediv lo y).symm (Int.natCast_emod lo y).symm, _, rfl⟩
theorem mask_nat (a : Nat) (ha : a < 18446744073709551616) : bits .and .u64 (a : Int) 4294967295 = ((a % 4294967296 : Nat) : Int) := by
  rw [and_low32 (a : Int) (by omega) (by omega)]; simp
theorem wrapN (a : Nat) (ha : a < 18446744073709551616) : IntKind.u64.wrap (a : Int) = (a : Int) := by rw [IntKind.wrap_u64]; omega
theorem wrapM (a : Nat) : IntKind.u64.wrap (a : Int) = ((a % 18446744073709551616 : Nat) : Int) := by rw [IntKind.wrap_u64]; omega
theorem or_nat (a b s : Nat) (h : b < 2 ^ s) (h1 : a * 2 ^ s < 18446744073709551616) (h2 : b < 18446744073709551616) : bits .or .u64 ((a * 2 ^ s : Nat) : Int) (b : Int) = ((a * 2 ^ s + b : Nat) : Int) := by
  rw [bits_or_u64_nat _ _ h1 h2, Nat.mul_comm a, Nat.two_pow_add_eq_or_of_lt h]
theorem wrap_rem (u n q Y r : Nat) (h : u * 4294967296 + n = q * Y + r) (hr : r < 18446744073709551616) :
    IntKind.u64.wrap (IntKind.u64.wrap (IntKind.u64.wrap ((u : Int) * 4294967296) + (n : Int)) - IntKind.u64.wrap ((q : Int) * (Y : Int))) = (r : Int) := by
  simp only [IntKind.wrap_u64]
  have : (q : Int) * (Y : Int) = ((q * Y : Nat) : Int) := by simp
  rw [this]
  generalize q * Y = p at *
  omega
theorem cast_quo {hi lo y a b : Nat} (h : (hi * 18446744073709551616 + lo) / y = a * 4294967296 + b) : (a : Int) * 4294967296 + (b : Int) = ((hi : Int) * 18446744073709551616 + (lo : Int)) / (y : Int) := by
  have e : ((hi : Int) * 18446744073709551616 + (lo : Int)) / (y : Int) = (((hi * 18446744073709551616 + lo) / y : Nat) : Int) := by simp
  rw [e, h]; simp
theorem cast_rem {hi lo y R s : Nat} (h : (hi * 18446744073709551616 + lo) % y = R / 2 ^ s) : (R : Int) / 2 ^ s = ((hi : Int) * 18446744073709551616 + (lo : Int)) % (y : Int) := by
  have e : ((hi : Int) * 18446744073709551616 + (lo : Int)) % (y : Int) = (((hi * 18446744073709551616 + lo) % y : Nat) : Int) := by simp
  rw [e, h]; simp
theorem prod_leI2 (x y : Nat) (hx : x < 4294967296) (hy : y < 4294967296) : 0 ≤ (x : Int) * (y : Int) ∧ (x : Int) * (y : Int) ≤ 18446744065119617025 := by
  have := Nat.mul_le_mul (show x ≤ 4294967295 by omega) (show y ≤ 4294967295 by omega)
  rw [← Int.natCast_mul]; omega
set_option maxHeartbeats 4000000 in
set_option maxRecDepth 10000 in
theorem Div64_high (hi lo y : Nat) (w : World) (hl : lo < 18446744073709551616) (hy : y < 18446744073709551616) (h : 0 < hi) (hlt : hi < y) :
    Calls Tryz.prog 194 #[.int .u64 hi, .int .u64 lo, .int .u64 y] w fun e w' => e = .returned (.tuple #[.int .u64 (((hi * 18446744073709551616 + lo) / y : Nat) : Int), .int .u64 (((hi * 18446744073709551616 + lo) % y : Nat) : Int)]) ∧ w' = w := by
  have t1 : ((y : Int) == 0) = false := beq_eq_false_iff_ne.2 (by omega)
  have t2 : ((hi : Int) == 0) = false := beq_eq_false_iff_ne.2 (by omega)
  have b1 : (lo : Int) ≤ 18446744073709551615 := by omega
  have b2 : (y : Int) ≤ 18446744073709551615 := by omega
  obtain ⟨s, hs⟩ : ∃ s, s = 64 - Lib.bitLen y := ⟨_, rfl⟩
  have hbl : Lib.bitLen y ≤ 64 := Lib.bitLen_le y 64 (by omega) (by omega)
  have hbs := bl_spec y (by omega)
  have HS : Hid (64 - (Lib.bitLen (y : Int).toNat : Int) = (s : Int)) := by show _ = _; rw [Int.toNat_natCast]; omega
  have hb0 : Lib.bitLen y ≠ 0 := by intro e; rw [e] at hbs; have := hbs.1; simp at this; omega
  have s63 : s ≤ 63 := by omega
  have hp : y * 2 ^ s < 18446744073709551616 ∧ 9223372036854775808 ≤ y * 2 ^ s := by
    have e1 : 2 ^ Lib.bitLen y * 2 ^ s = 18446744073709551616 := by rw [← Nat.pow_add, show Lib.bitLen y + s = 64 by omega]
    have e2 : 2 ^ (Lib.bitLen y - 1) * 2 ^ s = 9223372036854775808 := by rw [← Nat.pow_add, show Lib.bitLen y - 1 + s = 63 by omega]
    constructor
    · rw [← e1]; exact Nat.mul_lt_mul_of_pos_right hbs.1 (Nat.two_pow_pos s)
    · rw [← e2]; exact Nat.mul_le_mul_right _ (hbs.2 (by omega))
  have hpi : (2 : Int) ^ s = ((2 ^ s : Nat) : Int) := by simp
  have hpj : (2 : Int) ^ (64 - s) = ((2 ^ (64 - s) : Nat) : Int) := by simp
  obtain ⟨f1, f2, f3⟩ := MathB.shifted hi lo y s hl s63 hlt
  have hhi : hi * 2 ^ s < 18446744073709551616 := Nat.lt_of_le_of_lt (Nat.le_add_right _ _) (Nat.lt_trans f3 hp.1)
  have eY : IntKind.u64.wrap ((y : Int) * 2 ^ s) = ((y * 2 ^ s : Nat) : Int) := by rw [hpi, ← Int.natCast_mul]; exact wrapN _ hp.1
  have eu : bits BinOp.or .u64 (IntKind.u64.wrap ((hi : Int) * 2 ^ s)) ((lo : Int) / 2 ^ (64 - s)) = ((hi * 2 ^ s + lo / 2 ^ (64 - s) : Nat) : Int) := by
    rw [hpi, hpj, ← Int.natCast_mul, wrapN _ hhi, ← Int.natCast_ediv]
    exact or_nat hi _ s f1 hhi (Nat.lt_of_le_of_lt (Nat.div_le_self ..) hl)
  have en : IntKind.u64.wrap ((lo : Int) * 2 ^ s) = ((lo * 2 ^ s % 18446744073709551616 : Nat) : Int) := by rw [hpi, ← Int.natCast_mul]; exact wrapM _
  have hn64 : lo * 2 ^ s % 18446744073709551616 < 18446744073709551616 := Nat.mod_lt _ (by omega)
  obtain ⟨Y, gY⟩ : ∃ Y, Y = y * 2 ^ s := ⟨_, rfl⟩
  obtain ⟨u, gu⟩ : ∃ u, u = hi * 2 ^ s + lo / 2 ^ (64 - s) := ⟨_, rfl⟩
  obtain ⟨n, gn⟩ : ∃ n, n = lo * 2 ^ s % 18446744073709551616 := ⟨_, rfl⟩
  rw [← gY] at hp eY f3
  rw [← gu] at eu f2 f3
  rw [← gn] at en f2 hn64
  have FX : Hid ((hi * 18446744073709551616 + lo) * 2 ^ s = u * 18446744073709551616 + n) := f2.symm
  have FY : Hid (Y = y * 2 ^ s) := gY
  clear gY gu gn f1 f2 hbs hbl hb0 hs hpi hpj hhi hl hy
  obtain ⟨v1, gv1⟩ : ∃ v1, v1 = Y / 4294967296 := ⟨_, rfl⟩
  obtain ⟨v0, gv0⟩ : ∃ v0, v0 = Y % 4294967296 := ⟨_, rfl⟩
  obtain ⟨n1, gn1⟩ : ∃ n1, n1 = n / 4294967296 := ⟨_, rfl⟩
  obtain ⟨n0, gn0⟩ : ∃ n0, n0 = n % 4294967296 := ⟨_, rfl⟩
  have eY1 : (Y : Int) / 4294967296 = (v1 : Int) := by omega
  have eY0 : bits BinOp.and .u64 (Y : Int) 4294967295 = (v0 : Int) := by rw [mask_nat Y hp.1, gv0]
  have en1 : (n : Int) / 4294967296 = (n1 : Int) := by omega
  have en0 : bits BinOp.and .u64 (n : Int) 4294967295 = (n0 : Int) := by rw [mask_nat n hn64, gn0]
  have GY : Hid (Y = v1 * 4294967296 + v0) := by show _ = _; omega
  have GN : Hid (n = n1 * 4294967296 + n0) := by show _ = _; omega
  have c1 : 2147483648 ≤ v1 := by omega
  have c2 : v1 < 4294967296 := by omega
  have c3 : v0 < 4294967296 := by omega
  have c4 : n1 < 4294967296 := by omega
  have c5 : n0 < 4294967296 := by omega
  have huY : u < v1 * 4294967296 + v0 := by omega
  have hY64 : Y < 18446744073709551616 := hp.1
  have hY0 : 9223372036854775808 ≤ Y := hp.2
  clear gv1 gv0 gn1 gn0 hn64 hp f3
  have hq := MathB.dg_start u v1 v0 n1 (by omega) c4
  have hr0 : u % v1 < v1 := Nat.mod_lt _ (by omega)
  have hq4 : u / v1 ≤ 8589934592 := by
    rw [Nat.div_le_iff_le_mul_add_pred (by omega)]
    have : 2147483648 * 8589934592 ≤ v1 * 8589934592 := Nat.mul_le_mul_right _ c1
    omega
  have eq1 : (u : Int) / (v1 : Int) = ((u / v1 : Nat) : Int) := (Int.natCast_ediv ..).symm
  obtain ⟨q, gq⟩ : ∃ q, q = u / v1 := ⟨_, rfl⟩
  obtain ⟨r, gr⟩ : ∃ r, r = u % v1 := ⟨_, rfl⟩
  rw [← gq] at hq hq4 eq1
  rw [← gr] at hq hr0
  have hlin : (q : Int) * (v1 : Int) + (r : Int) = (u : Int) := by have := hq.lin; rw [← this]; simp
  have er1 : (u : Int) - (q : Int) * (v1 : Int) = (r : Int) := by omega
  have hqv : 0 ≤ (q : Int) * (v1 : Int) ∧ (q : Int) * (v1 : Int) ≤ 18446744073709551615 := by
    rw [← Int.natCast_mul] at hlin ⊢; omega
  have HQ : Hid (MathB.Dg u v1 v0 n1 q r) := hq
  clear hq gq gr hlin
  go_enter Tryz.func194, Tryz.ntmps194
  go_wp2_with fail
  refine (LeadingZeros64_any _ _ (by omega) b2).mono ?_
  rw [HS.out]
  rintro e w' ⟨rfl, rfl⟩
  go_wp2
  go_loop [15, 16] (fun a b => ∃ q r : Nat, a = .int .u64 q ∧ b = .int .u64 r ∧ Hid (MathB.Dg u v1 v0 n1 q r ∧ r < 4294967296 ∧ q ≤ 8589934592)) (fun a _ => (intOf a).toNat)
  case atStart => exact ⟨q, r, rfl, rfl, ⟨HQ.out, by omega, hq4⟩⟩
  case round =>
    clear HQ eY eu en eY1 eY0 en1 en0 eq1 er1 hqv hr0 hq4
    obtain ⟨q, r, rfl, rfl, hd0⟩ := hrel
    obtain ⟨hd, hr, hq4⟩ := hd0.out
    clear hd0
    have HQ : Hid (MathB.Dg u v1 v0 n1 q r) := hd
    clear hd
    by_cases hA : 4294967296 ≤ q
    · obtain ⟨p1, p2⟩ := MathB.dg_step HQ.out c4 huY (Or.inl hA)
      have HQ' : Hid (MathB.Dg u v1 v0 n1 (q - 1) (r + v1)) := p2
      have hA' : (4294967296 : Int) ≤ (q : Int) := by omega
      clear p2 hA
      by_cases hB : 4294967296 ≤ r + v1
      · have hB' : (4294967296 : Int) ≤ (r : Int) + (v1 : Int) := by omega
        have E1' : q - 1 = (u * 4294967296 + n1) / Y := by rw [GY.out]; exact MathB.dg_end HQ'.out huY c3 (Or.inr hB)
        obtain ⟨k1, gk⟩ : ∃ k1, k1 = q - 1 := ⟨_, rfl⟩
        rw [← gk] at E1'
        have ek : (q : Int) - 1 = (k1 : Int) := by omega
        clear hB gk HQ HQ'
        have E1 : Hid (k1 = (u * 4294967296 + n1) / Y) := E1'
        have hq1b : k1 < 4294967296 := by
          rw [E1.out, GY.out]; exact MathB.dg_small u v1 v0 n1 c4 huY
        obtain ⟨u2, gu2⟩ : ∃ u2, u2 = (u * 4294967296 + n1) % Y := ⟨_, rfl⟩
        have HU2 : Hid (u2 = (u * 4294967296 + n1) % Y) := gu2
        have hu2Y : u2 < Y := by rw [gu2]; exact Nat.mod_lt _ (by omega)
        have hu2Y' : u2 < v1 * 4294967296 + v0 := by rw [← GY.out]; exact hu2Y
        have R1 : u * 4294967296 + n1 = k1 * Y + u2 := by
          have := Nat.div_add_mod (u * 4294967296 + n1) Y
          rw [← E1.out, Nat.mul_comm, ← gu2] at this; exact this.symm
        have eU2 := wrap_rem u n1 k1 Y u2 R1 (by omega)
        have hd2 := MathB.dg_start u2 v1 v0 n0 (by omega) c5
        have hr2 : u2 % v1 < v1 := Nat.mod_lt _ (by omega)
        have hq24 : u2 / v1 ≤ 8589934592 := by
          rw [Nat.div_le_iff_le_mul_add_pred (by omega)]
          have : 2147483648 * 8589934592 ≤ v1 * 8589934592 := Nat.mul_le_mul_right _ c1
          omega
        have eq2 : (u2 : Int) / (v1 : Int) = ((u2 / v1 : Nat) : Int) := (Int.natCast_ediv ..).symm
        obtain ⟨q2, gq2⟩ : ∃ q2, q2 = u2 / v1 := ⟨_, rfl⟩
        obtain ⟨r2, gr2⟩ : ∃ r2, r2 = u2 % v1 := ⟨_, rfl⟩
        rw [← gq2] at hd2 hq24 eq2
        rw [← gr2] at hd2 hr2
        have hlin2 : (q2 : Int) * (v1 : Int) + (r2 : Int) = (u2 : Int) := by have := hd2.lin; rw [← this]; simp
        have er2 : (u2 : Int) - (q2 : Int) * (v1 : Int) = (r2 : Int) := by omega
        have hqv2 : 0 ≤ (q2 : Int) * (v1 : Int) ∧ (q2 : Int) * (v1 : Int) ≤ 18446744073709551615 := by
          rw [← Int.natCast_mul] at hlin2 ⊢; omega
        have HQ2 : Hid (MathB.Dg u2 v1 v0 n0 q2 r2) := hd2
        clear hd2 gq2 gr2 hlin2 gu2 R1 E1'
        go_wp2
        go_loop [18, 16] (fun a b => ∃ q r : Nat, a = .int .u64 q ∧ b = .int .u64 r ∧ Hid (MathB.Dg u2 v1 v0 n0 q r ∧ r < 4294967296 ∧ q ≤ 8589934592)) (fun a _ => (intOf a).toNat)
        case atStart => exact ⟨q2, r2, rfl, rfl, ⟨HQ2.out, by omega, hq24⟩⟩
        case round =>
          clear HQ2 eU2 eq2 er2 hqv2 hr2 hq24 hA' ek
          obtain ⟨q2, r2, rfl, rfl, hd0⟩ := hrel
          obtain ⟨hd, hr2, hq24⟩ := hd0.out
          clear hd0
          have HD : Hid (MathB.Dg u2 v1 v0 n0 q2 r2) := hd
          clear hd
          by_cases hA : 4294967296 ≤ q2
          · obtain ⟨p1, p2⟩ := MathB.dg_step HD.out c5 hu2Y' (Or.inl hA)
            have HD' : Hid (MathB.Dg u2 v1 v0 n0 (q2 - 1) (r2 + v1)) := p2
            have hA' : (4294967296 : Int) ≤ (q2 : Int) := by omega
            clear p2 hA
            by_cases hB : 4294967296 ≤ r2 + v1
            · have hB' : (4294967296 : Int) ≤ (r2 : Int) + (v1 : Int) := by omega
              have E2' : q2 - 1 = (u2 * 4294967296 + n0) / Y := by rw [GY.out]; exact MathB.dg_end HD'.out hu2Y' c3 (Or.inr hB)
              obtain ⟨k2, gk⟩ : ∃ k2, k2 = q2 - 1 := ⟨_, rfl⟩
              rw [← gk] at E2'
              have ek : (q2 : Int) - 1 = (k2 : Int) := by omega
              clear hB gk HD HD'
              have E2 : Hid (k2 = (u2 * 4294967296 + n0) / Y) := E2'
              have hfin := MathB.two_digits u n1 n0 Y k1 k2 (by omega) (E1.out) (by rw [← HU2.out]; exact E2.out)
              have hq2b : k2 < 4294967296 := by
                rw [E2.out, GY.out]; exact MathB.dg_small u2 v1 v0 n0 c5 hu2Y'
              have R2 : Hid (u2 * 4294967296 + n0 = k2 * Y + (u2 * 4294967296 + n0) % Y) := by
                show _ = _
                have := Nat.div_add_mod (u2 * 4294967296 + n0) Y
                rw [← E2.out, Nat.mul_comm] at this; exact this.symm
              have hR : (u2 * 4294967296 + n0) % Y < 18446744073709551616 := Nat.lt_trans (Nat.mod_lt _ (by omega)) hY64
              have eR := wrap_rem u2 n0 k2 Y _ R2.out hR
              obtain ⟨R, gR⟩ : ∃ R, R = (u2 * 4294967296 + n0) % Y := ⟨_, rfl⟩
              rw [← HU2.out] at hfin
              rw [← gR] at eR hfin
              have hX := FX.out
              rw [GN.out] at hX
              rw [← hX, FY.out] at hfin
              have hun := MathB.unshifted _ y s _ _ hfin.1 hfin.2
              have HUN : Hid ((hi * 18446744073709551616 + lo) / y = k1 * 4294967296 + k2 ∧ (hi * 18446744073709551616 + lo) % y = R / 2 ^ s) := hun
              clear hfin hun hX gR hR E2'
              go_wp2
              go_ret2
              refine ⟨ret2 ?_ ?_, rfl⟩
              · exact cast_quo HUN.out.1
              · exact cast_rem HUN.out.2
            · have hB' : decide ((4294967296 : Int) ≤ (r2 : Int) + (v1 : Int)) = false := by simp; omega
              have HBn : Hid (¬ 4294967296 ≤ r2 + v1) := hB
              clear hB
              go_wp2
              go_round
              case rel => exact ⟨q2 - 1, r2 + v1, by go_num, by go_num, ⟨HD'.out, by have := HBn.out; omega, by omega⟩⟩
              case measure => simp [intOf]; omega
          · have hvb := prod_leI2 q2 v0 (by omega) c3
            have hA' : decide ((4294967296 : Int) ≤ (q2 : Int)) = false := by simp; omega
            clear hA
            by_cases hC : 4294967296 * r2 + n0 < q2 * v0
            · obtain ⟨p1, p2⟩ := MathB.dg_step HD.out c5 hu2Y' (Or.inr hC)
              have HD' : Hid (MathB.Dg u2 v1 v0 n0 (q2 - 1) (r2 + v1)) := p2
              have hC' : 4294967296 * (r2 : Int) + (n0 : Int) < (q2 : Int) * (v0 : Int) := by rw [← Int.natCast_mul]; omega
              clear p2 hC
              by_cases hB : 4294967296 ≤ r2 + v1
              · have hB' : (4294967296 : Int) ≤ (r2 : Int) + (v1 : Int) := by omega
                have E2' : q2 - 1 = (u2 * 4294967296 + n0) / Y := by rw [GY.out]; exact MathB.dg_end HD'.out hu2Y' c3 (Or.inr hB)
                obtain ⟨k2, gk⟩ : ∃ k2, k2 = q2 - 1 := ⟨_, rfl⟩
                rw [← gk] at E2'
                have ek : (q2 : Int) - 1 = (k2 : Int) := by omega
                clear hB gk HD HD'
                have E2 : Hid (k2 = (u2 * 4294967296 + n0) / Y) := E2'
                have hfin := MathB.two_digits u n1 n0 Y k1 k2 (by omega) (E1.out) (by rw [← HU2.out]; exact E2.out)
                have hq2b : k2 < 4294967296 := by
                  rw [E2.out, GY.out]; exact MathB.dg_small u2 v1 v0 n0 c5 hu2Y'
                have R2 : Hid (u2 * 4294967296 + n0 = k2 * Y + (u2 * 4294967296 + n0) % Y) := by
                  show _ = _
                  have := Nat.div_add_mod (u2 * 4294967296 + n0) Y
                  rw [← E2.out, Nat.mul_comm] at this; exact this.symm
                have hR : (u2 * 4294967296 + n0) % Y < 18446744073709551616 := Nat.lt_trans (Nat.mod_lt _ (by omega)) hY64
                have eR := wrap_rem u2 n0 k2 Y _ R2.out hR
                obtain ⟨R, gR⟩ : ∃ R, R = (u2 * 4294967296 + n0) % Y := ⟨_, rfl⟩
                rw [← HU2.out] at hfin
                rw [← gR] at eR hfin
                have hX := FX.out
                rw [GN.out] at hX
                rw [← hX, FY.out] at hfin
                have hun := MathB.unshifted _ y s _ _ hfin.1 hfin.2
                have HUN : Hid ((hi * 18446744073709551616 + lo) / y = k1 * 4294967296 + k2 ∧ (hi * 18446744073709551616 + lo) % y = R / 2 ^ s) := hun
                clear hfin hun hX gR hR E2'
                go_wp2
                go_ret2
                refine ⟨ret2 ?_ ?_, rfl⟩
                · exact cast_quo HUN.out.1
                · exact cast_rem HUN.out.2
              · have hB' : decide ((4294967296 : Int) ≤ (r2 : Int) + (v1 : Int)) = false := by simp; omega
                have HBn : Hid (¬ 4294967296 ≤ r2 + v1) := hB
                clear hB
                go_wp2
                go_round
                case rel => exact ⟨q2 - 1, r2 + v1, by go_num, by go_num, ⟨HD'.out, by have := HBn.out; omega, by omega⟩⟩
                case measure => simp [intOf]; omega
            · have hC' : decide (4294967296 * (r2 : Int) + (n0 : Int) < (q2 : Int) * (v0 : Int)) = false := by rw [← Int.natCast_mul]; simp only [decide_eq_false_iff_not]; omega
              have E2' : q2 = (u2 * 4294967296 + n0) / Y := by rw [GY.out]; exact MathB.dg_end HD.out hu2Y' c3 (Or.inl (by omega))
              obtain ⟨k2, rfl⟩ : ∃ k2, k2 = q2 := ⟨_, rfl⟩
              have ek : True := trivial
              clear hC HD
              have E2 : Hid (k2 = (u2 * 4294967296 + n0) / Y) := E2'
              have hfin := MathB.two_digits u n1 n0 Y k1 k2 (by omega) (E1.out) (by rw [← HU2.out]; exact E2.out)
              have hq2b : k2 < 4294967296 := by
                rw [E2.out, GY.out]; exact MathB.dg_small u2 v1 v0 n0 c5 hu2Y'
              have R2 : Hid (u2 * 4294967296 + n0 = k2 * Y + (u2 * 4294967296 + n0) % Y) := by
                show _ = _
                have := Nat.div_add_mod (u2 * 4294967296 + n0) Y
                rw [← E2.out, Nat.mul_comm] at this; exact this.symm
              have hR : (u2 * 4294967296 + n0) % Y < 18446744073709551616 := Nat.lt_trans (Nat.mod_lt _ (by omega)) hY64
              have eR := wrap_rem u2 n0 k2 Y _ R2.out hR
              obtain ⟨R, gR⟩ : ∃ R, R = (u2 * 4294967296 + n0) % Y := ⟨_, rfl⟩
              rw [← HU2.out] at hfin
              rw [← gR] at eR hfin
              have hX := FX.out
              rw [GN.out] at hX
              rw [← hX, FY.out] at hfin
              have hun := MathB.unshifted _ y s _ _ hfin.1 hfin.2
              have HUN : Hid ((hi * 18446744073709551616 + lo) / y = k1 * 4294967296 + k2 ∧ (hi * 18446744073709551616 + lo) % y = R / 2 ^ s) := hun
              clear hfin hun hX gR hR E2'
              go_wp2
              go_ret2
              refine ⟨ret2 ?_ ?_, rfl⟩
              · exact cast_quo HUN.out.1
              · exact cast_rem HUN.out.2
      · have hB' : decide ((4294967296 : Int) ≤ (r : Int) + (v1 : Int)) = false := by simp; omega
        have HBn : Hid (¬ 4294967296 ≤ r + v1) := hB
        clear hB
        go_wp2
        go_round
        case rel => exact ⟨q - 1, r + v1, by go_num, by go_num, ⟨HQ'.out, by have := HBn.out; omega, by omega⟩⟩
        case measure => simp [intOf]; omega
    · have hvb := prod_leI2 q v0 (by omega) c3
      have hA' : decide ((4294967296 : Int) ≤ (q : Int)) = false := by simp; omega
      clear hA
      by_cases hC : 4294967296 * r + n1 < q * v0
      · obtain ⟨p1, p2⟩ := MathB.dg_step HQ.out c4 huY (Or.inr hC)
        have HQ' : Hid (MathB.Dg u v1 v0 n1 (q - 1) (r + v1)) := p2
        have hC' : 4294967296 * (r : Int) + (n1 : Int) < (q : Int) * (v0 : Int) := by rw [← Int.natCast_mul]; omega
        clear p2 hC
        by_cases hB : 4294967296 ≤ r + v1
        · have hB' : (4294967296 : Int) ≤ (r : Int) + (v1 : Int) := by omega
          have E1' : q - 1 = (u * 4294967296 + n1) / Y := by rw [GY.out]; exact MathB.dg_end HQ'.out huY c3 (Or.inr hB)
          obtain ⟨k1, gk⟩ : ∃ k1, k1 = q - 1 := ⟨_, rfl⟩
          rw [← gk] at E1'
          have ek : (q : Int) - 1 = (k1 : Int) := by omega
          clear hB gk HQ HQ'
          have E1 : Hid (k1 = (u * 4294967296 + n1) / Y) := E1'
          have hq1b : k1 < 4294967296 := by
            rw [E1.out, GY.out]; exact MathB.dg_small u v1 v0 n1 c4 huY
          obtain ⟨u2, gu2⟩ : ∃ u2, u2 = (u * 4294967296 + n1) % Y := ⟨_, rfl⟩
          have HU2 : Hid (u2 = (u * 4294967296 + n1) % Y) := gu2
          have hu2Y : u2 < Y := by rw [gu2]; exact Nat.mod_lt _ (by omega)
          have hu2Y' : u2 < v1 * 4294967296 + v0 := by rw [← GY.out]; exact hu2Y
          have R1 : u * 4294967296 + n1 = k1 * Y + u2 := by
            have := Nat.div_add_mod (u * 4294967296 + n1) Y
            rw [← E1.out, Nat.mul_comm, ← gu2] at this; exact this.symm
          have eU2 := wrap_rem u n1 k1 Y u2 R1 (by omega)
          have hd2 := MathB.dg_start u2 v1 v0 n0 (by omega) c5
          have hr2 : u2 % v1 < v1 := Nat.mod_lt _ (by omega)
          have hq24 : u2 / v1 ≤ 8589934592 := by
            rw [Nat.div_le_iff_le_mul_add_pred (by omega)]
            have : 2147483648 * 8589934592 ≤ v1 * 8589934592 := Nat.mul_le_mul_right _ c1
            omega
          have eq2 : (u2 : Int) / (v1 : Int) = ((u2 / v1 : Nat) : Int) := (Int.natCast_ediv ..).symm
          obtain ⟨q2, gq2⟩ : ∃ q2, q2 = u2 / v1 := ⟨_, rfl⟩
          obtain ⟨r2, gr2⟩ : ∃ r2, r2 = u2 % v1 := ⟨_, rfl⟩
          rw [← gq2] at hd2 hq24 eq2
          rw [← gr2] at hd2 hr2
          have hlin2 : (q2 : Int) * (v1 : Int) + (r2 : Int) = (u2 : Int) := by have := hd2.lin; rw [← this]; simp
          have er2 : (u2 : Int) - (q2 : Int) * (v1 : Int) = (r2 : Int) := by omega
          have hqv2 : 0 ≤ (q2 : Int) * (v1 : Int) ∧ (q2 : Int) * (v1 : Int) ≤ 18446744073709551615 := by
            rw [← Int.natCast_mul] at hlin2 ⊢; omega
          have HQ2 : Hid (MathB.Dg u2 v1 v0 n0 q2 r2) := hd2
          clear hd2 gq2 gr2 hlin2 gu2 R1 E1'
          go_wp2
          go_loop [18, 16] (fun a b => ∃ q r : Nat, a = .int .u64 q ∧ b = .int .u64 r ∧ Hid (MathB.Dg u2 v1 v0 n0 q r ∧ r < 4294967296 ∧ q ≤ 8589934592)) (fun a _ => (intOf a).toNat)
          case atStart => exact ⟨q2, r2, rfl, rfl, ⟨HQ2.out, by omega, hq24⟩⟩
          case round =>
            clear HQ2 eU2 eq2 er2 hqv2 hr2 hq24 hA' ek
            obtain ⟨q2, r2, rfl, rfl, hd0⟩ := hrel
            obtain ⟨hd, hr2, hq24⟩ := hd0.out
            clear hd0
            have HD : Hid (MathB.Dg u2 v1 v0 n0 q2 r2) := hd
            clear hd
            by_cases hA : 4294967296 ≤ q2
            · obtain ⟨p1, p2⟩ := MathB.dg_step HD.out c5 hu2Y' (Or.inl hA)
              have HD' : Hid (MathB.Dg u2 v1 v0 n0 (q2 - 1) (r2 + v1)) := p2
              have hA' : (4294967296 : Int) ≤ (q2 : Int) := by omega
              clear p2 hA
              by_cases hB : 4294967296 ≤ r2 + v1
              · have hB' : (4294967296 : Int) ≤ (r2 : Int) + (v1 : Int) := by omega
                have E2' : q2 - 1 = (u2 * 4294967296 + n0) / Y := by rw [GY.out]; exact MathB.dg_end HD'.out hu2Y' c3 (Or.inr hB)
                obtain ⟨k2, gk⟩ : ∃ k2, k2 = q2 - 1 := ⟨_, rfl⟩
                rw [← gk] at E2'
                have ek : (q2 : Int) - 1 = (k2 : Int) := by omega
                clear hB gk HD HD'
                have E2 : Hid (k2 = (u2 * 4294967296 + n0) / Y) := E2'
                have hfin := MathB.two_digits u n1 n0 Y k1 k2 (by omega) (E1.out) (by rw [← HU2.out]; exact E2.out)
                have hq2b : k2 < 4294967296 := by
                  rw [E2.out, GY.out]; exact MathB.dg_small u2 v1 v0 n0 c5 hu2Y'
                have R2 : Hid (u2 * 4294967296 + n0 = k2 * Y + (u2 * 4294967296 + n0) % Y) := by
                  show _ = _
                  have := Nat.div_add_mod (u2 * 4294967296 + n0) Y
                  rw [← E2.out, Nat.mul_comm] at this; exact this.symm
                have hR : (u2 * 4294967296 + n0) % Y < 18446744073709551616 := Nat.lt_trans (Nat.mod_lt _ (by omega)) hY64
                have eR := wrap_rem u2 n0 k2 Y _ R2.out hR
                obtain ⟨R, gR⟩ : ∃ R, R = (u2 * 4294967296 + n0) % Y := ⟨_, rfl⟩
                rw [← HU2.out] at hfin
                rw [← gR] at eR hfin
                have hX := FX.out
                rw [GN.out] at hX
                rw [← hX, FY.out] at hfin
                have hun := MathB.unshifted _ y s _ _ hfin.1 hfin.2
                have HUN : Hid ((hi * 18446744073709551616 + lo) / y = k1 * 4294967296 + k2 ∧ (hi * 18446744073709551616 + lo) % y = R / 2 ^ s) := hun
                clear hfin hun hX gR hR E2'
                go_wp2
                go_ret2
                refine ⟨ret2 ?_ ?_, rfl⟩
                · exact cast_quo HUN.out.1
                · exact cast_rem HUN.out.2
              · have hB' : decide ((4294967296 : Int) ≤ (r2 : Int) + (v1 : Int)) = false := by simp; omega
                have HBn : Hid (¬ 4294967296 ≤ r2 + v1) := hB
                clear hB
                go_wp2
                go_round
                case rel => exact ⟨q2 - 1, r2 + v1, by go_num, by go_num, ⟨HD'.out, by have := HBn.out; omega, by omega⟩⟩
                case measure => simp [intOf]; omega
            · have hvb := prod_leI2 q2 v0 (by omega) c3
              have hA' : decide ((4294967296 : Int) ≤ (q2 : Int)) = false := by simp; omega
              clear hA
              by_cases hC : 4294967296 * r2 + n0 < q2 * v0
              · obtain ⟨p1, p2⟩ := MathB.dg_step HD.out c5 hu2Y' (Or.inr hC)
                have HD' : Hid (MathB.Dg u2 v1 v0 n0 (q2 - 1) (r2 + v1)) := p2
                have hC' : 4294967296 * (r2 : Int) + (n0 : Int) < (q2 : Int) * (v0 : Int) := by rw [← Int.natCast_mul]; omega
                clear p2 hC
                by_cases hB : 4294967296 ≤ r2 + v1
                · have hB' : (4294967296 : Int) ≤ (r2 : Int) + (v1 : Int) := by omega
                  have E2' : q2 - 1 = (u2 * 4294967296 + n0) / Y := by rw [GY.out]; exact MathB.dg_end HD'.out hu2Y' c3 (Or.inr hB)
                  obtain ⟨k2, gk⟩ : ∃ k2, k2 = q2 - 1 := ⟨_, rfl⟩
                  rw [← gk] at E2'
                  have ek : (q2 : Int) - 1 = (k2 : Int) := by omega
                  clear hB gk HD HD'
                  have E2 : Hid (k2 = (u2 * 4294967296 + n0) / Y) := E2'
                  have hfin := MathB.two_digits u n1 n0 Y k1 k2 (by omega) (E1.out) (by rw [← HU2.out]; exact E2.out)
                  have hq2b : k2 < 4294967296 := by
                    rw [E2.out, GY.out]; exact MathB.dg_small u2 v1 v0 n0 c5 hu2Y'
                  have R2 : Hid (u2 * 4294967296 + n0 = k2 * Y + (u2 * 4294967296 + n0) % Y) := by
                    show _ = _
                    have := Nat.div_add_mod (u2 * 4294967296 + n0) Y
                    rw [← E2.out, Nat.mul_comm] at this; exact this.symm
                  have hR : (u2 * 4294967296 + n0) % Y < 18446744073709551616 := Nat.lt_trans (Nat.mod_lt _ (by omega)) hY64
                  have eR := wrap_rem u2 n0 k2 Y _ R2.out hR
                  obtain ⟨R, gR⟩ : ∃ R, R = (u2 * 4294967296 + n0) % Y := ⟨_, rfl⟩
                  rw [← HU2.out] at hfin
                  rw [← gR] at eR hfin
                  have hX := FX.out
                  rw [GN.out] at hX
                  rw [← hX, FY.out] at hfin
                  have hun := MathB.unshifted _ y s _ _ hfin.1 hfin.2
                  have HUN : Hid ((hi * 18446744073709551616 + lo) / y = k1 * 4294967296 + k2 ∧ (hi * 18446744073709551616 + lo) % y = R / 2 ^ s) := hun
                  clear hfin hun hX gR hR E2'
                  go_wp2
                  go_ret2
                  refine ⟨ret2 ?_ ?_, rfl⟩
                  · exact cast_quo HUN.out.1
                  · exact cast_rem HUN.out.2
                · have hB' : decide ((4294967296 : Int) ≤ (r2 : Int) + (v1 : Int)) = false := by simp; omega
                  have HBn : Hid (¬ 4294967296 ≤ r2 + v1) := hB
                  clear hB
                  go_wp2
                  go_round
                  case rel => exact ⟨q2 - 1, r2 + v1, by go_num, by go_num, ⟨HD'.out, by have := HBn.out; omega, by omega⟩⟩
                  case measure => simp [intOf]; omega
              · have hC' : decide (4294967296 * (r2 : Int) + (n0 : Int) < (q2 : Int) * (v0 : Int)) = false := by rw [← Int.natCast_mul]; simp only [decide_eq_false_iff_not]; omega
                have E2' : q2 = (u2 * 4294967296 + n0) / Y := by rw [GY.out]; exact MathB.dg_end HD.out hu2Y' c3 (Or.inl (by omega))
                obtain ⟨k2, rfl⟩ : ∃ k2, k2 = q2 := ⟨_, rfl⟩
                have ek : True := trivial
                clear hC HD
                have E2 : Hid (k2 = (u2 * 4294967296 + n0) / Y) := E2'
                have hfin := MathB.two_digits u n1 n0 Y k1 k2 (by omega) (E1.out) (by rw [← HU2.out]; exact E2.out)
                have hq2b : k2 < 4294967296 := by
                  rw [E2.out, GY.out]; exact MathB.dg_small u2 v1 v0 n0 c5 hu2Y'
                have R2 : Hid (u2 * 4294967296 + n0 = k2 * Y + (u2 * 4294967296 + n0) % Y) := by
                  show _ = _
                  have := Nat.div_add_mod (u2 * 4294967296 + n0) Y
                  rw [← E2.out, Nat.mul_comm] at this; exact this.symm
                have hR : (u2 * 4294967296 + n0) % Y < 18446744073709551616 := Nat.lt_trans (Nat.mod_lt _ (by omega)) hY64
                have eR := wrap_rem u2 n0 k2 Y _ R2.out hR
                obtain ⟨R, gR⟩ : ∃ R, R = (u2 * 4294967296 + n0) % Y := ⟨_, rfl⟩
                rw [← HU2.out] at hfin
                rw [← gR] at eR hfin
                have hX := FX.out
                rw [GN.out] at hX
                rw [← hX, FY.out] at hfin
                have hun := MathB.unshifted _ y s _ _ hfin.1 hfin.2
                have HUN : Hid ((hi * 18446744073709551616 + lo) / y = k1 * 4294967296 + k2 ∧ (hi * 18446744073709551616 + lo) % y = R / 2 ^ s) := hun
                clear hfin hun hX gR hR E2'
                go_wp2
                go_ret2
                refine ⟨ret2 ?_ ?_, rfl⟩
                · exact cast_quo HUN.out.1
                · exact cast_rem HUN.out.2
        · have hB' : decide ((4294967296 : Int) ≤ (r : Int) + (v1 : Int)) = false := by simp; omega
          have HBn : Hid (¬ 4294967296 ≤ r + v1) := hB
          clear hB
          go_wp2
          go_round
          case rel => exact ⟨q - 1, r + v1, by go_num, by go_num, ⟨HQ'.out, by have := HBn.out; omega, by omega⟩⟩
          case measure => simp [intOf]; omega
      · have hC' : decide (4294967296 * (r : Int) + (n1 : Int) < (q : Int) * (v0 : Int)) = false := by rw [← Int.natCast_mul]; simp only [decide_eq_false_iff_not]; omega
        have E1' : q = (u * 4294967296 + n1) / Y := by rw [GY.out]; exact MathB.dg_end HQ.out huY c3 (Or.inl (by omega))
        obtain ⟨k1, rfl⟩ : ∃ k1, k1 = q := ⟨_, rfl⟩
        have ek : True := trivial
        clear hC HQ
        have E1 : Hid (k1 = (u * 4294967296 + n1) / Y) := E1'
        have hq1b : k1 < 4294967296 := by
          rw [E1.out, GY.out]; exact MathB.dg_small u v1 v0 n1 c4 huY
        obtain ⟨u2, gu2⟩ : ∃ u2, u2 = (u * 4294967296 + n1) % Y := ⟨_, rfl⟩
        have HU2 : Hid (u2 = (u * 4294967296 + n1) % Y) := gu2
        have hu2Y : u2 < Y := by rw [gu2]; exact Nat.mod_lt _ (by omega)
        have hu2Y' : u2 < v1 * 4294967296 + v0 := by rw [← GY.out]; exact hu2Y
        have R1 : u * 4294967296 + n1 = k1 * Y + u2 := by
          have := Nat.div_add_mod (u * 4294967296 + n1) Y
          rw [← E1.out, Nat.mul_comm, ← gu2] at this; exact this.symm
        have eU2 := wrap_rem u n1 k1 Y u2 R1 (by omega)
        have hd2 := MathB.dg_start u2 v1 v0 n0 (by omega) c5
        have hr2 : u2 % v1 < v1 := Nat.mod_lt _ (by omega)
        have hq24 : u2 / v1 ≤ 8589934592 := by
          rw [Nat.div_le_iff_le_mul_add_pred (by omega)]
          have : 2147483648 * 8589934592 ≤ v1 * 8589934592 := Nat.mul_le_mul_right _ c1
          omega
        have eq2 : (u2 : Int) / (v1 : Int) = ((u2 / v1 : Nat) : Int) := (Int.natCast_ediv ..).symm
        obtain ⟨q2, gq2⟩ : ∃ q2, q2 = u2 / v1 := ⟨_, rfl⟩
        obtain ⟨r2, gr2⟩ : ∃ r2, r2 = u2 % v1 := ⟨_, rfl⟩
        rw [← gq2] at hd2 hq24 eq2
        rw [← gr2] at hd2 hr2
        have hlin2 : (q2 : Int) * (v1 : Int) + (r2 : Int) = (u2 : Int) := by have := hd2.lin; rw [← this]; simp
        have er2 : (u2 : Int) - (q2 : Int) * (v1 : Int) = (r2 : Int) := by omega
        have hqv2 : 0 ≤ (q2 : Int) * (v1 : Int) ∧ (q2 : Int) * (v1 : Int) ≤ 18446744073709551615 := by
          rw [← Int.natCast_mul] at hlin2 ⊢; omega
        have HQ2 : Hid (MathB.Dg u2 v1 v0 n0 q2 r2) := hd2
        clear hd2 gq2 gr2 hlin2 gu2 R1 E1'
        go_wp2
        go_loop [18, 16] (fun a b => ∃ q r : Nat, a = .int .u64 q ∧ b = .int .u64 r ∧ Hid (MathB.Dg u2 v1 v0 n0 q r ∧ r < 4294967296 ∧ q ≤ 8589934592)) (fun a _ => (intOf a).toNat)
        case atStart => exact ⟨q2, r2, rfl, rfl, ⟨HQ2.out, by omega, hq24⟩⟩
        case round =>
          clear HQ2 eU2 eq2 er2 hqv2 hr2 hq24 hA' ek
          obtain ⟨q2, r2, rfl, rfl, hd0⟩ := hrel
          obtain ⟨hd, hr2, hq24⟩ := hd0.out
          clear hd0
          have HD : Hid (MathB.Dg u2 v1 v0 n0 q2 r2) := hd
          clear hd
          by_cases hA : 4294967296 ≤ q2
          · obtain ⟨p1, p2⟩ := MathB.dg_step HD.out c5 hu2Y' (Or.inl hA)
            have HD' : Hid (MathB.Dg u2 v1 v0 n0 (q2 - 1) (r2 + v1)) := p2
            have hA' : (4294967296 : Int) ≤ (q2 : Int) := by omega
            clear p2 hA
            by_cases hB : 4294967296 ≤ r2 + v1
            · have hB' : (4294967296 : Int) ≤ (r2 : Int) + (v1 : Int) := by omega
              have E2' : q2 - 1 = (u2 * 4294967296 + n0) / Y := by rw [GY.out]; exact MathB.dg_end HD'.out hu2Y' c3 (Or.inr hB)
              obtain ⟨k2, gk⟩ : ∃ k2, k2 = q2 - 1 := ⟨_, rfl⟩
              rw [← gk] at E2'
              have ek : (q2 : Int) - 1 = (k2 : Int) := by omega
              clear hB gk HD HD'
              have E2 : Hid (k2 = (u2 * 4294967296 + n0) / Y) := E2'
              have hfin := MathB.two_digits u n1 n0 Y k1 k2 (by omega) (E1.out) (by rw [← HU2.out]; exact E2.out)
              have hq2b : k2 < 4294967296 := by
                rw [E2.out, GY.out]; exact MathB.dg_small u2 v1 v0 n0 c5 hu2Y'
              have R2 : Hid (u2 * 4294967296 + n0 = k2 * Y + (u2 * 4294967296 + n0) % Y) := by
                show _ = _
                have := Nat.div_add_mod (u2 * 4294967296 + n0) Y
                rw [← E2.out, Nat.mul_comm] at this; exact this.symm
              have hR : (u2 * 4294967296 + n0) % Y < 18446744073709551616 := Nat.lt_trans (Nat.mod_lt _ (by omega)) hY64
              have eR := wrap_rem u2 n0 k2 Y _ R2.out hR
              obtain ⟨R, gR⟩ : ∃ R, R = (u2 * 4294967296 + n0) % Y := ⟨_, rfl⟩
              rw [← HU2.out] at hfin
              rw [← gR] at eR hfin
              have hX := FX.out
              rw [GN.out] at hX
              rw [← hX, FY.out] at hfin
              have hun := MathB.unshifted _ y s _ _ hfin.1 hfin.2
              have HUN : Hid ((hi * 18446744073709551616 + lo) / y = k1 * 4294967296 + k2 ∧ (hi * 18446744073709551616 + lo) % y = R / 2 ^ s) := hun
              clear hfin hun hX gR hR E2'
              go_wp2
              go_ret2
              refine ⟨ret2 ?_ ?_, rfl⟩
              · exact cast_quo HUN.out.1
              · exact cast_rem HUN.out.2
            · have hB' : decide ((4294967296 : Int) ≤ (r2 : Int) + (v1 : Int)) = false := by simp; omega
              have HBn : Hid (¬ 4294967296 ≤ r2 + v1) := hB
              clear hB
              go_wp2
              go_round
              case rel => exact ⟨q2 - 1, r2 + v1, by go_num, by go_num, ⟨HD'.out, by have := HBn.out; omega, by omega⟩⟩
              case measure => simp [intOf]; omega
          · have hvb := prod_leI2 q2 v0 (by omega) c3
            have hA' : decide ((4294967296 : Int) ≤ (q2 : Int)) = false := by simp; omega
            clear hA
            by_cases hC : 4294967296 * r2 + n0 < q2 * v0
            · obtain ⟨p1, p2⟩ := MathB.dg_step HD.out c5 hu2Y' (Or.inr hC)
              have HD' : Hid (MathB.Dg u2 v1 v0 n0 (q2 - 1) (r2 + v1)) := p2
              have hC' : 4294967296 * (r2 : Int) + (n0 : Int) < (q2 : Int) * (v0 : Int) := by rw [← Int.natCast_mul]; omega
              clear p2 hC
              by_cases hB : 4294967296 ≤ r2 + v1
              · have hB' : (4294967296 : Int) ≤ (r2 : Int) + (v1 : Int) := by omega
                have E2' : q2 - 1 = (u2 * 4294967296 + n0) / Y := by rw [GY.out]; exact MathB.dg_end HD'.out hu2Y' c3 (Or.inr hB)
                obtain ⟨k2, gk⟩ : ∃ k2, k2 = q2 - 1 := ⟨_, rfl⟩
                rw [← gk] at E2'
                have ek : (q2 : Int) - 1 = (k2 : Int) := by omega
                clear hB gk HD HD'
                have E2 : Hid (k2 = (u2 * 4294967296 + n0) / Y) := E2'
                have hfin := MathB.two_digits u n1 n0 Y k1 k2 (by omega) (E1.out) (by rw [← HU2.out]; exact E2.out)
                have hq2b : k2 < 4294967296 := by
                  rw [E2.out, GY.out]; exact MathB.dg_small u2 v1 v0 n0 c5 hu2Y'
                have R2 : Hid (u2 * 4294967296 + n0 = k2 * Y + (u2 * 4294967296 + n0) % Y) := by
                  show _ = _
                  have := Nat.div_add_mod (u2 * 4294967296 + n0) Y
                  rw [← E2.out, Nat.mul_comm] at this; exact this.symm
                have hR : (u2 * 4294967296 + n0) % Y < 18446744073709551616 := Nat.lt_trans (Nat.mod_lt _ (by omega)) hY64
                have eR := wrap_rem u2 n0 k2 Y _ R2.out hR
                obtain ⟨R, gR⟩ : ∃ R, R = (u2 * 4294967296 + n0) % Y := ⟨_, rfl⟩
                rw [← HU2.out] at hfin
                rw [← gR] at eR hfin
                have hX := FX.out
                rw [GN.out] at hX
                rw [← hX, FY.out] at hfin
                have hun := MathB.unshifted _ y s _ _ hfin.1 hfin.2
                have HUN : Hid ((hi * 18446744073709551616 + lo) / y = k1 * 4294967296 + k2 ∧ (hi * 18446744073709551616 + lo) % y = R / 2 ^ s) := hun
                clear hfin hun hX gR hR E2'
                go_wp2
                go_ret2
                refine ⟨ret2 ?_ ?_, rfl⟩
                · exact cast_quo HUN.out.1
                · exact cast_rem HUN.out.2
              · have hB' : decide ((4294967296 : Int) ≤ (r2 : Int) + (v1 : Int)) = false := by simp; omega
                have HBn : Hid (¬ 4294967296 ≤ r2 + v1) := hB
                clear hB
                go_wp2
                go_round
                case rel => exact ⟨q2 - 1, r2 + v1, by go_num, by go_num, ⟨HD'.out, by have := HBn.out; omega, by omega⟩⟩
                case measure => simp [intOf]; omega
            · have hC' : decide (4294967296 * (r2 : Int) + (n0 : Int) < (q2 : Int) * (v0 : Int)) = false := by rw [← Int.natCast_mul]; simp only [decide_eq_false_iff_not]; omega
              have E2' : q2 = (u2 * 4294967296 + n0) / Y := by rw [GY.out]; exact MathB.dg_end HD.out hu2Y' c3 (Or.inl (by omega))
              obtain ⟨k2, rfl⟩ : ∃ k2, k2 = q2 := ⟨_, rfl⟩
              have ek : True := trivial
              clear hC HD
              have E2 : Hid (k2 = (u2 * 4294967296 + n0) / Y) := E2'
              have hfin := MathB.two_digits u n1 n0 Y k1 k2 (by omega) (E1.out) (by rw [← HU2.out]; exact E2.out)
              have hq2b : k2 < 4294967296 := by
                rw [E2.out, GY.out]; exact MathB.dg_small u2 v1 v0 n0 c5 hu2Y'
              have R2 : Hid (u2 * 4294967296 + n0 = k2 * Y + (u2 * 4294967296 + n0) % Y) := by
                show _ = _
                have := Nat.div_add_mod (u2 * 4294967296 + n0) Y
                rw [← E2.out, Nat.mul_comm] at this; exact this.symm
              have hR : (u2 * 4294967296 + n0) % Y < 18446744073709551616 := Nat.lt_trans (Nat.mod_lt _ (by omega)) hY64
              have eR := wrap_rem u2 n0 k2 Y _ R2.out hR
              obtain ⟨R, gR⟩ : ∃ R, R = (u2 * 4294967296 + n0) % Y := ⟨_, rfl⟩
              rw [← HU2.out] at hfin
              rw [← gR] at eR hfin
              have hX := FX.out
              rw [GN.out] at hX
              rw [← hX, FY.out] at hfin
              have hun := MathB.unshifted _ y s _ _ hfin.1 hfin.2
              have HUN : Hid ((hi * 18446744073709551616 + lo) / y = k1 * 4294967296 + k2 ∧ (hi * 18446744073709551616 + lo) % y = R / 2 ^ s) := hun
              clear hfin hun hX gR hR E2'
              go_wp2
              go_ret2
              refine ⟨ret2 ?_ ?_, rfl⟩
              · exact cast_quo HUN.out.1
              · exact cast_rem HUN.out.2
theorem Rem64_any (hi lo y : Nat) (w : World) (hh : hi < 18446744073709551616) (hl : lo < 18446744073709551616) (hy : y < 18446744073709551616) (h : 0 < y) :
    Calls Tryz.prog 181 #[.int .u64 hi, .int .u64 lo, .int .u64 y] w fun e w' => e = .returned (.int .u64 (((hi * 18446744073709551616 + lo) % y : Nat) : Int)) ∧ ∃ n, w' = w.drewN n := by
  have hm : hi % y < y := Nat.mod_lt _ h
  have em : (hi : Int) % (y : Int) = ((hi % y : Nat) : Int) := (Int.natCast_emod ..).symm
  have HE : Hid ((hi % y * 18446744073709551616 + lo) % y = (hi * 18446744073709551616 + lo) % y) := by
    show _ = _
    rw [Nat.add_mod, Nat.mod_mul_mod, ← Nat.add_mod]
  obtain ⟨g, gg⟩ : ∃ g, g = hi % y := ⟨_, rfl⟩
  rw [← gg] at hm em
  have HG : Hid (g = hi % y) := gg
  clear gg
  obtain ⟨R, gR⟩ : ∃ R, R = (hi * 18446744073709551616 + lo) % y := ⟨_, rfl⟩
  rw [← gR]
  have HR : Hid ((g * 18446744073709551616 + lo) % y = R) := by show _ = _; rw [HG.out, HE.out, gR]
  clear gR HE
  have t1 : ((y : Int) == 0) = false := beq_eq_false_iff_ne.2 (by omega)
  have b1 : (hi : Int) ≤ 18446744073709551615 := by omega
  have b2 : (y : Int) ≤ 18446744073709551615 := by omega
  by_cases h0 : g = 0
  · subst h0
    go_enter Tryz.func181, Tryz.ntmps181
    go_wp2_with fail
    refine (Div64_low lo y _ hl hy h).mono ?_
    have e0 : lo % y = R := by have := HR.out; simpa using this
    rw [e0]
    rintro e w1 ⟨rfl, n, rfl⟩
    go_wp2
    go_ret
    exact ⟨rfl, n, rfl⟩
  · go_enter Tryz.func181, Tryz.ntmps181
    go_wp2_with fail
    refine (Div64_high g lo y _ hl hy (by omega) hm).mono ?_
    rw [HR.out]
    rintro e w1 ⟨rfl, rfl⟩
    go_wp2
    go_ret
    exact ⟨rfl, 0, rfl⟩
theorem productLeft_any (a b m : Nat) (w : World) (ha : a < m) (hb : b < m) (hm : m ≤ 1000000000000000000) :
    Calls Tryz.prog 171 #[.int .i64 a, .int .i64 b, .int .i64 m] w fun e w' => e = .returned (.int .i64 ((a * b % m : Nat) : Int)) ∧ ∃ n, w' = w.drewN n := by
  have HE : Hid ((a * b / 18446744073709551616 * 18446744073709551616 + a * b % 18446744073709551616) % m = a * b % m) := by
    show _ = _
    rw [Nat.mul_comm, Nat.div_add_mod]
  have hq : a * b / 18446744073709551616 < 18446744073709551616 := by
    rw [Nat.div_lt_iff_lt_mul (by omega)]
    have := Nat.mul_lt_mul'' (show a < 1000000000000000000 by omega) (show b < 1000000000000000000 by omega)
    omega
  have hr : a * b % 18446744073709551616 < 18446744073709551616 := Nat.mod_lt _ (by omega)
  have hR : a * b % m < m := Nat.mod_lt _ (by omega)
  obtain ⟨R, gR⟩ : ∃ R, R = a * b % m := ⟨_, rfl⟩
  rw [← gR] at hR ⊢
  have HR : Hid ((a * b / 18446744073709551616 * 18446744073709551616 + a * b % 18446744073709551616) % m = R) := by show _ = _; rw [HE.out, gR]
  clear HE gR
  go_enter Tryz.func171, Tryz.ntmps171
  go_wp2_with fail
  refine (Mul64_any a b (by omega) (by omega) _).mono ?_
  obtain ⟨H, gH⟩ : ∃ H, H = a * b / 18446744073709551616 := ⟨_, rfl⟩
  obtain ⟨L, gL⟩ : ∃ L, L = a * b % 18446744073709551616 := ⟨_, rfl⟩
  rw [← gH] at hq HR ⊢
  rw [← gL] at hr HR ⊢
  clear gH gL
  rintro e w1 ⟨rfl, rfl⟩
  go_wp2_with fail
  refine (Rem64_any H L m _ hq hr (by omega) (by omega)).mono ?_
  rw [HR.out]
  rintro e w1 ⟨rfl, n, rfl⟩
  go_wp2
  go_ret
  exact ⟨rfl, n, rfl⟩
end Go.Proofs.YtcnfhndejkngkaaGreatDoor
