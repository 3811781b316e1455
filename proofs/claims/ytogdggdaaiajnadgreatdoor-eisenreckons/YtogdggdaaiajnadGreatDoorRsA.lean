/- math/bits.TrailingZeros64, residue.symbol and residue.Jacobi. -/
import Derived.Test.YtogdggdaaiajnadGreatDoorWholeE
import Derived.Test.YtogdggdaaiajnadGreatDoorSv
import Derived.Test.YtogdggdaaiajnadGreatDoorMathH
import Derived.Shelf.Spec.TrailingZeros
set_option linter.unusedSimpArgs false
set_option linter.unusedVariables false
set_option maxRecDepth 100000
namespace Go.Proofs.YtogdggdaaiajnadGreatDoor
open Go.RowKit

/-- The table of package math/bits is in memory. -/
def Tb (w : World) : Prop := TabAt 2 Lib.deBruijn64tab w
theorem Tb.lt {w : World} (h : Tb w) : 2 < w.heap.size := by
  rcases Nat.lt_or_ge 2 w.heap.size with k | k
  · exact k
  · have h1 := h 0 (by decide)
    simp only [World.cell?, Array.getElem?_eq_none k] at h1; cases h1
theorem Tb.below {w w' : World} (h : Tb w) (k : Below w.heap.size w w') : Tb w' := fun j hj => (k.cell (p := ⟨2, j, none⟩) h.lt).trans (h j hj)
theorem Tb.alloc {w : World} (h : Tb w) (o : Obj) : Tb (w.alloc o) := h.below (Below.alloc (Below.refl _ _) (Nat.le_refl _) _)
theorem Tb.upto {B : Nat} {w w' : World} (h : Tb w) (k : Below B w w') (hB : w.heap.size ≤ B) : Tb w' := h.below (k.mono hB)

set_option maxHeartbeats 1000000 in
theorem tz_core (x k idx : Nat) (w : World) (hx0 : ((x : Int) == 0) = false)
    (key : IntKind.u64.wrap (bits BinOp.and IntKind.u64 (x : Int) (IntKind.u64.wrap (-(x : Int))) * 285870213051353865) / 288230376151711744 = (idx : Int))
    (hi : idx < 64) (hk : k < 64) (hcell : w.cell? ⟨2, idx, none⟩ = some (.int .u8 k)) :
    Calls Tryz.prog 173 #[.int .u64 x] w fun e w' => e = .returned (.int .i64 k) ∧ w' = w := by
  go_enter Tryz.func173, Tryz.ntmps173
  go_wp2_with (simp only [key])
  go_ret
  exact ⟨rfl, rfl⟩

/-- x is 2 so often, times an odd number. -/
theorem tz_any (x : Nat) (hx : x < 18446744073709551616) (h0 : x ≠ 0) :
    ∃ t b : Nat, x = 2 ^ t * b ∧ b % 2 = 1 ∧ t < 64 ∧ ∀ w, Tb w → Calls Tryz.prog 173 #[.int .u64 x] w fun e w' => e = .returned (.int .i64 t) ∧ w' = w := by
  obtain ⟨hlow, hk⟩ := Lib.lowest_bit 64 x h0 hx
  obtain ⟨m, hm, hk2⟩ := Lib.ctzFrom_spec 64 x (by omega) hx
  have e : Lib.ctz 64 x = Lib.ctzFrom 64 x := by simp [Lib.ctz, h0]
  refine ⟨Lib.ctz 64 x, 2 * m + 1, by rw [e]; exact hm, by omega, hk, fun w hT => ?_⟩
  obtain ⟨hi, htab⟩ := Lib.deBruijn64_at _ hk
  have hcell := hT _ hi
  rw [htab] at hcell
  exact tz_core x _ _ w (by simp; omega) (tz64_key x _ hx h0 hlow) hi hk hcell

/-- One round: out with all 2, and turned round. -/
theorem jac_round {a n t b : Nat} {z J : Int} (h : a = 2 ^ t * b) (hb : b % 2 = 1) (hz : z * jac a n = J) :
    (if b % 4 = 3 ∧ n % 4 = 3 then -(if t % 2 = 1 ∧ (n % 8 = 3 ∨ n % 8 = 5) then -z else z) else (if t % 2 = 1 ∧ (n % 8 = 3 ∨ n % 8 = 5) then -z else z)) * jac (n % b) b = J := by
  rw [h, jac_out t b n (by omega), jac_odd b n hb] at hz
  rw [← hz]
  have e1 : twoS n ^ t = if t % 2 = 1 ∧ (n % 8 = 3 ∨ n % 8 = 5) then -1 else 1 := by
    unfold twoS
    by_cases h8 : n % 8 = 3 ∨ n % 8 = 5
    · rw [if_pos h8]
      rcases Nat.mod_two_eq_zero_or_one t with h2 | h2
      · rw [if_neg (by omega)]
        obtain ⟨k, rfl⟩ : ∃ k, t = 2 * k := ⟨t / 2, by omega⟩
        rw [Int.pow_mul]; simp [Int.one_pow]
      · rw [if_pos ⟨h2, h8⟩]
        obtain ⟨k, rfl⟩ : ∃ k, t = 2 * k + 1 := ⟨t / 2, by omega⟩
        rw [Int.pow_succ, Int.pow_mul]; simp [Int.one_pow]
    · rw [if_neg h8, if_neg (by omega), Int.one_pow]
  rw [e1]
  unfold sgnS
  split <;> split <;> grind

set_option maxHeartbeats 4000000 in
theorem symbol_any (a0 : Int) (n0 : Nat) (w : World) (ha : a0.natAbs ≤ 4000000000000000000) (hn : n0 % 2 = 1) (hn2 : n0 ≤ 1000000000000000000) (hT : Tb w) :
    Calls Tryz.prog 189 #[.int .i64 a0, .int .i64 n0] w fun e w' => e = .returned (.int .i64 (jac (a0 % n0).toNat n0)) ∧ w' = w := by
  obtain ⟨J, hJ⟩ : ∃ J, J = jac (a0 % n0).toNat n0 := ⟨_, rfl⟩
  rw [← hJ]
  have hn1 : 1 ≤ n0 := by omega
  have hmod : 0 ≤ a0 % (n0 : Int) ∧ a0 % (n0 : Int) < n0 := ⟨Int.emod_nonneg _ (by omega), Int.emod_lt_of_pos _ (by omega)⟩
  obtain ⟨r, hr⟩ : ∃ r : Nat, r = (a0 % (n0 : Int)).toNat := ⟨_, rfl⟩
  have HR : Hid (a0 % n0 = (r : Int)) := by show _ = _; omega
  have hrn : r < n0 := by omega
  rw [← hr] at hJ
  have HJ : Hid (J = jac r n0) := hJ
  have HN : Hid (n0 % 2 = 1) := hn
  have HT : Hid (Tb w) := hT
  clear hmod hr hJ hn hT
  go_enter Tryz.func189, Tryz.ntmps189
  go_wp2_with fail
  refine (left_any a0 n0 w ha (by omega) (by omega)).mono ?_
  rintro e w1 ⟨rfl, rfl⟩
  rw [HR.out]
  clear HR ha
  go_wp2
  go_loopw [0, 1, 5] (fun av nv sv wx => ∃ (a n : Nat) (s : Int), av = .int .i64 a ∧ nv = .int .i64 n ∧ sv = .int .i64 s ∧ a ≤ 1000000000000000000 ∧ 1 ≤ n ∧ n ≤ 1000000000000000000 ∧ -1 ≤ s ∧ s ≤ 1 ∧ Hid (n % 2 = 1 ∧ (s = 1 ∨ s = -1) ∧ s * jac a n = J ∧ wx = w1)) (fun av _ _ _ => (intOf av).toNat)
  case atStart => exact ⟨r, n0, 1, rfl, rfl, rfl, by omega, hn1, hn2, by omega, by omega, HN.out, .inl rfl, by rw [HJ.out]; omega, rfl⟩
  case round =>
    obtain ⟨a, n, s, rfl, rfl, rfl, ha, hn3, hn4, hs1, hs2, HE⟩ := hrel
    obtain ⟨e1, e2, e3, e4⟩ := HE.out
    subst e4
    have HNo : Hid (n % 2 = 1) := e1
    have HS : Hid (s = 1 ∨ s = -1) := e2
    have HV : Hid (s * jac a n = J) := e3
    clear e1 e2 e3 HE HJ HN
    by_cases ha0 : a = 0
    · have hane : ((a : Int) != 0) = false := by simp; omega
      have hj0 := jac_zero n
      rw [← ha0] at hj0
      by_cases h1 : n = 1
      · have hgt : decide ((1 : Int) < (n : Int)) = false := decide_eq_false (by omega)
        have hJs : J = s := by rw [← HV.out, hj0, if_pos h1]; omega
        have HJs : Hid (J = s) := hJs
        clear h1 hj0 hJs ha0
        go_wp2
        go_ret
        exact ⟨by rw [HJs.out]; rfl, rfl⟩
      · have hgt : decide ((1 : Int) < (n : Int)) = true := decide_eq_true (by omega)
        have hJs : J = 0 := by rw [← HV.out, hj0, if_neg h1]; omega
        have HJs : Hid (J = 0) := hJs
        clear h1 hj0 hJs ha0
        go_wp2
        go_ret
        exact ⟨by rw [HJs.out]; rfl, rfl⟩
    · have hane : ((a : Int) != 0) = true := by simp; omega
      obtain ⟨t, b, hab, hb2, ht, hc⟩ := tz_any a (by omega) ha0
      have HC : Hid (∀ w, Tb w → Calls Tryz.prog 173 #[.int .u64 a] w fun e w' => e = .returned (.int .i64 t) ∧ w' = w) := hc
      have HST := jac_round hab hb2 HV.out
      have hb1 : 1 ≤ b := by omega
      have hbl : b ≤ a := by rw [hab]; exact Nat.le_mul_of_pos_left _ (Nat.pow_pos (by omega))
      have hsh : a / 2 ^ t = b := by rw [hab]; exact Nat.mul_div_cancel_left _ (Nat.pow_pos (by omega))
      have HSH : Hid (a / 2 ^ t = b) := hsh
      have HB2 : Hid (b % 2 = 1) := hb2
      clear hab hb2 hc hsh ha0
      have hdv : (a : Int) / 2 ^ t = (b : Int) := by have := HSH.out; rw [← this]; simp
      have HD : Hid ((n : Int).tmod (b : Int) = ((n % b : Nat) : Int) ∧ (n : Int) % (b : Int) = ((n % b : Nat) : Int)) := ⟨by rw [Int.tmod_eq_emod_of_nonneg (by omega), Int.natCast_emod], by rw [Int.natCast_emod]⟩
      have hb0 : ((b : Int) == 0) = false := beq_eq_false_iff_ne.2 (by omega)
      have hml : n % b < b := Nat.mod_lt _ (by omega)
      obtain ⟨c, hcc⟩ : ∃ c, c = n % b := ⟨_, rfl⟩
      rw [← hcc] at HST HD hml
      obtain ⟨hmd, hmd2⟩ := HD.out
      clear hcc HD
      have h8 : n % 8 = 1 ∨ n % 8 = 3 ∨ n % 8 = 5 ∨ n % 8 = 7 := by have := HNo.out; omega
      have h4 : b % 4 = 1 ∨ b % 4 = 3 := by have := HB2.out; omega
      have h2 : t % 2 = 0 ∨ t % 2 = 1 := by omega
      rcases h8 with h8 | h8 | h8 | h8 <;> rcases h4 with h4 | h4 <;> rcases h2 with h2 | h2
      all_goals
        have h84 : n % 4 = (n % 8) % 4 := by omega
        rw [h84, h8, h4, h2] at HST
        first | have d1 : (((n : Int) % 8) == 3) = true := beq_iff_eq.2 (by omega) | have d1 : (((n : Int) % 8) == 3) = false := beq_eq_false_iff_ne.2 (by omega)
        first | have d2 : (((n : Int) % 8) == 5) = true := beq_iff_eq.2 (by omega) | have d2 : (((n : Int) % 8) == 5) = false := beq_eq_false_iff_ne.2 (by omega)
        first | have d3 : (((b : Int) % 4) == 3) = true := beq_iff_eq.2 (by omega) | have d3 : (((b : Int) % 4) == 3) = false := beq_eq_false_iff_ne.2 (by omega)
        first | have d4 : (((t : Int) % 2) == 1) = true := beq_iff_eq.2 (by omega) | have d4 : (((t : Int) % 2) == 1) = false := beq_eq_false_iff_ne.2 (by omega)
        first | have d5 : (((n : Int) % 4) == 3) = true := beq_iff_eq.2 (by omega) | have d5 : (((n : Int) % 4) == 3) = false := beq_eq_false_iff_ne.2 (by omega)
        simp at HST
        have HV2 : Hid (_ = J) := HST
        clear HST h8 h4 h2 h84
        go_wp2_with fail
        refine (HC.out _ HT.out).mono ?_
        rintro e w' ⟨rfl, rfl⟩
        go_wp2
        go_roundw
        case rel => exact ⟨c, b, _, by first | rfl | (rw [hmd]), rfl, rfl, by omega, by omega, by omega, by omega, by omega, HB2.out, by have := HS.out; omega, by have := HV2.out; first | exact this | (rw [Int.neg_neg]; exact this), by first | rfl | trivial⟩
        case measure => simp [intOf] <;> omega

end Go.Proofs.YtogdggdaaiajnadGreatDoor
