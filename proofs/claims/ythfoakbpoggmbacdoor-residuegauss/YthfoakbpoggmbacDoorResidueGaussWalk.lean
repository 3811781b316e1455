/- The law ResidueGauss, of whatever Jacobi answers what 'jac' says. -/
import Derived.Test.YthfoakbpoggmbacDoorWholeD
import Derived.Test.YthfoakbpoggmbacDoorSv
import Derived.Test.YthfoakbpoggmbacDoorMathH
import Derived.Test.YthfoakbpoggmbacDoorRsA
set_option linter.unusedSimpArgs false
set_option linter.unusedVariables false
set_option maxRecDepth 100000
namespace Go.Proofs.YthfoakbpoggmbacDoor
open Go.RowKit

/-- What is asked of the example. -/
def ResBegun : Prop := ∀ w : World, Tb w → Calls Tryd.prog 4 #[] w fun e w' => e = .returned (.bool true) ∧ Below w.heap.size w w'
set_option maxHeartbeats 4000000 in
theorem rg_bad (begun : ResBegun) (m n : Int) (w : World) (h : m < 1 ∨ n < 1 ∨ m % 2 = 0 ∨ n % 2 = 0 ∨ numB m = false ∨ numB n = false) (hT : Tb w) :
    Calls Tryd.prog 3 #[.int .i64 m, .int .i64 n] w fun e w' => e = .returned (.bool true) ∧ Below w.heap.size w w' := by
  have HB : Hid (Calls Tryd.prog 4 #[] w fun e w' => e = .returned (.bool true) ∧ Below w.heap.size w w') := begun w hT
  clear begun hT
  by_cases h1 : m < 1
  · have b1 : decide (m < 1) = true := decide_eq_true h1
    clear h h1
    go_enter Tryd.func3, Tryd.ntmps3
    go_wp2_with fail
    refine HB.out.mono ?_
    rintro e w1 ⟨rfl, k1⟩
    have K1 : Hid (Below w.heap.size w w1) := k1
    clear k1
    go_wp2
    go_ret
    exact ⟨rfl, K1.out⟩
  · have b1 : decide (m < 1) = false := decide_eq_false h1
    by_cases h2 : n < 1
    · have b2 : decide (n < 1) = true := decide_eq_true h2
      clear h h2
      go_enter Tryd.func3, Tryd.ntmps3
      go_wp2_with fail
      refine HB.out.mono ?_
      rintro e w1 ⟨rfl, k1⟩
      have K1 : Hid (Below w.heap.size w w1) := k1
      clear k1
      go_wp2
      go_ret
      exact ⟨rfl, K1.out⟩
    · have b2 : decide (n < 1) = false := decide_eq_false h2
      have hm1 : 1 ≤ m := by omega
      have hn1 : 1 ≤ n := by omega
      obtain ⟨p3, e3⟩ : ∃ p, ((m % 2) == 0) = p := ⟨_, rfl⟩
      obtain ⟨p4, e4⟩ : ∃ p, ((n % 2) == 0) = p := ⟨_, rfl⟩
      obtain ⟨p5, e5⟩ : ∃ p, numB m = p := ⟨_, rfl⟩
      obtain ⟨p6, e6⟩ : ∃ p, numB n = p := ⟨_, rfl⟩
      have hor : p3 = true ∨ (p3 = false ∧ p4 = true) ∨ (p3 = false ∧ p4 = false ∧ p5 = false) ∨ (p3 = false ∧ p4 = false ∧ p5 = true ∧ p6 = false) := by
        have h3 : p3 = true ∨ p4 = true ∨ p5 = false ∨ p6 = false := by
          rcases h with h | h | h | h | h | h
          · omega
          · omega
          · left; rw [← e3, h]; rfl
          · right; left; rw [← e4, h]; rfl
          · right; right; left; rw [← e5]; exact h
          · right; right; right; rw [← e6]; exact h
        cases p3 <;> cases p4 <;> cases p5 <;> cases p6 <;> simp_all
      clear h h1 h2
      rcases hor with rfl | ⟨rfl, rfl⟩ | ⟨rfl, rfl, rfl⟩ | ⟨rfl, rfl, rfl, rfl⟩
      all_goals
        go_enter Tryd.func3, Tryd.ntmps3
        go_wp2_with fail
        refine HB.out.mono ?_
        rintro e w1 ⟨rfl, k1⟩
        have K1 : Hid (Below w.heap.size w w1) := k1
        clear k1
        go_wp2_with (go_at_call 5; refine (number_any _ _).mono ?_; rintro e w' ⟨rfl, rfl⟩; simp only [e5, e6])
        go_ret
        exact ⟨rfl, K1.out⟩

theorem sv_fault (x : World) (t : TypeId) (c d : Int) : Sv x.heap.size c d (x.alloc (.cells #[.int .i64 c, .int .i64 d] t)) :=
  ⟨by rw [cell_new_at _ _ _ _ _ rfl]; rfl, by rw [cell_new_at _ _ _ _ _ rfl]; rfl, frozen_new_at _ _ _ _ _ rfl, frozen_new_at _ _ _ _ _ rfl, by simp⟩
theorem sv_then {b : Nat} {c d : Int} {w w' : World} (h : Sv b c d w) (k : Below w.heap.size w w') (o : Obj) : Sv b c d (w'.alloc o) := (h.below k).below (Below.alloc (Below.refl _ _) (Nat.le_refl _) _)

theorem jac_arg (m n : Nat) : ((m : Int) % (n : Int)).toNat = m % n := by
  rw [← Int.natCast_emod, Int.toNat_natCast]
theorem jac_less_arg (n : Nat) (h : 1 ≤ n) : ((-1 : Int) % (n : Int)).toNat = n - 1 := by
  have h1 : (-1 : Int) % (n : Int) = (n : Int) - 1 := by
    rw [← Int.add_emod_right, Int.emod_eq_of_lt (by omega) (by omega)]; omega
  rw [h1]; omega

set_option maxHeartbeats 8000000 in
theorem rg_ok (begun : ResBegun) (hj : JacIs) (m n : Nat) (w : World) (hm : m % 2 = 1) (hn : n % 2 = 1) (hm2 : m ≤ 1000000000000000000) (hn2 : n ≤ 1000000000000000000) (hT : Tb w) :
    Calls Tryd.prog 3 #[.int .i64 m, .int .i64 n] w fun e w' => e = .returned (.bool true) ∧ Below w.heap.size w w' := by
  have HB : Hid (Calls Tryd.prog 4 #[] w fun e w' => e = .returned (.bool true) ∧ Below w.heap.size w w') := begun w hT
  have HTb : Hid (Tb w) := hT
  have HJ1 : Hid (∀ w, Tb w → Calls Tryd.prog 6 #[.int .i64 m, .int .i64 n] w fun e w' => e = .returned (.tuple #[.int .i64 (jac (m % n) n), .agg #[.int .i64 0, .int .i64 0]]) ∧ Below w.heap.size w w') := fun w hT => by
    have := hj m n w (by omega) (by omega) hn hn2 hT
    rw [jac_arg] at this; exact this
  have HJ2 : Hid (∀ w, Tb w → Calls Tryd.prog 6 #[.int .i64 n, .int .i64 m] w fun e w' => e = .returned (.tuple #[.int .i64 (jac (n % m) m), .agg #[.int .i64 0, .int .i64 0]]) ∧ Below w.heap.size w w') := fun w hT => by
    have := hj n m w (by omega) (by omega) hm hm2 hT
    rw [jac_arg] at this; exact this
  have HJ3 : Hid (∀ w, Tb w → Calls Tryd.prog 6 #[.int .i64 2, .int .i64 n] w fun e w' => e = .returned (.tuple #[.int .i64 (twoS n), .agg #[.int .i64 0, .int .i64 0]]) ∧ Below w.heap.size w w') := fun w hT => by
    have := hj 2 n w (by omega) (by omega) hn hn2 hT
    rw [show ((2 : Int) % (n : Int)).toNat = 2 % n from jac_arg 2 n, jac_two n hn] at this; exact this
  have HJ4 : Hid (∀ w, Tb w → Calls Tryd.prog 6 #[.int .i64 (-1), .int .i64 n] w fun e w' => e = .returned (.tuple #[.int .i64 (if n % 4 = 1 then 1 else -1), .agg #[.int .i64 0, .int .i64 0]]) ∧ Below w.heap.size w w') := fun w hT => by
    have := hj (-1) n w (by omega) (by omega) hn hn2 hT
    rw [jac_less_arg n (by omega), jac_less n hn] at this; exact this
  have HGcd : Hid (∀ w, Calls Tryd.prog 7 #[.int .i64 m, .int .i64 n] w fun e w' => e = .returned (.int .i64 (Nat.gcd m n : Int)) ∧ w' = w) := fun w => by
    have := refGcd_nat m n w hm2 hn2 (m : Int) (n : Int) (by omega) (by omega)
    rw [show Int.gcd (m : Int) (n : Int) = Nat.gcd m n by simp [Int.gcd]] at this; exact this
  obtain ⟨A, hA⟩ : ∃ A, A = jac (m % n) n := ⟨_, rfl⟩
  obtain ⟨B, hB⟩ : ∃ B, B = jac (n % m) m := ⟨_, rfl⟩
  have hturn : A = sgnS m n * B := by rw [hA, hB]; exact jac_turn m n hm hn
  have hunit := jac_unit (n % m) m hm
  rw [← hB] at hunit
  rw [show Nat.gcd (n % m) m = Nat.gcd m n from (Nat.gcd_rec m n).symm] at hunit
  rw [← hA] at HJ1
  rw [← hB] at HJ2
  obtain ⟨G, hG⟩ : ∃ G, G = Nat.gcd m n := ⟨_, rfl⟩
  rw [← hG] at HGcd hunit
  have HT : Hid (A = sgnS m n * B) := hturn
  have HU : Hid ((G = 1 → B = 1 ∨ B = -1) ∧ (G ≠ 1 → B = 0)) := hunit
  have c1 : decide ((m : Int) < 1) = false := decide_eq_false (by omega)
  have c2 : decide ((n : Int) < 1) = false := decide_eq_false (by omega)
  have c3 : (((m : Int) % 2) == 0) = false := beq_eq_false_iff_ne.2 (by omega)
  have c4 : (((n : Int) % 2) == 0) = false := beq_eq_false_iff_ne.2 (by omega)
  have c5 : numB (m : Int) = true := numB_mk (by omega) (by omega)
  have c6 : numB (n : Int) = true := numB_mk (by omega) (by omega)
  have HM : Hid (m % 2 = 1 ∧ n % 2 = 1) := ⟨hm, hn⟩
  clear begun hj hA hB hturn hunit hG hm hn hm2 hn2 hT
  go_enter Tryd.func3, Tryd.ntmps3
  go_wp2_with fail
  refine HB.out.mono ?_
  rintro e w1 ⟨rfl, k1⟩
  have K1 : Hid (Below w.heap.size w w1) := k1
  have HT1 : Hid (Tb w1) := HTb.out.below k1
  clear k1 HTb
  go_wp2_with (go_at_call 5; refine (number_any _ _).mono ?_; rintro e w' ⟨rfl, rfl⟩; simp only [c5, c6])
  obtain ⟨Tw, hTw⟩ : ∃ Tw, Tw = twoS n := ⟨_, rfl⟩
  obtain ⟨L, hL⟩ : ∃ L : Int, L = if n % 4 = 1 then 1 else -1 := ⟨_, rfl⟩
  rw [← hTw] at HJ3
  rw [← hL] at HJ4
  have HTw : Hid (Tw = twoS n) := hTw
  have HL : Hid (L = if n % 4 = 1 then 1 else -1) := hL
  clear hTw hL HB
  refine (HJ1.out _ HT1.out).mono ?_
  rintro e w2 ⟨rfl, k2⟩
  have S2_2 : Hid (Sv w2.heap.size 0 0 (w2.alloc (.cells #[.int .i64 0, .int .i64 0] 25))) := sv_fault w2 25 0 0
  have K2 : Hid (Below w.heap.size w (w2.alloc (.cells #[.int .i64 0, .int .i64 0] 25))) := by
    have h1 := K1.out.size
    have h2 := k2.size
    exact (K1.out.trans (k2.mono h1)).alloc (Nat.le_trans h1 h2) _
  have HT2 : Hid (Tb (w2.alloc (.cells #[.int .i64 0, .int .i64 0] 25))) := (HT1.out.below k2).alloc _
  clear k2 K1 HT1
  go_wp2_with fail
  refine (HJ2.out _ HT2.out).mono ?_
  rintro e w3 ⟨rfl, k3⟩
  have S2_3 : Hid (Sv w2.heap.size 0 0 (w3.alloc (.cells #[.int .i64 0, .int .i64 0] 25))) := sv_then S2_2.out k3 _
  have S3_3 : Hid (Sv w3.heap.size 0 0 (w3.alloc (.cells #[.int .i64 0, .int .i64 0] 25))) := sv_fault w3 25 0 0
  have K3 : Hid (Below w.heap.size w (w3.alloc (.cells #[.int .i64 0, .int .i64 0] 25))) := by
    have h1 := K2.out.size
    have h2 := k3.size
    exact (K2.out.trans (k3.mono h1)).alloc (Nat.le_trans h1 h2) _
  have HT3 : Hid (Tb (w3.alloc (.cells #[.int .i64 0, .int .i64 0] 25))) := (HT2.out.below k3).alloc _
  clear k3 K2 S2_2 HT2
  go_wp2_with fail
  refine (HJ3.out _ HT3.out).mono ?_
  rintro e w4 ⟨rfl, k4⟩
  have S2_4 : Hid (Sv w2.heap.size 0 0 (w4.alloc (.cells #[.int .i64 0, .int .i64 0] 25))) := sv_then S2_3.out k4 _
  have S3_4 : Hid (Sv w3.heap.size 0 0 (w4.alloc (.cells #[.int .i64 0, .int .i64 0] 25))) := sv_then S3_3.out k4 _
  have S4_4 : Hid (Sv w4.heap.size 0 0 (w4.alloc (.cells #[.int .i64 0, .int .i64 0] 25))) := sv_fault w4 25 0 0
  have K4 : Hid (Below w.heap.size w (w4.alloc (.cells #[.int .i64 0, .int .i64 0] 25))) := by
    have h1 := K3.out.size
    have h2 := k4.size
    exact (K3.out.trans (k4.mono h1)).alloc (Nat.le_trans h1 h2) _
  have HT4 : Hid (Tb (w4.alloc (.cells #[.int .i64 0, .int .i64 0] 25))) := (HT3.out.below k4).alloc _
  clear k4 K3 S2_3 S3_3 HT3
  go_wp2_with fail
  refine (HJ4.out _ HT4.out).mono ?_
  rintro e w5 ⟨rfl, k5⟩
  have S2_5 : Hid (Sv w2.heap.size 0 0 (w5.alloc (.cells #[.int .i64 0, .int .i64 0] 25))) := sv_then S2_4.out k5 _
  have S3_5 : Hid (Sv w3.heap.size 0 0 (w5.alloc (.cells #[.int .i64 0, .int .i64 0] 25))) := sv_then S3_4.out k5 _
  have S4_5 : Hid (Sv w4.heap.size 0 0 (w5.alloc (.cells #[.int .i64 0, .int .i64 0] 25))) := sv_then S4_4.out k5 _
  have S5_5 : Hid (Sv w5.heap.size 0 0 (w5.alloc (.cells #[.int .i64 0, .int .i64 0] 25))) := sv_fault w5 25 0 0
  have K5 : Hid (Below w.heap.size w (w5.alloc (.cells #[.int .i64 0, .int .i64 0] 25))) := by
    have h1 := K4.out.size
    have h2 := k5.size
    exact (K4.out.trans (k5.mono h1)).alloc (Nat.le_trans h1 h2) _
  clear k5 K4 S2_4 S3_4 S4_4 HT4
  have q2 := S2_5.out.c0
  have q3 := S3_5.out.c0
  have q4 := S4_5.out.c0
  have q5 := S5_5.out.c0
  clear S2_5 S3_5 S4_5 S5_5 HJ1 HJ2 HJ3 HJ4
  have h8 : n % 8 = 1 ∨ n % 8 = 3 ∨ n % 8 = 5 ∨ n % 8 = 7 := by have := HM.out; omega
  rcases h8 with h8 | h8 | h8 | h8
  · obtain rfl : Tw = 1 := by rw [HTw.out]; unfold twoS; rw [if_neg (by omega)]
    obtain rfl : L = 1 := by rw [HL.out, if_pos (by omega)]
    have d1 : (((n : Int) % 8) == 1) = true := beq_iff_eq.2 (by omega)
    have d2 : (((n : Int) % 8) == 7) = false := beq_eq_false_iff_ne.2 (by omega)
    have d3 : (((n : Int) % 4) == 1) = true := beq_iff_eq.2 (by omega)
    have d4 : (((n : Int) % 4) == 3) = false := beq_eq_false_iff_ne.2 (by omega)
    have H8 : Hid (n % 8 = 1) := h8
    clear h8
    go_wp2_with fail
    refine (HGcd.out _).mono ?_
    rintro e w6 ⟨rfl, rfl⟩
    by_cases hG : G = 1
    · have hGb : ((G : Int) == 1) = true := beq_iff_eq.2 (by omega)
      have hB := HU.out.1 hG
      have hT := HT.out
      clear hG
      have hm4 : m % 4 = 1 ∨ m % 4 = 3 := by have := HM.out; omega
      rcases hB with rfl | rfl <;> rcases hm4 with h4 | h4
      all_goals
        have d5 : (((m : Int) % 4) == 3) = decide (m % 4 = 3) := by rw [h4]; exact (by first | (exact beq_iff_eq.2 (by omega)) | (exact beq_eq_false_iff_ne.2 (by omega)))
        have h8 := H8.out
        have hs : sgnS m n = if m % 4 = 3 ∧ n % 4 = 3 then -1 else 1 := rfl
        rw [hs] at hT
        rw [h4, show n % 4 = (n % 8) % 4 by omega, h8] at hT
        rw [h4] at d5
        simp at hT d5
        subst hT
        clear hs h4 h8
        go_wp2
        go_ret
        exact ⟨rfl, K5.out⟩
    · have hGb : ((G : Int) == 1) = false := beq_eq_false_iff_ne.2 (by omega)
      obtain rfl : B = 0 := HU.out.2 hG
      obtain rfl : A = 0 := by rw [HT.out]; simp
      clear hG
      go_wp2
      go_ret
      exact ⟨rfl, K5.out⟩
  · obtain rfl : Tw = -1 := by rw [HTw.out]; unfold twoS; rw [if_pos (by omega)]
    obtain rfl : L = -1 := by rw [HL.out, if_neg (by omega)]
    have d1 : (((n : Int) % 8) == 1) = false := beq_eq_false_iff_ne.2 (by omega)
    have d2 : (((n : Int) % 8) == 7) = false := beq_eq_false_iff_ne.2 (by omega)
    have d3 : (((n : Int) % 4) == 1) = false := beq_eq_false_iff_ne.2 (by omega)
    have d4 : (((n : Int) % 4) == 3) = true := beq_iff_eq.2 (by omega)
    have H8 : Hid (n % 8 = 3) := h8
    clear h8
    go_wp2_with fail
    refine (HGcd.out _).mono ?_
    rintro e w6 ⟨rfl, rfl⟩
    by_cases hG : G = 1
    · have hGb : ((G : Int) == 1) = true := beq_iff_eq.2 (by omega)
      have hB := HU.out.1 hG
      have hT := HT.out
      clear hG
      have hm4 : m % 4 = 1 ∨ m % 4 = 3 := by have := HM.out; omega
      rcases hB with rfl | rfl <;> rcases hm4 with h4 | h4
      all_goals
        have d5 : (((m : Int) % 4) == 3) = decide (m % 4 = 3) := by rw [h4]; exact (by first | (exact beq_iff_eq.2 (by omega)) | (exact beq_eq_false_iff_ne.2 (by omega)))
        have h8 := H8.out
        have hs : sgnS m n = if m % 4 = 3 ∧ n % 4 = 3 then -1 else 1 := rfl
        rw [hs] at hT
        rw [h4, show n % 4 = (n % 8) % 4 by omega, h8] at hT
        rw [h4] at d5
        simp at hT d5
        subst hT
        clear hs h4 h8
        go_wp2
        go_ret
        exact ⟨rfl, K5.out⟩
    · have hGb : ((G : Int) == 1) = false := beq_eq_false_iff_ne.2 (by omega)
      obtain rfl : B = 0 := HU.out.2 hG
      obtain rfl : A = 0 := by rw [HT.out]; simp
      clear hG
      go_wp2
      go_ret
      exact ⟨rfl, K5.out⟩
  · obtain rfl : Tw = -1 := by rw [HTw.out]; unfold twoS; rw [if_pos (by omega)]
    obtain rfl : L = 1 := by rw [HL.out, if_pos (by omega)]
    have d1 : (((n : Int) % 8) == 1) = false := beq_eq_false_iff_ne.2 (by omega)
    have d2 : (((n : Int) % 8) == 7) = false := beq_eq_false_iff_ne.2 (by omega)
    have d3 : (((n : Int) % 4) == 1) = true := beq_iff_eq.2 (by omega)
    have d4 : (((n : Int) % 4) == 3) = false := beq_eq_false_iff_ne.2 (by omega)
    have H8 : Hid (n % 8 = 5) := h8
    clear h8
    go_wp2_with fail
    refine (HGcd.out _).mono ?_
    rintro e w6 ⟨rfl, rfl⟩
    by_cases hG : G = 1
    · have hGb : ((G : Int) == 1) = true := beq_iff_eq.2 (by omega)
      have hB := HU.out.1 hG
      have hT := HT.out
      clear hG
      have hm4 : m % 4 = 1 ∨ m % 4 = 3 := by have := HM.out; omega
      rcases hB with rfl | rfl <;> rcases hm4 with h4 | h4
      all_goals
        have d5 : (((m : Int) % 4) == 3) = decide (m % 4 = 3) := by rw [h4]; exact (by first | (exact beq_iff_eq.2 (by omega)) | (exact beq_eq_false_iff_ne.2 (by omega)))
        have h8 := H8.out
        have hs : sgnS m n = if m % 4 = 3 ∧ n % 4 = 3 then -1 else 1 := rfl
        rw [hs] at hT
        rw [h4, show n % 4 = (n % 8) % 4 by omega, h8] at hT
        rw [h4] at d5
        simp at hT d5
        subst hT
        clear hs h4 h8
        go_wp2
        go_ret
        exact ⟨rfl, K5.out⟩
    · have hGb : ((G : Int) == 1) = false := beq_eq_false_iff_ne.2 (by omega)
      obtain rfl : B = 0 := HU.out.2 hG
      obtain rfl : A = 0 := by rw [HT.out]; simp
      clear hG
      go_wp2
      go_ret
      exact ⟨rfl, K5.out⟩
  · obtain rfl : Tw = 1 := by rw [HTw.out]; unfold twoS; rw [if_neg (by omega)]
    obtain rfl : L = -1 := by rw [HL.out, if_neg (by omega)]
    have d1 : (((n : Int) % 8) == 1) = false := beq_eq_false_iff_ne.2 (by omega)
    have d2 : (((n : Int) % 8) == 7) = true := beq_iff_eq.2 (by omega)
    have d3 : (((n : Int) % 4) == 1) = false := beq_eq_false_iff_ne.2 (by omega)
    have d4 : (((n : Int) % 4) == 3) = true := beq_iff_eq.2 (by omega)
    have H8 : Hid (n % 8 = 7) := h8
    clear h8
    go_wp2_with fail
    refine (HGcd.out _).mono ?_
    rintro e w6 ⟨rfl, rfl⟩
    by_cases hG : G = 1
    · have hGb : ((G : Int) == 1) = true := beq_iff_eq.2 (by omega)
      have hB := HU.out.1 hG
      have hT := HT.out
      clear hG
      have hm4 : m % 4 = 1 ∨ m % 4 = 3 := by have := HM.out; omega
      rcases hB with rfl | rfl <;> rcases hm4 with h4 | h4
      all_goals
        have d5 : (((m : Int) % 4) == 3) = decide (m % 4 = 3) := by rw [h4]; exact (by first | (exact beq_iff_eq.2 (by omega)) | (exact beq_eq_false_iff_ne.2 (by omega)))
        have h8 := H8.out
        have hs : sgnS m n = if m % 4 = 3 ∧ n % 4 = 3 then -1 else 1 := rfl
        rw [hs] at hT
        rw [h4, show n % 4 = (n % 8) % 4 by omega, h8] at hT
        rw [h4] at d5
        simp at hT d5
        subst hT
        clear hs h4 h8
        go_wp2
        go_ret
        exact ⟨rfl, K5.out⟩
    · have hGb : ((G : Int) == 1) = false := beq_eq_false_iff_ne.2 (by omega)
      obtain rfl : B = 0 := HU.out.2 hG
      obtain rfl : A = 0 := by rw [HT.out]; simp
      clear hG
      go_wp2
      go_ret
      exact ⟨rfl, K5.out⟩

theorem rg_walk (begun : ResBegun) (hj : JacIs) (m n : Int) (w : World) (hT : Tb w) :
    Calls Tryd.prog 3 #[.int .i64 m, .int .i64 n] w fun e w' => e = .returned (.bool true) ∧ Below w.heap.size w w' := by
  by_cases h : m < 1 ∨ n < 1 ∨ m % 2 = 0 ∨ n % 2 = 0 ∨ numB m = false ∨ numB n = false
  · exact rg_bad begun m n w h hT
  · have h1 : numB m = true := by
      cases hh : numB m
      · exact absurd (.inr (.inr (.inr (.inr (.inl hh))))) h
      · rfl
    have h2 : numB n = true := by
      cases hh : numB n
      · exact absurd (.inr (.inr (.inr (.inr (.inr hh))))) h
      · rfl
    have b1 := numB_true h1
    have b2 := numB_true h2
    have h3 : 1 ≤ m ∧ 1 ≤ n ∧ m % 2 = 1 ∧ n % 2 = 1 := by omega
    have := rg_ok begun hj m.toNat n.toNat w (by omega) (by omega) (by omega) (by omega) hT
    rw [show ((m.toNat : Nat) : Int) = m by omega, show ((n.toNat : Nat) : Int) = n by omega] at this
    exact this

end Go.Proofs.YthfoakbpoggmbacDoor
