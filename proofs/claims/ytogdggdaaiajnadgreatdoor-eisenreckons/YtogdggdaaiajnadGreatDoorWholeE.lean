/- Contracts of package whole's left and joinOne. -/
import Derived.Test.YtogdggdaaiajnadGreatDoorWholeD
import Derived.Test.YtogdggdaaiajnadGreatDoorBitsB
import Derived.Test.YtogdggdaaiajnadGreatDoorMathC
set_option linter.unusedSimpArgs false
set_option linter.unusedVariables false
set_option maxRecDepth 100000
namespace Go.Proofs.YtogdggdaaiajnadGreatDoor
open Go.RowKit

theorem left_any (a : Int) (m : Nat) (w : World) (ha : a.natAbs ≤ 4000000000000000000) (h0 : 0 < m) (hm : (m : Int) ≤ 1000000000000000000) :
    Calls Tryz.prog 118 #[.int .i64 a, .int .i64 m] w fun e w' => e = .returned (.int .i64 (a % (m : Int))) ∧ w' = w := by
  have hb : (a.tmod (m : Int)).natAbs < m := by rw [Int.natAbs_tmod]; exact Nat.mod_lt _ h0
  have t1 : ((m : Int) == 0) = false := beq_eq_false_iff_ne.2 (by omega)
  by_cases h : 0 ≤ a
  · have e : a.tmod (m : Int) = a % (m : Int) := Int.tmod_eq_emod_of_nonneg h
    have h1 : 0 ≤ a % (m : Int) := Int.emod_nonneg _ (by omega)
    have h2 : a % (m : Int) < (m : Int) := Int.emod_lt_of_pos _ (by omega)
    clear hb e
    go_enter Tryz.func118, Tryz.ntmps118
    go_wp2
    go_ret
    exact ⟨rfl, rfl⟩
  · by_cases hz : a.tmod (m : Int) < 0
    · have HE : Hid (a.tmod (m : Int) + (m : Int) = a % (m : Int)) := by
        show _ = _
        have e1 := Int.tmod_eq_emod (a := a) (b := (m : Int))
        rw [e1] at hz ⊢
        split at hz
        · have := Int.emod_nonneg a (show (m : Int) ≠ 0 by omega); omega
        · rename_i hc; rw [if_neg hc]; simp
      go_enter Tryz.func118, Tryz.ntmps118
      go_wp2
      go_ret
      exact ⟨ret_int HE.out, rfl⟩
    · have HE : Hid (a.tmod (m : Int) = a % (m : Int)) := by
        show _ = _
        have e1 := Int.tmod_eq_emod (a := a) (b := (m : Int))
        rw [e1] at hz ⊢
        split at hz
        · rename_i hc; rw [if_pos hc]; omega
        · have := Int.emod_lt_of_pos a (show 0 < (m : Int) by omega); simp at hz; omega
      go_enter Tryz.func118, Tryz.ntmps118
      go_wp2
      go_ret
      exact ⟨ret_int HE.out, rfl⟩

/-- What is told where a place falls: its code. -/
theorem joinOne_range (r m : Nat) (a b : Int) (w : World) (h : numB a = false ∨ b < 1 ∨ 1000000000000000000 < b) :
    Calls Tryz.prog 163 #[.int .i64 r, .int .i64 m, .int .i64 a, .int .i64 b] w fun e w' => e = .returned (.tuple #[.int .i64 0, .int .i64 0, .int .i64 3]) ∧ w' = w := by
  cases hn : numB a
  · go_enter Tryz.func163, Tryz.ntmps163
    go_wp2_with (go_at_call 133; refine (isNumber_any _ _).mono ?_; rintro e w' ⟨rfl, rfl⟩)
    go_ret3
    exact ⟨rfl, rfl⟩
  · by_cases h1 : b < 1
    · go_enter Tryz.func163, Tryz.ntmps163
      go_wp2_with (go_at_call 133; refine (isNumber_any _ _).mono ?_; rintro e w' ⟨rfl, rfl⟩)
      go_ret3
      exact ⟨rfl, rfl⟩
    · have h2 : 1000000000000000000 < b := by rw [hn] at h; rcases h with h | h | h <;> first | cases h | omega
      clear h
      go_enter Tryz.func163, Tryz.ntmps163
      go_wp2_with (go_at_call 133; refine (isNumber_any _ _).mono ?_; rintro e w' ⟨rfl, rfl⟩)
      go_ret3
      exact ⟨rfl, rfl⟩

theorem gcd_nat (m n : Nat) : Int.gcd (m : Int) (n : Int) = Nat.gcd m n := by simp [Int.gcd]

theorem join_fill {r m n uu mo l st g : Nat} {v q a : Int} (hnm : n = g * mo) (hgm : g ∣ m) (hl : (uu : Int) * (m : Int) + v * (n : Int) = (g : Int)) (hq : a - (r : Int) = (g : Int) * q) (hlq : q % (mo : Int) = (l : Int)) (hst : st = l * uu % mo) (hg : g ≠ 0) :
    (n : Int) ∣ (((r + st * m : Nat) : Int)) - a := by
  obtain ⟨xm, hxm⟩ := hgm
  obtain ⟨z, hz⟩ := MathC.join_step (r : Int) (m : Int) (n : Int) (uu : Int) v (g : Int) (a - (r : Int)) q (st : Int) (mo : Int) (by omega)
    (by rw [hnm]; simp) ⟨(xm : Int), by rw [hxm]; simp⟩ hl hq
    (by
      have e1 : (st : Int) = ((l : Int) * (uu : Int)) % (mo : Int) := by rw [hst]; simp
      have e2 : (l : Int) * (uu : Int) = q * (uu : Int) - (mo : Int) * (q / (mo : Int)) * (uu : Int) := by rw [← hlq, Int.emod_def, Int.sub_mul]
      refine ⟨-(q / (mo : Int) * (uu : Int)) - ((l : Int) * (uu : Int)) / (mo : Int), ?_⟩
      rw [e1, Int.emod_def, Int.sub_mul, Int.neg_mul]
      have e3 : (mo : Int) * (q / (mo : Int)) * (uu : Int) = q / (mo : Int) * (uu : Int) * (mo : Int) := by simp only [Int.mul_assoc, Int.mul_comm, Int.mul_left_comm]
      have e4 : (mo : Int) * ((l : Int) * (uu : Int) / (mo : Int)) = (l : Int) * (uu : Int) / (mo : Int) * (mo : Int) := Int.mul_comm ..
      omega)
  refine ⟨z, ?_⟩
  rw [← hz]; simp; omega

set_option maxHeartbeats 1000000 in
/-- A place whose numbers are in their range. -/
theorem joinOne_any (r m n : Nat) (a : Int) (w : World) (hr : r < m) (hm : (m : Int) ≤ 1000000000000000000) (h1 : 1 ≤ n) (hn : (n : Int) ≤ 1000000000000000000) (ha : numB a = true) :
    Calls Tryz.prog 163 #[.int .i64 r, .int .i64 m, .int .i64 a, .int .i64 n] w fun e w' => (∃ q, w' = w.drewN q) ∧
      ((¬ (Nat.gcd m n : Int) ∣ a - (r : Int) ∧ e = .returned (.tuple #[.int .i64 0, .int .i64 0, .int .i64 5])) ∨
       ((Nat.gcd m n : Int) ∣ a - (r : Int) ∧ 1000000000000000000 < m * (n / Nat.gcd m n) ∧ e = .returned (.tuple #[.int .i64 0, .int .i64 0, .int .i64 9])) ∨
       ((Nat.gcd m n : Int) ∣ a - (r : Int) ∧ m * (n / Nat.gcd m n) ≤ 1000000000000000000 ∧ ∃ R : Nat, e = .returned (.tuple #[.int .i64 R, .int .i64 ((m * (n / Nat.gcd m n) : Nat) : Int), .int .i64 0]) ∧ R < m * (n / Nat.gcd m n) ∧ (m : Int) ∣ (R : Int) - (r : Int) ∧ (n : Int) ∣ (R : Int) - a)) := by
  obtain ⟨a1, a2⟩ := numB_true ha
  have hg0 : 0 < Nat.gcd m n := Nat.gcd_pos_of_pos_left _ (by omega)
  have hgn : Nat.gcd m n ∣ n := Nat.gcd_dvd_right m n
  have hgm : Nat.gcd m n ∣ m := Nat.gcd_dvd_left m n
  have hgle : Nat.gcd m n ≤ n := Nat.le_of_dvd (by omega) hgn
  go_enter Tryz.func163, Tryz.ntmps163
  go_wp2_with (go_at_call 133; refine (isNumber_any _ _).mono ?_; rintro e w' ⟨rfl, rfl⟩)
  refine (bezout_any (m : Int) (n : Int) _ (by omega) (by omega)).mono ?_
  rw [gcd_nat]
  rintro e w1 ⟨u, v, rfl, hbz, hw⟩
  have hlin := hbz.lin
  have hlow := hbz.low (by omega)
  have hhigh := hbz.high (by omega)
  rw [gcd_nat] at hlin hhigh
  rw [Int.natAbs_natCast] at hhigh
  have HW : Hid (∃ q, w1 = w'.drewN q) := hw
  have HL : Hid (u * (m : Int) + v * (n : Int) = (Nat.gcd m n : Int)) := hlin
  clear hbz hlin hw
  obtain ⟨uu, rfl⟩ := Int.eq_ofNat_of_zero_le hlow
  obtain ⟨mo, hmo⟩ : ∃ mo, mo = n / Nat.gcd m n := ⟨_, rfl⟩
  have hnm : n = Nat.gcd m n * mo := by rw [hmo, Nat.mul_div_cancel' hgn]
  have hmo0 : 0 < mo := by
    rcases Nat.eq_zero_or_pos mo with e | e
    · rw [e, Nat.mul_zero] at hnm; omega
    · exact e
  have hmon : mo ≤ n := by rw [hmo]; exact Nat.div_le_self ..
  rw [← hmo] at hhigh
  have huu : uu < mo := by omega
  have emo : (n : Int) / (Nat.gcd m n : Int) = (mo : Int) := by rw [hmo, Int.natCast_ediv]
  have HMO : Hid (mo = n / Nat.gcd m n) := hmo
  have HNM : Hid (n = Nat.gcd m n * mo) := hnm
  clear hmo hnm hhigh hlow hgle
  by_cases hd : (Nat.gcd m n : Int) ∣ a - (r : Int)
  · obtain ⟨q, hq⟩ := hd
    have HQ : Hid (a - (r : Int) = (Nat.gcd m n : Int) * q) := hq
    have eq1 : (a - (r : Int)).tdiv (Nat.gcd m n : Int) = q := by rw [hq]; exact Int.mul_tdiv_cancel_left _ (by omega)
    have hqb : -2000000000000000000 ≤ q ∧ q ≤ 2000000000000000000 := by
      have h1 : q.natAbs ≤ (a - (r : Int)).natAbs := by
        rw [hq, Int.natAbs_mul]; exact Nat.le_mul_of_pos_left _ (by omega)
      omega
    have t5 : ((a - (r : Int)).tmod (Nat.gcd m n : Int) != 0) = false := by rw [hq, Int.mul_tmod_right]; rfl
    clear hq
    by_cases hk : 1000000000000000000 < m * mo
    · have t6 : decide (1000000000000000000 / (mo : Int) < (m : Int)) = true := by
        rw [decide_eq_true_iff]; rw [Int.ediv_lt_iff_lt_mul (by omega), ← Int.natCast_mul]; omega
      have HF : Hid ((Nat.gcd m n : Int) ∣ a - (r : Int) ∧ 1000000000000000000 < m * (n / Nat.gcd m n)) := ⟨⟨q, HQ.out⟩, by rw [← HMO.out]; exact hk⟩
      clear hk
      go_wp2
      go_ret3
      obtain ⟨k, rfl⟩ := HW.out
      exact ⟨⟨k, rfl⟩, Or.inr (Or.inl ⟨HF.out.1, HF.out.2, rfl⟩)⟩
    · have t6 : decide (1000000000000000000 / (mo : Int) < (m : Int)) = false := by
        rw [decide_eq_false_iff_not, Int.ediv_lt_iff_lt_mul (by omega), ← Int.natCast_mul]; omega
      have hmm : (m : Int) * (mo : Int) ≤ 1000000000000000000 ∧ 0 ≤ (m : Int) * (mo : Int) := by rw [← Int.natCast_mul]; omega
      have HK : Hid (m * mo ≤ 1000000000000000000) := by show _ ≤ _; omega
      clear hk
      obtain ⟨l, hl⟩ := Int.eq_ofNat_of_zero_le (Int.emod_nonneg q (show (mo : Int) ≠ 0 by omega))
      have hlm : l < mo := by have := Int.emod_lt_of_pos q (show 0 < (mo : Int) by omega); omega
      have HLQ : Hid (q % (mo : Int) = (l : Int)) := hl
      clear hl
      go_wp2_with fail
      refine (left_any q mo _ (by omega) hmo0 (by omega)).mono ?_
      rw [HLQ.out]
      rintro e w2 ⟨rfl, rfl⟩
      go_wp2_with fail
      refine (productLeft_any l uu mo _ hlm huu (by omega)).mono ?_
      have hst : l * uu % mo < mo := Nat.mod_lt _ hmo0
      obtain ⟨st, gst⟩ : ∃ st, st = l * uu % mo := ⟨_, rfl⟩
      rw [← gst] at hst ⊢
      have HST : Hid (st = l * uu % mo) := gst
      clear gst
      rintro e w3 ⟨rfl, hw3⟩
      have HW3 : Hid (∃ k, w3 = w2.drewN k) := hw3
      clear hw3
      have hsm : st * m + m ≤ m * mo := by
        have : (st + 1) * m ≤ mo * m := Nat.mul_le_mul_right _ hst
        rw [Nat.add_mul, Nat.mul_comm mo] at this; omega
      have hsm' : 0 ≤ (st : Int) * (m : Int) ∧ (st : Int) * (m : Int) + (m : Int) ≤ (m : Int) * (mo : Int) := by
        rw [← Int.natCast_mul, ← Int.natCast_mul]; omega
      have HFD : Hid ((n : Int) ∣ (((r + st * m : Nat) : Int)) - a) := join_fill HNM.out hgm HL.out HQ.out HLQ.out HST.out (by omega)
      clear hgm hgn
      go_wp2
      go_ret3
      obtain ⟨k1, rfl⟩ := HW.out
      obtain ⟨k2, rfl⟩ := HW3.out
      refine ⟨⟨k1 + k2, World.drewN_drewN ..⟩, Or.inr (Or.inr ⟨⟨q, HQ.out⟩, by rw [← HMO.out]; exact HK.out, r + st * m, ?_, ?_, ?_, HFD.out⟩)⟩
      · rw [← HMO.out]; exact ret3 (by simp) (by simp) rfl
      · rw [← HMO.out]; omega
      · exact ⟨(st : Int), by simp; rw [Int.mul_comm]; omega⟩
  · have t5 : ((a - (r : Int)).tmod (Nat.gcd m n : Int) != 0) = true := by
      rw [bne_iff_ne]; intro e; exact hd (Int.dvd_of_tmod_eq_zero e)
    have HF : Hid (¬ (Nat.gcd m n : Int) ∣ a - (r : Int)) := hd
    clear hd
    go_wp2
    go_ret3
    obtain ⟨k, rfl⟩ := HW.out
    exact ⟨⟨k, rfl⟩, Or.inl ⟨HF.out, rfl⟩⟩

end Go.Proofs.YtogdggdaaiajnadGreatDoor
