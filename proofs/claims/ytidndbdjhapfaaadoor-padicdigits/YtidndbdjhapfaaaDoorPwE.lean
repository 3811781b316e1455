/- The reference's IsPrime of numbers up to 1000000. -/
import Derived.Test.YtidndbdjhapfaaaDoorPwC
import Derived.Test.YtidndbdjhapfaaaDoorBkA
import Derived.Test.YtidndbdjhapfaaaDoorBigP
import Derived.Test.YtidndbdjhapfaaaDoorBigG
import Derived.Test.YtidndbdjhapfaaaDoorJoinA
set_option linter.unusedSimpArgs false
set_option linter.unusedVariables false
set_option maxRecDepth 100000
namespace Go.Proofs.YtidndbdjhapfaaaDoor
open Go.RowKit

theorem pr_trial {n d : Nat} (hn : 2 ≤ n) (h : ∀ e, 2 ≤ e → e < d → n % e ≠ 0) (hd : n < d * d) : Pr n := by
  refine ⟨hn, fun c hc => ?_⟩
  obtain ⟨m, rfl⟩ := hc
  by_cases h1 : c = 1
  · exact .inl h1
  · right
    have c0 : c ≠ 0 := by rintro rfl; simp at hn
    have m0 : m ≠ 0 := by rintro rfl; simp at hn
    by_cases hm : m = 1
    · rw [hm, Nat.mul_one]
    · exfalso
      rcases Nat.lt_or_ge c d with h2 | h2
      · exact h c (by omega) h2 (Nat.mul_mod_right ..)
      · rcases Nat.lt_or_ge m d with h3 | h3
        · exact h m (by omega) h3 (Nat.mul_mod_left ..)
        · have := Nat.mul_le_mul h2 h3; omega

set_option maxHeartbeats 400000 in
theorem refIsPrime_small (n : Nat) (b : Bool) (w : World) (hn : 2 ≤ n) (hn2 : n ≤ 1000000) (hb : b = true ↔ Pr n) :
    Calls Tryd.prog 26 #[.int .i64 n] w fun e w' => e = .returned (.bool b) ∧ w' = w := by
  have HB : Hid (b = true ↔ Pr n) := hb
  have h1 : decide ((n : Int) < 2) = false := decide_eq_false (by omega)
  have h2 : decide (100000000 < (n : Int)) = false := decide_eq_false (by omega)
  clear hb
  go_enter Tryd.func26, Tryd.ntmps26
  go_wp2
  go_loop [3] (fun dv => ∃ d : Nat, 2 ≤ d ∧ d ≤ 1001 ∧ dv = .int .i64 d ∧ Hid (∀ e, 2 ≤ e → e < d → n % e ≠ 0)) (fun dv => 2000 - (intOf dv).toNat)
  case atStart => exact ⟨2, by omega, by omega, rfl, fun e h1 h2 => by omega⟩
  case round =>
    obtain ⟨d, hd1, hd2, rfl, HR⟩ := hrel
    obtain ⟨q, gq⟩ : ∃ q, q = d * d := ⟨_, rfl⟩
    have hqi : (d : Int) * (d : Int) = (q : Int) := by rw [gq]; simp
    have hql : q ≤ 1002001 := by
      rw [gq]; have := Nat.mul_le_mul hd2 hd2; omega
    by_cases hq : q ≤ n
    · have hqb : decide ((q : Int) ≤ (n : Int)) = true := decide_eq_true (by omega)
      have hd0 : ((d : Int) == 0) = false := beq_eq_false_iff_ne.2 (by omega)
      have hd1000 : d ≤ 1000 := by
        rcases Nat.lt_or_ge 1000 d with h | h
        · have := Nat.mul_le_mul (show 1001 ≤ d by omega) (show 1001 ≤ d by omega); omega
        · exact h
      obtain ⟨r, gr⟩ : ∃ r, r = n % d := ⟨_, rfl⟩
      have hri : (n : Int) % (d : Int) = (r : Int) := by rw [gr]; simp
      by_cases hr : r = 0
      · have hrb : ((r : Int) == 0) = true := by rw [hr]; rfl
        have hbf : b = false := by
          cases b
          · rfl
          · exfalso
            have hp := HB.out.1 rfl
            rcases hp.2 d (Nat.dvd_of_mod_eq_zero (by omega)) with h | h
            · omega
            · have : d * 2 ≤ d * d := Nat.mul_le_mul_left d hd1
              omega
        have HBF : Hid (b = false) := hbf
        clear hr gq gr hbf
        go_wp2
        go_ret
        rw [HBF.out]
        exact ⟨rfl, rfl⟩
      · have hrb : ((r : Int) == 0) = false := beq_eq_false_iff_ne.2 (by omega)
        have HN : Hid (∀ e, 2 ≤ e → e < d + 1 → n % e ≠ 0) := by
          intro e he1 he2
          by_cases h : e = d
          · subst h; omega
          · exact HR.out e he1 (by omega)
        clear hr gq gr
        go_wp2
        go_round
        case rel => exact ⟨d + 1, by omega, by omega, by go_num, HN.out⟩
        case measure => simp [intOf]; omega
    · have hqb : decide ((q : Int) ≤ (n : Int)) = false := decide_eq_false (by omega)
      have HBT : Hid (b = true) := HB.out.2 (pr_trial hn HR.out (by omega))
      clear gq
      go_wp2
      go_ret
      rw [HBT.out]
      exact ⟨rfl, rfl⟩

end Go.Proofs.YtidndbdjhapfaaaDoor
