/- Gauss's theorem of duplication: the kernel goes through the discriminants down to -2000. -/
import Derived.Test.YtijkanilpblogaeQfX
set_option linter.unusedSimpArgs false
set_option linter.unusedVariables false
set_option maxRecDepth 100000
namespace Go.Proofs.Ytijkanilpblogae.MQ
variable {s n : Int}

theorem chk_3 : chk 3 50 = true := by decide +kernel
theorem chk_53 : chk 53 50 = true := by decide +kernel
theorem chk_103 : chk 103 50 = true := by decide +kernel
theorem chk_153 : chk 153 50 = true := by decide +kernel
theorem chk_203 : chk 203 50 = true := by decide +kernel
theorem chk_253 : chk 253 50 = true := by decide +kernel
theorem chk_303 : chk 303 50 = true := by decide +kernel
theorem chk_353 : chk 353 50 = true := by decide +kernel
theorem chk_403 : chk 403 50 = true := by decide +kernel
theorem chk_453 : chk 453 50 = true := by decide +kernel
theorem chk_503 : chk 503 50 = true := by decide +kernel
theorem chk_553 : chk 553 50 = true := by decide +kernel
theorem chk_603 : chk 603 50 = true := by decide +kernel
theorem chk_653 : chk 653 50 = true := by decide +kernel
theorem chk_703 : chk 703 50 = true := by decide +kernel
theorem chk_753 : chk 753 50 = true := by decide +kernel
theorem chk_803 : chk 803 50 = true := by decide +kernel
theorem chk_853 : chk 853 50 = true := by decide +kernel
theorem chk_903 : chk 903 50 = true := by decide +kernel
theorem chk_953 : chk 953 50 = true := by decide +kernel
theorem chk_1003 : chk 1003 50 = true := by decide +kernel
theorem chk_1053 : chk 1053 50 = true := by decide +kernel
theorem chk_1103 : chk 1103 50 = true := by decide +kernel
theorem chk_1153 : chk 1153 50 = true := by decide +kernel
theorem chk_1203 : chk 1203 50 = true := by decide +kernel
theorem chk_1253 : chk 1253 50 = true := by decide +kernel
theorem chk_1303 : chk 1303 50 = true := by decide +kernel
theorem chk_1353 : chk 1353 50 = true := by decide +kernel
theorem chk_1403 : chk 1403 50 = true := by decide +kernel
theorem chk_1453 : chk 1453 50 = true := by decide +kernel
theorem chk_1503 : chk 1503 50 = true := by decide +kernel
theorem chk_1553 : chk 1553 50 = true := by decide +kernel
theorem chk_1603 : chk 1603 50 = true := by decide +kernel
theorem chk_1653 : chk 1653 50 = true := by decide +kernel
theorem chk_1703 : chk 1703 50 = true := by decide +kernel
theorem chk_1753 : chk 1753 50 = true := by decide +kernel
theorem chk_1803 : chk 1803 50 = true := by decide +kernel
theorem chk_1853 : chk 1853 50 = true := by decide +kernel
theorem chk_1903 : chk 1903 50 = true := by decide +kernel
theorem chk_1953 : chk 1953 48 = true := by decide +kernel

theorem chk_at {lo i : Nat} (h : chk lo i = true) {d : Int} (h1 : (lo : Int) ≤ -d) (h2 : -d < lo + i) (h4 : d % 4 = 0 ∨ d % 4 = 1) : chk1 d = true := by
  unfold chk at h
  have h3 := List.all_eq_true.1 h ((-d).toNat - lo) (List.mem_range.2 (by omega))
  rw [show (-(((-d).toNat - lo + lo : Nat) : Int)) = d by omega] at h3
  rw [if_pos (by rcases h4 with h | h <;> simp [h])] at h3
  exact h3
theorem chk_all {d : Int} (hd : -2000 ≤ d) (h0 : d < 0) (h4 : d % 4 = 0 ∨ d % 4 = 1) : chk1 d = true := by
  by_cases k3 : -d < 53
  · exact chk_at chk_3 (by omega) (by omega) h4
  by_cases k53 : -d < 103
  · exact chk_at chk_53 (by omega) (by omega) h4
  by_cases k103 : -d < 153
  · exact chk_at chk_103 (by omega) (by omega) h4
  by_cases k153 : -d < 203
  · exact chk_at chk_153 (by omega) (by omega) h4
  by_cases k203 : -d < 253
  · exact chk_at chk_203 (by omega) (by omega) h4
  by_cases k253 : -d < 303
  · exact chk_at chk_253 (by omega) (by omega) h4
  by_cases k303 : -d < 353
  · exact chk_at chk_303 (by omega) (by omega) h4
  by_cases k353 : -d < 403
  · exact chk_at chk_353 (by omega) (by omega) h4
  by_cases k403 : -d < 453
  · exact chk_at chk_403 (by omega) (by omega) h4
  by_cases k453 : -d < 503
  · exact chk_at chk_453 (by omega) (by omega) h4
  by_cases k503 : -d < 553
  · exact chk_at chk_503 (by omega) (by omega) h4
  by_cases k553 : -d < 603
  · exact chk_at chk_553 (by omega) (by omega) h4
  by_cases k603 : -d < 653
  · exact chk_at chk_603 (by omega) (by omega) h4
  by_cases k653 : -d < 703
  · exact chk_at chk_653 (by omega) (by omega) h4
  by_cases k703 : -d < 753
  · exact chk_at chk_703 (by omega) (by omega) h4
  by_cases k753 : -d < 803
  · exact chk_at chk_753 (by omega) (by omega) h4
  by_cases k803 : -d < 853
  · exact chk_at chk_803 (by omega) (by omega) h4
  by_cases k853 : -d < 903
  · exact chk_at chk_853 (by omega) (by omega) h4
  by_cases k903 : -d < 953
  · exact chk_at chk_903 (by omega) (by omega) h4
  by_cases k953 : -d < 1003
  · exact chk_at chk_953 (by omega) (by omega) h4
  by_cases k1003 : -d < 1053
  · exact chk_at chk_1003 (by omega) (by omega) h4
  by_cases k1053 : -d < 1103
  · exact chk_at chk_1053 (by omega) (by omega) h4
  by_cases k1103 : -d < 1153
  · exact chk_at chk_1103 (by omega) (by omega) h4
  by_cases k1153 : -d < 1203
  · exact chk_at chk_1153 (by omega) (by omega) h4
  by_cases k1203 : -d < 1253
  · exact chk_at chk_1203 (by omega) (by omega) h4
  by_cases k1253 : -d < 1303
  · exact chk_at chk_1253 (by omega) (by omega) h4
  by_cases k1303 : -d < 1353
  · exact chk_at chk_1303 (by omega) (by omega) h4
  by_cases k1353 : -d < 1403
  · exact chk_at chk_1353 (by omega) (by omega) h4
  by_cases k1403 : -d < 1453
  · exact chk_at chk_1403 (by omega) (by omega) h4
  by_cases k1453 : -d < 1503
  · exact chk_at chk_1453 (by omega) (by omega) h4
  by_cases k1503 : -d < 1553
  · exact chk_at chk_1503 (by omega) (by omega) h4
  by_cases k1553 : -d < 1603
  · exact chk_at chk_1553 (by omega) (by omega) h4
  by_cases k1603 : -d < 1653
  · exact chk_at chk_1603 (by omega) (by omega) h4
  by_cases k1653 : -d < 1703
  · exact chk_at chk_1653 (by omega) (by omega) h4
  by_cases k1703 : -d < 1753
  · exact chk_at chk_1703 (by omega) (by omega) h4
  by_cases k1753 : -d < 1803
  · exact chk_at chk_1753 (by omega) (by omega) h4
  by_cases k1803 : -d < 1853
  · exact chk_at chk_1803 (by omega) (by omega) h4
  by_cases k1853 : -d < 1903
  · exact chk_at chk_1853 (by omega) (by omega) h4
  by_cases k1903 : -d < 1953
  · exact chk_at chk_1903 (by omega) (by omega) h4
  by_cases k1953 : -d < 2001
  · exact chk_at chk_1953 (by omega) (by omega) h4
  omega

end Go.Proofs.Ytijkanilpblogae.MQ
