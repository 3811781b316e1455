/- The kernel goes through the lists of all d up to 12320. -/
import Derived.Test.YtfbgblidlabipaaGreatDoorJnX
set_option linter.unusedSimpArgs false
set_option linter.unusedVariables false
set_option maxRecDepth 100000
set_option maxRecDepth 100000
namespace Go.Proofs.YtfbgblidlabipaaGreatDoor.UtM
open CfM

theorem ka0 : chkrs 1 53 = true := by decide +kernel
theorem ka1 : chkrs 54 14 = true := by decide +kernel
theorem ka2 : chkrs 68 10 = true := by decide +kernel
theorem ka3 : chkrs 78 8 = true := by decide +kernel
theorem ka4 : chkrs 86 7 = true := by decide +kernel
theorem ka5 : chkrs 93 6 = true := by decide +kernel
theorem ka6 : chkrs 99 5 = true := by decide +kernel
theorem ka7 : chkrs 104 5 = true := by decide +kernel
theorem ka8 : chkrs 109 2 = true := by decide +kernel

theorem chkd_low {d r : Nat} (hr : Rn d r) (h : r ≤ 110) : chkd d r = true := by
  have := hr.r1
  by_cases h0 : r < 54
  · exact chkd_of ka0 hr (by omega) h0
  by_cases h1 : r < 68
  · exact chkd_of ka1 hr (by omega) h1
  by_cases h2 : r < 78
  · exact chkd_of ka2 hr (by omega) h2
  by_cases h3 : r < 86
  · exact chkd_of ka3 hr (by omega) h3
  by_cases h4 : r < 93
  · exact chkd_of ka4 hr (by omega) h4
  by_cases h5 : r < 99
  · exact chkd_of ka5 hr (by omega) h5
  by_cases h6 : r < 104
  · exact chkd_of ka6 hr (by omega) h6
  by_cases h7 : r < 109
  · exact chkd_of ka7 hr (by omega) h7
  by_cases h8 : r < 111
  · exact chkd_of ka8 hr (by omega) h8
  omega

end Go.Proofs.YtfbgblidlabipaaGreatDoor.UtM
