/- The kernel goes through units and Pell solutions of all d up to 3024. -/
import Derived.Test.YtfbgblidlabipaaGreatDoorJnX
set_option linter.unusedSimpArgs false
set_option linter.unusedVariables false
set_option maxRecDepth 100000
set_option maxRecDepth 100000
namespace Go.Proofs.YtfbgblidlabipaaGreatDoor.UtM
open CfM

theorem kc0 : chkprs 1 27 = true := by decide +kernel
theorem kc1 : chkprs 28 7 = true := by decide +kernel
theorem kc2 : chkprs 35 5 = true := by decide +kernel
theorem kc3 : chkprs 40 4 = true := by decide +kernel
theorem kc4 : chkprs 44 4 = true := by decide +kernel
theorem kc5 : chkprs 48 3 = true := by decide +kernel
theorem kc6 : chkprs 51 3 = true := by decide +kernel
theorem kc7 : chkprs 54 1 = true := by decide +kernel

theorem chkp_all {d r : Nat} (hr : Rn d r) (h : r ≤ 54) : chkp d r = true := by
  have := hr.r1
  by_cases h0 : r < 28
  · exact chkp_of kc0 hr (by omega) h0
  by_cases h1 : r < 35
  · exact chkp_of kc1 hr (by omega) h1
  by_cases h2 : r < 40
  · exact chkp_of kc2 hr (by omega) h2
  by_cases h3 : r < 44
  · exact chkp_of kc3 hr (by omega) h3
  by_cases h4 : r < 48
  · exact chkp_of kc4 hr (by omega) h4
  by_cases h5 : r < 51
  · exact chkp_of kc5 hr (by omega) h5
  by_cases h6 : r < 54
  · exact chkp_of kc6 hr (by omega) h6
  by_cases h7 : r < 55
  · exact chkp_of kc7 hr (by omega) h7
  omega

end Go.Proofs.YtfbgblidlabipaaGreatDoor.UtM
