/- The kernel goes through the lists of all d from 12322 to 20163. -/
import Derived.Test.YtfbgblidlabipaaGreatDoorJnX
set_option linter.unusedSimpArgs false
set_option linter.unusedVariables false
set_option maxRecDepth 100000
set_option maxRecDepth 100000
namespace Go.Proofs.YtfbgblidlabipaaGreatDoor.UtM
open CfM

theorem kb0 : chkrs 111 4 = true := by decide +kernel
theorem kb1 : chkrs 115 4 = true := by decide +kernel
theorem kb2 : chkrs 119 4 = true := by decide +kernel
theorem kb3 : chkrs 123 3 = true := by decide +kernel
theorem kb4 : chkrs 126 3 = true := by decide +kernel
theorem kb5 : chkrs 129 3 = true := by decide +kernel
theorem kb6 : chkrs 132 3 = true := by decide +kernel
theorem kb7 : chkrs 135 3 = true := by decide +kernel
theorem kb8 : chkrs 138 3 = true := by decide +kernel
theorem kb9 : chkrs 141 1 = true := by decide +kernel

theorem chkd_high {d r : Nat} (hr : Rn d r) (h0 : 111 ≤ r) (h : r ≤ 141) : chkd d r = true := by
  by_cases h0 : r < 115
  · exact chkd_of kb0 hr (by omega) h0
  by_cases h1 : r < 119
  · exact chkd_of kb1 hr (by omega) h1
  by_cases h2 : r < 123
  · exact chkd_of kb2 hr (by omega) h2
  by_cases h3 : r < 126
  · exact chkd_of kb3 hr (by omega) h3
  by_cases h4 : r < 129
  · exact chkd_of kb4 hr (by omega) h4
  by_cases h5 : r < 132
  · exact chkd_of kb5 hr (by omega) h5
  by_cases h6 : r < 135
  · exact chkd_of kb6 hr (by omega) h6
  by_cases h7 : r < 138
  · exact chkd_of kb7 hr (by omega) h7
  by_cases h8 : r < 141
  · exact chkd_of kb8 hr (by omega) h8
  by_cases h9 : r < 142
  · exact chkd_of kb9 hr (by omega) h9
  omega

end Go.Proofs.YtfbgblidlabipaaGreatDoor.UtM
