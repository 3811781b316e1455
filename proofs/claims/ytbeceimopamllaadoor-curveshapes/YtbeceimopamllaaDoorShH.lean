/- The shapes of curves by the kernel: part 8 of 10. Written by mksh.py. -/
import Derived.Test.YtbeceimopamllaaDoorShM
set_option linter.unusedVariables false
set_option maxRecDepth 100000
namespace Go.Proofs.YtbeceimopamllaaDoor
namespace SH

def tH0 : List (Nat × Nat) := [(13, 2), (79, 3), (89, 3)]
theorem ctH0 : chkTL tH0 = true := by decide +kernel
def tH1 : List (Nat × Nat) := [(181, 2), (197, 2), (293, 2)]
theorem ctH1 : chkTL tH1 = true := by decide +kernel
def tH2 : List (Nat × Nat) := [(313, 10), (419, 2), (443, 2)]
theorem ctH2 : chkTL tH2 = true := by decide +kernel
def tH3 : List (Nat × Nat) := [(541, 2), (587, 2), (661, 2)]
theorem ctH3 : chkTL tH3 = true := by decide +kernel
def tH4 : List (Nat × Nat) := [(701, 2), (823, 3), (829, 2)]
theorem ctH4 : chkTL tH4 = true := by decide +kernel
def tH5 : List (Nat × Nat) := [(953, 3), (977, 3), (1093, 5)]
theorem ctH5 : chkTL tH5 = true := by decide +kernel
def tH6 : List (Nat × Nat) := [(1097, 3), (1217, 3), (1283, 2)]
theorem ctH6 : chkTL tH6 = true := by decide +kernel
def tH7 : List (Nat × Nat) := [(1367, 5), (1451, 2), (1493, 2)]
theorem ctH7 : chkTL tH7 = true := by decide +kernel
def tH8 : List (Nat × Nat) := [(1559, 19), (1663, 3), (1709, 3)]
theorem ctH8 : chkTL tH8 = true := by decide +kernel
def tH9 : List (Nat × Nat) := [(1811, 6), (1901, 2), (1949, 2)]
theorem ctH9 : chkTL tH9 = true := by decide +kernel
def tbH : List (List (Nat × Nat)) := [tH0, tH1, tH2, tH3, tH4, tH5, tH6, tH7, tH8, tH9]
theorem tbH_ok : ∀ l ∈ tbH, chkTL l = true := by
  intro l hl
  unfold tbH at hl
  simp only [List.mem_cons, List.not_mem_nil, or_false] at hl
  rcases hl with rfl | rfl | rfl | rfl | rfl | rfl | rfl | rfl | rfl | rfl
  · exact ctH0
  · exact ctH1
  · exact ctH2
  · exact ctH3
  · exact ctH4
  · exact ctH5
  · exact ctH6
  · exact ctH7
  · exact ctH8
  · exact ctH9

end SH
end Go.Proofs.YtbeceimopamllaaDoor
