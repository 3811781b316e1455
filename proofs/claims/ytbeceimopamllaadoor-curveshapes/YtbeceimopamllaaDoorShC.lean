/- The shapes of curves by the kernel: part 3 of 10. Written by mksh.py. -/
import Derived.Test.YtbeceimopamllaaDoorShM
set_option linter.unusedVariables false
set_option maxRecDepth 100000
namespace Go.Proofs.YtbeceimopamllaaDoor
namespace SH

def tC0 : List (Nat × Nat) := [(29, 2), (59, 2), (127, 3)]
theorem ctC0 : chkTL tC0 = true := by decide +kernel
def tC1 : List (Nat × Nat) := [(151, 6), (223, 3), (277, 5)]
theorem ctC1 : chkTL tC1 = true := by decide +kernel
def tC2 : List (Nat × Nat) := [(311, 17), (431, 7), (467, 2)]
theorem ctC2 : chkTL tC2 = true := by decide +kernel
def tC3 : List (Nat × Nat) := [(503, 5), (613, 2), (631, 3)]
theorem ctC3 : chkTL tC3 = true := by decide +kernel
def tC4 : List (Nat × Nat) := [(719, 11), (797, 2), (863, 5)]
theorem ctC4 : chkTL tC4 = true := by decide +kernel
def tC5 : List (Nat × Nat) := [(919, 7), (1013, 3), (1069, 6)]
theorem ctC5 : chkTL tC5 = true := by decide +kernel
def tC6 : List (Nat × Nat) := [(1117, 2), (1231, 3), (1301, 2)]
theorem ctC6 : chkTL tC6 = true := by decide +kernel
def tC7 : List (Nat × Nat) := [(1321, 13), (1459, 3), (1483, 2)]
theorem ctC7 : chkTL tC7 = true := by decide +kernel
def tC8 : List (Nat × Nat) := [(1601, 3), (1609, 7), (1747, 2)]
theorem ctC8 : chkTL tC8 = true := by decide +kernel
def tC9 : List (Nat × Nat) := [(1777, 5), (1871, 14), (1993, 5)]
theorem ctC9 : chkTL tC9 = true := by decide +kernel
def tbC : List (List (Nat × Nat)) := [tC0, tC1, tC2, tC3, tC4, tC5, tC6, tC7, tC8, tC9]
theorem tbC_ok : ∀ l ∈ tbC, chkTL l = true := by
  intro l hl
  unfold tbC at hl
  simp only [List.mem_cons, List.not_mem_nil, or_false] at hl
  rcases hl with rfl | rfl | rfl | rfl | rfl | rfl | rfl | rfl | rfl | rfl
  · exact ctC0
  · exact ctC1
  · exact ctC2
  · exact ctC3
  · exact ctC4
  · exact ctC5
  · exact ctC6
  · exact ctC7
  · exact ctC8
  · exact ctC9

end SH
end Go.Proofs.YtbeceimopamllaaDoor
