/- Hasse's bound by the kernel: part 3 of 8. Written by mkhs.py. -/
import Derived.Test.YtbeceimopamllaaDoorHsM
set_option linter.unusedVariables false
set_option maxRecDepth 100000
namespace Go.Proofs.YtbeceimopamllaaDoor
namespace HS

def tC0 : List (Nat × Nat) := [(37, 2), (67, 2), (101, 2), (157, 5)]
theorem ctC0 : chkL tC0 = true := by decide +kernel
def tC1 : List (Nat × Nat) := [(179, 2), (257, 3), (283, 3), (311, 17)]
theorem ctC1 : chkL tC1 = true := by decide +kernel
def tC2 : List (Nat × Nat) := [(397, 5), (421, 2), (491, 2), (509, 2)]
theorem ctC2 : chkL tC2 = true := by decide +kernel
def tC3 : List (Nat × Nat) := [(601, 7), (647, 5), (661, 2), (751, 3)]
theorem ctC3 : chkL tC3 = true := by decide +kernel
def tC4 : List (Nat × Nat) := [(787, 2), (853, 2), (907, 2), (971, 6)]
theorem ctC4 : chkL tC4 = true := by decide +kernel
def tC5 : List (Nat × Nat) := [(1009, 11), (1093, 5), (1097, 3), (1213, 2)]
theorem ctC5 : chkL tC5 = true := by decide +kernel
def tC6 : List (Nat × Nat) := [(1237, 2), (1303, 6), (1361, 3), (1453, 2)]
theorem ctC6 : chkL tC6 = true := by decide +kernel
def tC7 : List (Nat × Nat) := [(1459, 3), (1567, 3), (1571, 2), (1667, 2)]
theorem ctC7 : chkL tC7 = true := by decide +kernel
def tC8 : List (Nat × Nat) := [(1697, 3), (1783, 10), (1847, 5), (1889, 3)]
theorem ctC8 : chkL tC8 = true := by decide +kernel
def tC9 : List (Nat × Nat) := [(1993, 5)]
theorem ctC9 : chkL tC9 = true := by decide +kernel
def tbC : List (List (Nat × Nat)) := [tC0, tC1, tC2, tC3, tC4, tC5, tC6, tC7, tC8, tC9]
theorem tbC_ok : ∀ l ∈ tbC, chkL l = true := by
  intro l hl
  unfold tbC at hl
  simp only [List.mem_cons, List.not_mem_nil, or_false] at hl
  rcases hl with rfl | rfl | rfl | rfl | rfl | rfl | rfl | rfl | rfl | rfl
  · exact ctC0
  · exact ctC1
  · exact ctC2
  · exact ctC3
  · exact ctC4
  · exact ctC5
  · exact ctC6
  · exact ctC7
  · exact ctC8
  · exact ctC9

end HS
end Go.Proofs.YtbeceimopamllaaDoor
