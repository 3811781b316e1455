/- The shapes of curves by the kernel: part 4 of 10. Written by mksh.py. -/
import Derived.Test.YtbeceimopamllaaDoorShM
set_option linter.unusedVariables false
set_option maxRecDepth 100000
namespace Go.Proofs.YtbeceimopamllaaDoor
namespace SH

def tD0 : List (Nat × Nat) := [(7, 3), (83, 2), (113, 3)]
theorem ctD0 : chkTL tD0 = true := by decide +kernel
def tD1 : List (Nat × Nat) := [(157, 5), (227, 2), (271, 6)]
theorem ctD1 : chkTL tD1 = true := by decide +kernel
def tD2 : List (Nat × Nat) := [(349, 2), (389, 2), (439, 15)]
theorem ctD2 : chkTL tD2 = true := by decide +kernel
def tD3 : List (Nat × Nat) := [(557, 2), (569, 3), (673, 5)]
theorem ctD3 : chkTL tD3 = true := by decide +kernel
def tD4 : List (Nat × Nat) := [(691, 3), (821, 2), (839, 11)]
theorem ctD4 : chkTL tD4 = true := by decide +kernel
def tD5 : List (Nat × Nat) := [(947, 2), (983, 5), (1087, 3)]
theorem ctD5 : chkTL tD5 = true := by decide +kernel
def tD6 : List (Nat × Nat) := [(1103, 5), (1213, 2), (1289, 6)]
theorem ctD6 : chkTL tD6 = true := by decide +kernel
def tD7 : List (Nat × Nat) := [(1361, 3), (1453, 2), (1489, 14)]
theorem ctD7 : chkTL tD7 = true := by decide +kernel
def tD8 : List (Nat × Nat) := [(1567, 3), (1657, 11), (1723, 3)]
theorem ctD8 : chkTL tD8 = true := by decide +kernel
def tD9 : List (Nat × Nat) := [(1787, 2), (1873, 10), (1987, 2)]
theorem ctD9 : chkTL tD9 = true := by decide +kernel
def tbD : List (List (Nat × Nat)) := [tD0, tD1, tD2, tD3, tD4, tD5, tD6, tD7, tD8, tD9]
theorem tbD_ok : ∀ l ∈ tbD, chkTL l = true := by
  intro l hl
  unfold tbD at hl
  simp only [List.mem_cons, List.not_mem_nil, or_false] at hl
  rcases hl with rfl | rfl | rfl | rfl | rfl | rfl | rfl | rfl | rfl | rfl
  · exact ctD0
  · exact ctD1
  · exact ctD2
  · exact ctD3
  · exact ctD4
  · exact ctD5
  · exact ctD6
  · exact ctD7
  · exact ctD8
  · exact ctD9

end SH
end Go.Proofs.YtbeceimopamllaaDoor
