/- Hasse's bound by the kernel: part 4 of 8. Written by mkhs.py. -/
import Derived.Test.YtbeceimopamllaaDoorHsM
set_option linter.unusedVariables false
set_option maxRecDepth 100000
namespace Go.Proofs.YtbeceimopamllaaDoor
namespace HS

def tD0 : List (Nat × Nat) := [(47, 5), (59, 2), (107, 2), (149, 2)]
theorem ctD0 : chkL tD0 = true := by decide +kernel
def tD1 : List (Nat × Nat) := [(199, 3), (229, 6), (269, 2), (347, 2)]
theorem ctD1 : chkL tD1 = true := by decide +kernel
def tD2 : List (Nat × Nat) := [(373, 2), (439, 15), (457, 13), (563, 2)]
theorem ctD2 : chkL tD2 = true := by decide +kernel
def tD3 : List (Nat × Nat) := [(569, 3), (643, 11), (673, 5), (761, 6)]
theorem ctD3 : chkL tD3 = true := by decide +kernel
def tD4 : List (Nat × Nat) := [(773, 2), (857, 3), (919, 7), (953, 3)]
theorem ctD4 : chkL tD4 = true := by decide +kernel
def tD5 : List (Nat × Nat) := [(1033, 5), (1063, 3), (1123, 2), (1187, 2)]
theorem ctD5 : chkL tD5 = true := by decide +kernel
def tD6 : List (Nat × Nat) := [(1249, 7), (1297, 10), (1373, 2), (1429, 6)]
theorem ctD6 : chkL tD6 = true := by decide +kernel
def tD7 : List (Nat × Nat) := [(1487, 5), (1543, 5), (1601, 3), (1637, 2)]
theorem ctD7 : chkL tD7 = true := by decide +kernel
def tD8 : List (Nat × Nat) := [(1723, 3), (1801, 11), (1811, 6), (1901, 2)]
theorem ctD8 : chkL tD8 = true := by decide +kernel
def tD9 : List (Nat × Nat) := [(1987, 2)]
theorem ctD9 : chkL tD9 = true := by decide +kernel
def tbD : List (List (Nat × Nat)) := [tD0, tD1, tD2, tD3, tD4, tD5, tD6, tD7, tD8, tD9]
theorem tbD_ok : ∀ l ∈ tbD, chkL l = true := by
  intro l hl
  unfold tbD at hl
  simp only [List.mem_cons, List.not_mem_nil, or_false] at hl
  rcases hl with rfl | rfl | rfl | rfl | rfl | rfl | rfl | rfl | rfl | rfl
  · exact ctD0
  · exact ctD1
  · exact ctD2
  · exact ctD3
  · exact ctD4
  · exact ctD5
  · exact ctD6
  · exact ctD7
  · exact ctD8
  · exact ctD9

end HS
end Go.Proofs.YtbeceimopamllaaDoor
