/- Hasse's bound by the kernel: part 8 of 8. Written by mkhs.py. -/
import Derived.Test.YtbeceimopamllaaDoorHsM
set_option linter.unusedVariables false
set_option maxRecDepth 100000
namespace Go.Proofs.YtbeceimopamllaaDoor
namespace HS

def tH0 : List (Nat × Nat) := [(17, 3), (23, 5), (79, 3), (113, 3)]
theorem ctH0 : chkL tH0 = true := by decide +kernel
def tH1 : List (Nat × Nat) := [(139, 2), (191, 19), (239, 7), (281, 3)]
theorem ctH1 : chkL tH1 = true := by decide +kernel
def tH2 : List (Nat × Nat) := [(331, 3), (389, 2), (419, 2), (487, 3)]
theorem ctH2 : chkL tH2 = true := by decide +kernel
def tH3 : List (Nat × Nat) := [(523, 2), (593, 3), (631, 3), (683, 5)]
theorem ctH3 : chkL tH3 = true := by decide +kernel
def tH4 : List (Nat × Nat) := [(743, 5), (797, 2), (863, 5), (883, 2)]
theorem ctH4 : chkL tH4 = true := by decide +kernel
def tH5 : List (Nat × Nat) := [(983, 5), (1019, 2), (1051, 7), (1153, 5)]
theorem ctH5 : chkL tH5 = true := by decide +kernel
def tH6 : List (Nat × Nat) := [(1163, 5), (1259, 2), (1301, 2), (1367, 5)]
theorem ctH6 : chkL tH6 = true := by decide +kernel
def tH7 : List (Nat × Nat) := [(1439, 7), (1489, 14), (1531, 2), (1613, 3)]
theorem ctH7 : chkL tH7 = true := by decide +kernel
def tH8 : List (Nat × Nat) := [(1627, 3), (1721, 3), (1753, 7), (1867, 2)]
theorem ctH8 : chkL tH8 = true := by decide +kernel
def tH9 : List (Nat × Nat) := [(1933, 5), (1949, 2)]
theorem ctH9 : chkL tH9 = true := by decide +kernel
def tbH : List (List (Nat × Nat)) := [tH0, tH1, tH2, tH3, tH4, tH5, tH6, tH7, tH8, tH9]
theorem tbH_ok : ∀ l ∈ tbH, chkL l = true := by
  intro l hl
  unfold tbH at hl
  simp only [List.mem_cons, List.not_mem_nil, or_false] at hl
  rcases hl with rfl | rfl | rfl | rfl | rfl | rfl | rfl | rfl | rfl | rfl
  · exact ctH0
  · exact ctH1
  · exact ctH2
  · exact ctH3
  · exact ctH4
  · exact ctH5
  · exact ctH6
  · exact ctH7
  · exact ctH8
  · exact ctH9

end HS
end Go.Proofs.YtbeceimopamllaaDoor
