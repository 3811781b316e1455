/- Hasse's bound by the kernel: part 6 of 8. Written by mkhs.py. -/
import Derived.Test.YtbeceimopamllaaDoorHsM
set_option linter.unusedVariables false
set_option maxRecDepth 100000
namespace Go.Proofs.YtbeceimopamllaaDoor
namespace HS

def tF0 : List (Nat × Nat) := [(5, 2), (43, 3), (61, 2), (97, 5)]
theorem ctF0 : chkL tF0 = true := by decide +kernel
def tF1 : List (Nat × Nat) := [(167, 5), (181, 2), (241, 7), (263, 5)]
theorem ctF1 : chkL tF1 = true := by decide +kernel
def tF2 : List (Nat × Nat) := [(353, 3), (359, 7), (449, 3), (463, 3)]
theorem ctF2 : chkL tF2 = true := by decide +kernel
def tF3 : List (Nat × Nat) := [(541, 2), (587, 2), (617, 3), (701, 2)]
theorem ctF3 : chkL tF3 = true := by decide +kernel
def tF4 : List (Nat × Nat) := [(727, 5), (823, 3), (829, 2), (929, 3)]
theorem ctF4 : chkL tF4 = true := by decide +kernel
def tF5 : List (Nat × Nat) := [(947, 2), (1031, 14), (1069, 6), (1117, 2)]
theorem ctF5 : chkL tF5 = true := by decide +kernel
def tF6 : List (Nat × Nat) := [(1193, 3), (1229, 2), (1289, 6), (1399, 13)]
theorem ctF6 : chkL tF6 = true := by decide +kernel
def tF7 : List (Nat × Nat) := [(1433, 3), (1471, 6), (1559, 19), (1579, 3)]
theorem ctF7 : chkL tF7 = true := by decide +kernel
def tF8 : List (Nat × Nat) := [(1663, 3), (1709, 3), (1787, 2), (1831, 3)]
theorem ctF8 : chkL tF8 = true := by decide +kernel
def tF9 : List (Nat × Nat) := [(1913, 3), (1973, 2)]
theorem ctF9 : chkL tF9 = true := by decide +kernel
def tbF : List (List (Nat × Nat)) := [tF0, tF1, tF2, tF3, tF4, tF5, tF6, tF7, tF8, tF9]
theorem tbF_ok : ∀ l ∈ tbF, chkL l = true := by
  intro l hl
  unfold tbF at hl
  simp only [List.mem_cons, List.not_mem_nil, or_false] at hl
  rcases hl with rfl | rfl | rfl | rfl | rfl | rfl | rfl | rfl | rfl | rfl
  · exact ctF0
  · exact ctF1
  · exact ctF2
  · exact ctF3
  · exact ctF4
  · exact ctF5
  · exact ctF6
  · exact ctF7
  · exact ctF8
  · exact ctF9

end HS
end Go.Proofs.YtbeceimopamllaaDoor
