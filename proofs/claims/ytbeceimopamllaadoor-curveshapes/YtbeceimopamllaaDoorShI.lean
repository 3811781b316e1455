/- The shapes of curves by the kernel: part 9 of 10. Written by mksh.py. -/
import Derived.Test.YtbeceimopamllaaDoorShM
set_option linter.unusedVariables false
set_option maxRecDepth 100000
namespace Go.Proofs.YtbeceimopamllaaDoor
namespace SH

def tI0 : List (Nat × Nat) := [(17, 3), (73, 5), (109, 6)]
theorem ctI0 : chkTL tI0 = true := by decide +kernel
def tI1 : List (Nat × Nat) := [(163, 2), (229, 6), (269, 2)]
theorem ctI1 : chkTL tI1 = true := by decide +kernel
def tI2 : List (Nat × Nat) := [(359, 7), (379, 2), (449, 3)]
theorem ctI2 : chkTL tI2 = true := by decide +kernel
def tI3 : List (Nat × Nat) := [(547, 2), (577, 5), (659, 2)]
theorem ctI3 : chkTL tI3 = true := by decide +kernel
def tI4 : List (Nat × Nat) := [(733, 6), (769, 11), (883, 2)]
theorem ctI4 : chkTL tI4 = true := by decide +kernel
def tI5 : List (Nat × Nat) := [(887, 5), (1031, 14), (1063, 3)]
theorem ctI5 : chkTL tI5 = true := by decide +kernel
def tI6 : List (Nat × Nat) := [(1123, 2), (1229, 2), (1297, 10)]
theorem ctI6 : chkTL tI6 = true := by decide +kernel
def tI7 : List (Nat × Nat) := [(1327, 3), (1427, 2), (1531, 2)]
theorem ctI7 : chkTL tI7 = true := by decide +kernel
def tI8 : List (Nat × Nat) := [(1583, 5), (1619, 2), (1693, 2)]
theorem ctI8 : chkTL tI8 = true := by decide +kernel
def tI9 : List (Nat × Nat) := [(1847, 5), (1907, 2), (1933, 5)]
theorem ctI9 : chkTL tI9 = true := by decide +kernel
def tbI : List (List (Nat × Nat)) := [tI0, tI1, tI2, tI3, tI4, tI5, tI6, tI7, tI8, tI9]
theorem tbI_ok : ∀ l ∈ tbI, chkTL l = true := by
  intro l hl
  unfold tbI at hl
  simp only [List.mem_cons, List.not_mem_nil, or_false] at hl
  rcases hl with rfl | rfl | rfl | rfl | rfl | rfl | rfl | rfl | rfl | rfl
  · exact ctI0
  · exact ctI1
  · exact ctI2
  · exact ctI3
  · exact ctI4
  · exact ctI5
  · exact ctI6
  · exact ctI7
  · exact ctI8
  · exact ctI9

end SH
end Go.Proofs.YtbeceimopamllaaDoor
