/- The shapes of curves by the kernel: part 1 of 10. Written by mksh.py. -/
import Derived.Test.YtbeceimopamllaaDoorShM
set_option linter.unusedVariables false
set_option maxRecDepth 100000
namespace Go.Proofs.YtbeceimopamllaaDoor
namespace SH

def tA0 : List (Nat × Nat) := [(41, 6), (43, 3), (131, 2)]
theorem ctA0 : chkTL tA0 = true := by decide +kernel
def tA1 : List (Nat × Nat) := [(149, 2), (239, 7), (257, 3)]
theorem ctA1 : chkTL tA1 = true := by decide +kernel
def tA2 : List (Nat × Nat) := [(347, 2), (397, 5), (457, 13)]
theorem ctA2 : chkTL tA2 = true := by decide +kernel
def tA3 : List (Nat × Nat) := [(521, 3), (617, 3), (619, 2)]
theorem ctA3 : chkTL tA3 = true := by decide +kernel
def tA4 : List (Nat × Nat) := [(751, 3), (757, 2), (881, 3)]
theorem ctA4 : chkTL tA4 = true := by decide +kernel
def tA5 : List (Nat × Nat) := [(907, 2), (1021, 10), (1061, 2)]
theorem ctA5 : chkTL tA5 = true := by decide +kernel
def tA6 : List (Nat × Nat) := [(1129, 11), (1201, 11), (1249, 7)]
theorem ctA6 : chkTL tA6 = true := by decide +kernel
def tA7 : List (Nat × Nat) := [(1409, 3), (1439, 7), (1481, 3)]
theorem ctA7 : chkTL tA7 = true := by decide +kernel
def tA8 : List (Nat × Nat) := [(1607, 5), (1613, 3), (1741, 2)]
theorem ctA8 : chkTL tA8 = true := by decide +kernel
def tA9 : List (Nat × Nat) := [(1783, 10), (1861, 2), (1999, 3)]
theorem ctA9 : chkTL tA9 = true := by decide +kernel
def tbA : List (List (Nat × Nat)) := [tA0, tA1, tA2, tA3, tA4, tA5, tA6, tA7, tA8, tA9]
theorem tbA_ok : ∀ l ∈ tbA, chkTL l = true := by
  intro l hl
  unfold tbA at hl
  simp only [List.mem_cons, List.not_mem_nil, or_false] at hl
  rcases hl with rfl | rfl | rfl | rfl | rfl | rfl | rfl | rfl | rfl | rfl
  · exact ctA0
  · exact ctA1
  · exact ctA2
  · exact ctA3
  · exact ctA4
  · exact ctA5
  · exact ctA6
  · exact ctA7
  · exact ctA8
  · exact ctA9

end SH
end Go.Proofs.YtbeceimopamllaaDoor
