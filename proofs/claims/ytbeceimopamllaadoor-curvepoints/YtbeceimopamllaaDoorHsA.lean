/- Hasse's bound by the kernel: part 1 of 8. Written by mkhs.py. -/
import Derived.Test.YtbeceimopamllaaDoorHsM
set_option linter.unusedVariables false
set_option maxRecDepth 100000
namespace Go.Proofs.YtbeceimopamllaaDoor
namespace HS

def tA0 : List (Nat × Nat) := [(13, 2), (19, 2), (83, 2), (89, 3)]
theorem ctA0 : chkL tA0 = true := by decide +kernel
def tA1 : List (Nat × Nat) := [(163, 2), (173, 2), (251, 6), (293, 2)]
theorem ctA1 : chkL tA1 = true := by decide +kernel
def tA2 : List (Nat × Nat) := [(317, 2), (383, 5), (433, 5), (467, 2)]
theorem ctA2 : chkL tA2 = true := by decide +kernel
def tA3 : List (Nat × Nat) := [(547, 2), (577, 5), (641, 3), (677, 2)]
theorem ctA3 : chkL tA3 = true := by decide +kernel
def tA4 : List (Nat × Nat) := [(733, 6), (809, 3), (859, 2), (881, 3)]
theorem ctA4 : chkL tA4 = true := by decide +kernel
def tA5 : List (Nat × Nat) := [(991, 6), (997, 7), (1091, 2), (1103, 5)]
theorem ctA5 : chkL tA5 = true := by decide +kernel
def tA6 : List (Nat × Nat) := [(1217, 3), (1231, 3), (1291, 2), (1381, 2)]
theorem ctA6 : chkL tA6 = true := by decide +kernel
def tA7 : List (Nat × Nat) := [(1427, 2), (1481, 3), (1553, 3), (1583, 5)]
theorem ctA7 : chkL tA7 = true := by decide +kernel
def tA8 : List (Nat × Nat) := [(1669, 2), (1699, 3), (1759, 6), (1871, 14)]
theorem ctA8 : chkL tA8 = true := by decide +kernel
def tA9 : List (Nat × Nat) := [(1877, 2), (1999, 3)]
theorem ctA9 : chkL tA9 = true := by decide +kernel
def tbA : List (List (Nat × Nat)) := [tA0, tA1, tA2, tA3, tA4, tA5, tA6, tA7, tA8, tA9]
theorem tbA_ok : ∀ l ∈ tbA, chkL l = true := by
  intro l hl
  unfold tbA at hl
  simp only [List.mem_cons, List.not_mem_nil, or_false] at hl
  rcases hl with rfl | rfl | rfl | rfl | rfl | rfl | rfl | rfl | rfl | rfl
  · exact ctA0
  · exact ctA1
  · exact ctA2
  · exact ctA3
  · exact ctA4
  · exact ctA5
  · exact ctA6
  · exact ctA7
  · exact ctA8
  · exact ctA9

end HS
end Go.Proofs.YtbeceimopamllaaDoor
