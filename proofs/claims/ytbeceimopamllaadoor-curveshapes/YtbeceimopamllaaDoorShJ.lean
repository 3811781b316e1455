/- The shapes of curves by the kernel: part 10 of 10. Written by mksh.py. -/
import Derived.Test.YtbeceimopamllaaDoorShM
set_option linter.unusedVariables false
set_option maxRecDepth 100000
namespace Go.Proofs.YtbeceimopamllaaDoor
namespace SH

def tJ0 : List (Nat × Nat) := [(11, 2), (71, 7), (107, 2)]
theorem ctJ0 : chkTL tJ0 = true := by decide +kernel
def tJ1 : List (Nat × Nat) := [(167, 5), (233, 3), (263, 5)]
theorem ctJ1 : chkTL tJ1 = true := by decide +kernel
def tJ2 : List (Nat × Nat) := [(331, 3), (409, 21), (461, 2)]
theorem ctJ2 : chkTL tJ2 = true := by decide +kernel
def tJ3 : List (Nat × Nat) := [(523, 2), (593, 3), (647, 5)]
theorem ctJ3 : chkTL tJ3 = true := by decide +kernel
def tJ4 : List (Nat × Nat) := [(739, 3), (773, 2), (859, 2)]
theorem ctJ4 : chkTL tJ4 = true := by decide +kernel
def tJ5 : List (Nat × Nat) := [(929, 3), (1009, 11), (1033, 5)]
theorem ctJ5 : chkTL tJ5 = true := by decide +kernel
def tJ6 : List (Nat × Nat) := [(1171, 2), (1181, 7), (1277, 2)]
theorem ctJ6 : chkTL tJ6 = true := by decide +kernel
def tJ7 : List (Nat × Nat) := [(1381, 2), (1447, 3), (1499, 2)]
theorem ctJ7 : chkTL tJ7 = true := by decide +kernel
def tJ8 : List (Nat × Nat) := [(1553, 3), (1669, 2), (1699, 3)]
theorem ctJ8 : chkTL tJ8 = true := by decide +kernel
def tJ9 : List (Nat × Nat) := [(1823, 5), (1913, 3), (1931, 2)]
theorem ctJ9 : chkTL tJ9 = true := by decide +kernel
def tbJ : List (List (Nat × Nat)) := [tJ0, tJ1, tJ2, tJ3, tJ4, tJ5, tJ6, tJ7, tJ8, tJ9]
theorem tbJ_ok : ∀ l ∈ tbJ, chkTL l = true := by
  intro l hl
  unfold tbJ at hl
  simp only [List.mem_cons, List.not_mem_nil, or_false] at hl
  rcases hl with rfl | rfl | rfl | rfl | rfl | rfl | rfl | rfl | rfl | rfl
  · exact ctJ0
  · exact ctJ1
  · exact ctJ2
  · exact ctJ3
  · exact ctJ4
  · exact ctJ5
  · exact ctJ6
  · exact ctJ7
  · exact ctJ8
  · exact ctJ9

end SH
end Go.Proofs.YtbeceimopamllaaDoor
