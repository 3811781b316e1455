/- The shapes of curves by the kernel: part 2 of 10. Written by mksh.py. -/
import Derived.Test.YtbeceimopamllaaDoorShM
set_option linter.unusedVariables false
set_option maxRecDepth 100000
namespace Go.Proofs.YtbeceimopamllaaDoor
namespace SH

def tB0 : List (Nat × Nat) := [(19, 2), (67, 2), (97, 5)]
theorem ctB0 : chkTL tB0 = true := by decide +kernel
def tB1 : List (Nat × Nat) := [(191, 19), (199, 3), (283, 3)]
theorem ctB1 : chkTL tB1 = true := by decide +kernel
def tB2 : List (Nat × Nat) := [(353, 3), (383, 5), (433, 5)]
theorem ctB2 : chkTL tB2 = true := by decide +kernel
def tB3 : List (Nat × Nat) := [(563, 2), (571, 3), (677, 2)]
theorem ctB3 : chkTL tB3 = true := by decide +kernel
def tB4 : List (Nat × Nat) := [(683, 5), (809, 3), (853, 2)]
theorem ctB4 : chkTL tB4 = true := by decide +kernel
def tB5 : List (Nat × Nat) := [(937, 5), (997, 7), (1051, 7)]
theorem ctB5 : chkTL tB5 = true := by decide +kernel
def tB6 : List (Nat × Nat) := [(1153, 5), (1193, 3), (1279, 3)]
theorem ctB6 : chkTL tB6 = true := by decide +kernel
def tB7 : List (Nat × Nat) := [(1373, 2), (1429, 6), (1523, 2)]
theorem ctB7 : chkTL tB7 = true := by decide +kernel
def tB8 : List (Nat × Nat) := [(1579, 3), (1627, 3), (1753, 7)]
theorem ctB8 : chkTL tB8 = true := by decide +kernel
def tB9 : List (Nat × Nat) := [(1759, 6), (1867, 2), (1997, 2)]
theorem ctB9 : chkTL tB9 = true := by decide +kernel
def tbB : List (List (Nat × Nat)) := [tB0, tB1, tB2, tB3, tB4, tB5, tB6, tB7, tB8, tB9]
theorem tbB_ok : ∀ l ∈ tbB, chkTL l = true := by
  intro l hl
  unfold tbB at hl
  simp only [List.mem_cons, List.not_mem_nil, or_false] at hl
  rcases hl with rfl | rfl | rfl | rfl | rfl | rfl | rfl | rfl | rfl | rfl
  · exact ctB0
  · exact ctB1
  · exact ctB2
  · exact ctB3
  · exact ctB4
  · exact ctB5
  · exact ctB6
  · exact ctB7
  · exact ctB8
  · exact ctB9

end SH
end Go.Proofs.YtbeceimopamllaaDoor
