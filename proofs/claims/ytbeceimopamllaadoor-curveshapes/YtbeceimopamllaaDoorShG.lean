/- The shapes of curves by the kernel: part 7 of 10. Written by mksh.py. -/
import Derived.Test.YtbeceimopamllaaDoorShM
set_option linter.unusedVariables false
set_option maxRecDepth 100000
namespace Go.Proofs.YtbeceimopamllaaDoor
namespace SH

def tG0 : List (Nat × Nat) := [(23, 5), (61, 2), (101, 2)]
theorem ctG0 : chkTL tG0 = true := by decide +kernel
def tG1 : List (Nat × Nat) := [(179, 2), (211, 2), (281, 3)]
theorem ctG1 : chkTL tG1 = true := by decide +kernel
def tG2 : List (Nat × Nat) := [(337, 10), (401, 3), (479, 13)]
theorem ctG2 : chkTL tG2 = true := by decide +kernel
def tG3 : List (Nat × Nat) := [(499, 7), (601, 7), (643, 11)]
theorem ctG3 : chkTL tG3 = true := by decide +kernel
def tG4 : List (Nat × Nat) := [(743, 5), (761, 6), (877, 2)]
theorem ctG4 : chkTL tG4 = true := by decide +kernel
def tG5 : List (Nat × Nat) := [(911, 17), (1019, 2), (1039, 3)]
theorem ctG5 : chkTL tG5 = true := by decide +kernel
def tG6 : List (Nat × Nat) := [(1163, 5), (1187, 2), (1259, 2)]
theorem ctG6 : chkTL tG6 = true := by decide +kernel
def tG7 : List (Nat × Nat) := [(1399, 13), (1433, 3), (1511, 11)]
theorem ctG7 : chkTL tG7 = true := by decide +kernel
def tG8 : List (Nat × Nat) := [(1549, 2), (1667, 2), (1697, 3)]
theorem ctG8 : chkTL tG8 = true := by decide +kernel
def tG9 : List (Nat × Nat) := [(1831, 3), (1889, 3), (1951, 3)]
theorem ctG9 : chkTL tG9 = true := by decide +kernel
def tbG : List (List (Nat × Nat)) := [tG0, tG1, tG2, tG3, tG4, tG5, tG6, tG7, tG8, tG9]
theorem tbG_ok : ∀ l ∈ tbG, chkTL l = true := by
  intro l hl
  unfold tbG at hl
  simp only [List.mem_cons, List.not_mem_nil, or_false] at hl
  rcases hl with rfl | rfl | rfl | rfl | rfl | rfl | rfl | rfl | rfl | rfl
  · exact ctG0
  · exact ctG1
  · exact ctG2
  · exact ctG3
  · exact ctG4
  · exact ctG5
  · exact ctG6
  · exact ctG7
  · exact ctG8
  · exact ctG9

end SH
end Go.Proofs.YtbeceimopamllaaDoor
