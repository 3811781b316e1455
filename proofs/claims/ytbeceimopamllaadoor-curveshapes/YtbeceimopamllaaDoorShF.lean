/- The shapes of curves by the kernel: part 6 of 10. Written by mksh.py. -/
import Derived.Test.YtbeceimopamllaaDoorShM
set_option linter.unusedVariables false
set_option maxRecDepth 100000
namespace Go.Proofs.YtbeceimopamllaaDoor
namespace SH

def tF0 : List (Nat × Nat) := [(37, 2), (47, 5), (137, 3)]
theorem ctF0 : chkTL tF0 = true := by decide +kernel
def tF1 : List (Nat × Nat) := [(139, 2), (193, 5), (307, 5)]
theorem ctF1 : chkTL tF1 = true := by decide +kernel
def tF2 : List (Nat × Nat) := [(317, 2), (421, 2), (463, 3)]
theorem ctF2 : chkTL tF2 = true := by decide +kernel
def tF3 : List (Nat × Nat) := [(509, 2), (599, 7), (653, 2)]
theorem ctF3 : chkTL tF3 = true := by decide +kernel
def tF4 : List (Nat × Nat) := [(709, 2), (811, 3), (827, 2)]
theorem ctF4 : chkTL tF4 = true := by decide +kernel
def tF5 : List (Nat × Nat) := [(967, 5), (971, 6), (1091, 2)]
theorem ctF5 : chkTL tF5 = true := by decide +kernel
def tF6 : List (Nat × Nat) := [(1109, 2), (1237, 2), (1291, 2)]
theorem ctF6 : chkTL tF6 = true := by decide +kernel
def tF7 : List (Nat × Nat) := [(1319, 13), (1423, 3), (1543, 5)]
theorem ctF7 : chkTL tF7 = true := by decide +kernel
def tF8 : List (Nat × Nat) := [(1571, 2), (1637, 2), (1721, 3)]
theorem ctF8 : chkTL tF8 = true := by decide +kernel
def tF9 : List (Nat × Nat) := [(1801, 11), (1879, 6), (1973, 2)]
theorem ctF9 : chkTL tF9 = true := by decide +kernel
def tbF : List (List (Nat × Nat)) := [tF0, tF1, tF2, tF3, tF4, tF5, tF6, tF7, tF8, tF9]
theorem tbF_ok : ∀ l ∈ tbF, chkTL l = true := by
  intro l hl
  unfold tbF at hl
  simp only [List.mem_cons, List.not_mem_nil, or_false] at hl
  rcases hl with rfl | rfl | rfl | rfl | rfl | rfl | rfl | rfl | rfl | rfl
  · exact ctF0
  · exact ctF1
  · exact ctF2
  · exact ctF3
  · exact ctF4
  · exact ctF5
  · exact ctF6
  · exact ctF7
  · exact ctF8
  · exact ctF9

end SH
end Go.Proofs.YtbeceimopamllaaDoor
