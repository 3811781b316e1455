/- The shapes of curves by the kernel: part 5 of 10. Written by mksh.py. -/
import Derived.Test.YtbeceimopamllaaDoorShM
set_option linter.unusedVariables false
set_option maxRecDepth 100000
namespace Go.Proofs.YtbeceimopamllaaDoor
namespace SH

def tE0 : List (Nat × Nat) := [(5, 2), (31, 3), (53, 2)]
theorem ctE0 : chkTL tE0 = true := by decide +kernel
def tE1 : List (Nat × Nat) := [(103, 5), (173, 2), (241, 7)]
theorem ctE1 : chkTL tE1 = true := by decide +kernel
def tE2 : List (Nat × Nat) := [(251, 6), (367, 6), (373, 2)]
theorem ctE2 : chkTL tE2 = true := by decide +kernel
def tE3 : List (Nat × Nat) := [(487, 3), (491, 2), (607, 3)]
theorem ctE3 : chkTL tE3 = true := by decide +kernel
def tE4 : List (Nat × Nat) := [(641, 3), (727, 5), (787, 2)]
theorem ctE4 : chkTL tE4 = true := by decide +kernel
def tE5 : List (Nat × Nat) := [(857, 3), (941, 2), (991, 6)]
theorem ctE5 : chkTL tE5 = true := by decide +kernel
def tE6 : List (Nat × Nat) := [(1049, 3), (1151, 17), (1223, 5)]
theorem ctE6 : chkTL tE6 = true := by decide +kernel
def tE7 : List (Nat × Nat) := [(1303, 6), (1307, 2), (1471, 6)]
theorem ctE7 : chkTL tE7 = true := by decide +kernel
def tE8 : List (Nat × Nat) := [(1487, 5), (1597, 11), (1621, 2)]
theorem ctE8 : chkTL tE8 = true := by decide +kernel
def tE9 : List (Nat × Nat) := [(1733, 2), (1789, 6), (1877, 2)]
theorem ctE9 : chkTL tE9 = true := by decide +kernel
def tE10 : List (Nat × Nat) := [(1979, 2)]
theorem ctE10 : chkTL tE10 = true := by decide +kernel
def tbE : List (List (Nat × Nat)) := [tE0, tE1, tE2, tE3, tE4, tE5, tE6, tE7, tE8, tE9, tE10]
theorem tbE_ok : ∀ l ∈ tbE, chkTL l = true := by
  intro l hl
  unfold tbE at hl
  simp only [List.mem_cons, List.not_mem_nil, or_false] at hl
  rcases hl with rfl | rfl | rfl | rfl | rfl | rfl | rfl | rfl | rfl | rfl | rfl
  · exact ctE0
  · exact ctE1
  · exact ctE2
  · exact ctE3
  · exact ctE4
  · exact ctE5
  · exact ctE6
  · exact ctE7
  · exact ctE8
  · exact ctE9
  · exact ctE10

end SH
end Go.Proofs.YtbeceimopamllaaDoor
