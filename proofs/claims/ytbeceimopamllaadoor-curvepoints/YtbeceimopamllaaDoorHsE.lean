/- Hasse's bound by the kernel: part 5 of 8. Written by mkhs.py. -/
import Derived.Test.YtbeceimopamllaaDoorHsM
set_option linter.unusedVariables false
set_option maxRecDepth 100000
namespace Go.Proofs.YtbeceimopamllaaDoor
namespace HS

def tE0 : List (Nat × Nat) := [(11, 2), (29, 2), (73, 5), (109, 6)]
theorem ctE0 : chkL tE0 = true := by decide +kernel
def tE1 : List (Nat × Nat) := [(131, 2), (211, 2), (227, 2), (271, 6)]
theorem ctE1 : chkL tE1 = true := by decide +kernel
def tE2 : List (Nat × Nat) := [(349, 2), (367, 6), (443, 2), (461, 2)]
theorem ctE2 : chkL tE2 = true := by decide +kernel
def tE3 : List (Nat × Nat) := [(557, 2), (571, 3), (653, 2), (659, 2)]
theorem ctE3 : chkL tE3 = true := by decide +kernel
def tE4 : List (Nat × Nat) := [(739, 3), (811, 3), (839, 11), (911, 17)]
theorem ctE4 : chkL tE4 = true := by decide +kernel
def tE5 : List (Nat × Nat) := [(967, 5), (1013, 3), (1087, 3), (1109, 2)]
theorem ctE5 : chkL tE5 = true := by decide +kernel
def tE6 : List (Nat × Nat) := [(1201, 11), (1223, 5), (1283, 2), (1409, 3)]
theorem ctE6 : chkL tE6 = true := by decide +kernel
def tE7 : List (Nat × Nat) := [(1423, 3), (1483, 2), (1549, 2), (1609, 7)]
theorem ctE7 : chkL tE7 = true := by decide +kernel
def tE8 : List (Nat × Nat) := [(1621, 2), (1733, 2), (1789, 6), (1823, 5)]
theorem ctE8 : chkL tE8 = true := by decide +kernel
def tE9 : List (Nat × Nat) := [(1907, 2), (1979, 2)]
theorem ctE9 : chkL tE9 = true := by decide +kernel
def tbE : List (List (Nat × Nat)) := [tE0, tE1, tE2, tE3, tE4, tE5, tE6, tE7, tE8, tE9]
theorem tbE_ok : ∀ l ∈ tbE, chkL l = true := by
  intro l hl
  unfold tbE at hl
  simp only [List.mem_cons, List.not_mem_nil, or_false] at hl
  rcases hl with rfl | rfl | rfl | rfl | rfl | rfl | rfl | rfl | rfl | rfl
  · exact ctE0
  · exact ctE1
  · exact ctE2
  · exact ctE3
  · exact ctE4
  · exact ctE5
  · exact ctE6
  · exact ctE7
  · exact ctE8
  · exact ctE9

end HS
end Go.Proofs.YtbeceimopamllaaDoor
