/- Hasse's bound by the kernel: part 7 of 8. Written by mkhs.py. -/
import Derived.Test.YtbeceimopamllaaDoorHsM
set_option linter.unusedVariables false
set_option maxRecDepth 100000
namespace Go.Proofs.YtbeceimopamllaaDoor
namespace HS

def tG0 : List (Nat × Nat) := [(7, 3), (31, 3), (71, 7), (103, 5)]
theorem ctG0 : chkL tG0 = true := by decide +kernel
def tG1 : List (Nat × Nat) := [(151, 6), (193, 5), (223, 3), (307, 5)]
theorem ctG1 : chkL tG1 = true := by decide +kernel
def tG2 : List (Nat × Nat) := [(313, 10), (401, 3), (409, 21), (499, 7)]
theorem ctG2 : chkL tG2 = true := by decide +kernel
def tG3 : List (Nat × Nat) := [(503, 5), (607, 3), (619, 2), (691, 3)]
theorem ctG3 : chkL tG3 = true := by decide +kernel
def tG4 : List (Nat × Nat) := [(757, 2), (769, 11), (877, 2), (887, 5)]
theorem ctG4 : chkL tG4 = true := by decide +kernel
def tG5 : List (Nat × Nat) := [(977, 3), (1021, 10), (1049, 3), (1151, 17)]
theorem ctG5 : chkL tG5 = true := by decide +kernel
def tG6 : List (Nat × Nat) := [(1171, 2), (1277, 2), (1319, 13), (1321, 13)]
theorem ctG6 : chkL tG6 = true := by decide +kernel
def tG7 : List (Nat × Nat) := [(1451, 2), (1499, 2), (1511, 11), (1597, 11)]
theorem ctG7 : chkL tG7 = true := by decide +kernel
def tG8 : List (Nat × Nat) := [(1657, 11), (1693, 2), (1777, 5), (1861, 2)]
theorem ctG8 : chkL tG8 = true := by decide +kernel
def tG9 : List (Nat × Nat) := [(1931, 2), (1951, 3)]
theorem ctG9 : chkL tG9 = true := by decide +kernel
def tbG : List (List (Nat × Nat)) := [tG0, tG1, tG2, tG3, tG4, tG5, tG6, tG7, tG8, tG9]
theorem tbG_ok : ∀ l ∈ tbG, chkL l = true := by
  intro l hl
  unfold tbG at hl
  simp only [List.mem_cons, List.not_mem_nil, or_false] at hl
  rcases hl with rfl | rfl | rfl | rfl | rfl | rfl | rfl | rfl | rfl | rfl
  · exact ctG0
  · exact ctG1
  · exact ctG2
  · exact ctG3
  · exact ctG4
  · exact ctG5
  · exact ctG6
  · exact ctG7
  · exact ctG8
  · exact ctG9

end HS
end Go.Proofs.YtbeceimopamllaaDoor
