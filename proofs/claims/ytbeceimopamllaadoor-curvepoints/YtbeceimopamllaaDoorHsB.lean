/- Hasse's bound by the kernel: part 2 of 8. Written by mkhs.py. -/
import Derived.Test.YtbeceimopamllaaDoorHsM
set_option linter.unusedVariables false
set_option maxRecDepth 100000
namespace Go.Proofs.YtbeceimopamllaaDoor
namespace HS

def tB0 : List (Nat × Nat) := [(41, 6), (53, 2), (127, 3), (137, 3)]
theorem ctB0 : chkL tB0 = true := by decide +kernel
def tB1 : List (Nat × Nat) := [(197, 2), (233, 3), (277, 5), (337, 10)]
theorem ctB1 : chkL tB1 = true := by decide +kernel
def tB2 : List (Nat × Nat) := [(379, 2), (431, 7), (479, 13), (521, 3)]
theorem ctB2 : chkL tB2 = true := by decide +kernel
def tB3 : List (Nat × Nat) := [(599, 7), (613, 2), (709, 2), (719, 11)]
theorem ctB3 : chkL tB3 = true := by decide +kernel
def tB4 : List (Nat × Nat) := [(821, 2), (827, 2), (937, 5), (941, 2)]
theorem ctB4 : chkL tB4 = true := by decide +kernel
def tB5 : List (Nat × Nat) := [(1039, 3), (1061, 2), (1129, 11), (1181, 7)]
theorem ctB5 : chkL tB5 = true := by decide +kernel
def tB6 : List (Nat × Nat) := [(1279, 3), (1307, 2), (1327, 3), (1447, 3)]
theorem ctB6 : chkL tB6 = true := by decide +kernel
def tB7 : List (Nat × Nat) := [(1493, 2), (1523, 2), (1607, 5), (1619, 2)]
theorem ctB7 : chkL tB7 = true := by decide +kernel
def tB8 : List (Nat × Nat) := [(1741, 2), (1747, 2), (1873, 10), (1879, 6)]
theorem ctB8 : chkL tB8 = true := by decide +kernel
def tB9 : List (Nat × Nat) := [(1997, 2)]
theorem ctB9 : chkL tB9 = true := by decide +kernel
def tbB : List (List (Nat × Nat)) := [tB0, tB1, tB2, tB3, tB4, tB5, tB6, tB7, tB8, tB9]
theorem tbB_ok : ∀ l ∈ tbB, chkL l = true := by
  intro l hl
  unfold tbB at hl
  simp only [List.mem_cons, List.not_mem_nil, or_false] at hl
  rcases hl with rfl | rfl | rfl | rfl | rfl | rfl | rfl | rfl | rfl | rfl
  · exact ctB0
  · exact ctB1
  · exact ctB2
  · exact ctB3
  · exact ctB4
  · exact ctB5
  · exact ctB6
  · exact ctB7
  · exact ctB8
  · exact ctB9

end HS
end Go.Proofs.YtbeceimopamllaaDoor
