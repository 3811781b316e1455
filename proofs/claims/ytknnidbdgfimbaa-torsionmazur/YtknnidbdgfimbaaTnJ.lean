/- Points of finite order by the kernel: part 10 of 12. Written by mktn.py. -/
import Derived.Test.YtknnidbdgfimbaaTnM
set_option linter.unusedVariables false
set_option maxRecDepth 100000
namespace Go.Proofs.Ytknnidbdgfimbaa
namespace TN

def l95 : List (Bool × Nat × Nat × Nat) := [(true, 23, 1, 108), (false, 24, 1, 197)]
theorem g95 : entL tabB l95 = true := by decide +kernel
def l96 : List (Bool × Nat × Nat × Nat) := [(true, 12, 1, 106)]
theorem g96 : entL tabB l96 = true := by decide +kernel
def l97 : List (Bool × Nat × Nat × Nat) := [(true, 30, 1, 63), (false, 31, 1, 248)]
theorem g97 : entL tabB l97 = true := by decide +kernel
theorem g98 : ent tabB true 2 14 12 = true := by decide +kernel
theorem g99 : ent tabB true 3 5 17 = true := by decide +kernel
theorem g100 : ent tabB true 8 1 19 = true := by decide +kernel
theorem g101 : ent tabB true 2 26 18 = true := by decide +kernel
def l102 : List (Bool × Nat × Nat × Nat) := [(false, 58, 369, 136), (false, 59, 382, 134), (false, 60, 394, 133), (false, 61, 407, 131), (false, 62, 419, 130), (false, 63, 432, 129), (false, 64, 445, 127), (false, 65, 457, 127), (false, 66, 470, 126)]
theorem g102 : entL tabB l102 = true := by decide +kernel
def l103 : List (Bool × Nat × Nat × Nat) := [(false, 134, 1508, 87), (false, 135, 1525, 87), (false, 136, 1543, 86), (false, 137, 1560, 87), (false, 138, 1578, 86), (false, 139, 1596, 85), (false, 140, 1614, 85), (false, 141, 1632, 85), (false, 142, 1650, 84), (false, 143, 1668, 84), (false, 144, 1686, 84), (false, 145, 1704, 84), (false, 146, 1722, 84), (false, 147, 1741, 83), (false, 148, 1759, 83), (false, 149, 1778, 82), (false, 150, 1796, 82), (false, 151, 1815, 82), (false, 152, 1833, 82), (false, 153, 1852, 81), (false, 154, 1871, 81), (false, 155, 1889, 81), (false, 156, 1908, 81), (false, 157, 1927, 80), (false, 158, 1946, 80), (false, 159, 1965, 80), (false, 160, 1984, 80), (false, 161, 2003, 80), (false, 162, 2023, 79), (false, 163, 2042, 79), (false, 164, 2061, 79), (false, 165, 2080, 79), (false, 166, 2100, 78)]
theorem g103 : entL tabB l103 = true := by decide +kernel
theorem g104 : ent tabB true 10 31 70 = true := by decide +kernel

end TN
end Go.Proofs.Ytknnidbdgfimbaa
