/- Points of finite order by the kernel: part 3 of 12. Written by mktn.py. -/
import Derived.Test.YtknnidbdgfimbaaTnM
set_option linter.unusedVariables false
set_option maxRecDepth 100000
namespace Go.Proofs.Ytknnidbdgfimbaa
namespace TN

def l22 : List (Bool × Nat × Nat × Nat) := [(false, 19, 1, 163), (true, 19, 1, 114)]
theorem g22 : entL tabB l22 = true := by decide +kernel
theorem g23 : ent tabB true 1 2 2 = true := by decide +kernel
theorem g24 : ent0 tabB 17 8 = true := by decide +kernel
theorem g25 : ent tabB false 2 14 12 = true := by decide +kernel
theorem g26 : ent tabB false 2 7 7 = true := by decide +kernel
theorem g27 : ent tabB true 7 1 30 = true := by decide +kernel
theorem g28 : ent tabB false 12 1 52 = true := by decide +kernel
def l29 : List (Bool × Nat × Nat × Nat) := [(false, 17, 1, 151)]
theorem g29 : entL tabB l29 = true := by decide +kernel
def l30 : List (Bool × Nat × Nat × Nat) := [(false, 110, 1105, 96), (false, 111, 1121, 96), (false, 112, 1137, 96), (false, 113, 1153, 95), (false, 114, 1169, 95), (false, 115, 1186, 94), (false, 116, 1202, 94), (false, 117, 1219, 93), (false, 118, 1235, 93), (false, 119, 1252, 92), (false, 120, 1268, 92), (false, 121, 1285, 92), (false, 122, 1302, 91), (false, 123, 1318, 91), (false, 124, 1335, 91), (false, 125, 1352, 90), (false, 126, 1369, 90), (false, 127, 1386, 90), (false, 128, 1403, 90), (false, 129, 1421, 88), (false, 130, 1438, 88), (false, 131, 1455, 88), (false, 132, 1473, 87), (false, 133, 1490, 87)]
theorem g30 : entL tabB l30 = true := by decide +kernel
theorem g31 : ent tabB false 10 31 79 = true := by decide +kernel

end TN
end Go.Proofs.Ytknnidbdgfimbaa
