/- Points of finite order by the kernel: part 9 of 12. Written by mktn.py. -/
import Derived.Test.YtknnidbdgfimbaaTnM
set_option linter.unusedVariables false
set_option maxRecDepth 100000
namespace Go.Proofs.Ytknnidbdgfimbaa
namespace TN

theorem g84 : ent tabB true 1 1 1 = true := by decide +kernel
def l85 : List (Bool × Nat × Nat × Nat) := [(false, 14, 1, 133)]
theorem g85 : entL tabB l85 = true := by decide +kernel
theorem g86 : ent0 tabB 5 3 = true := by decide +kernel
theorem g87 : ent tabB true 1 20 12 = true := by decide +kernel
theorem g88 : ent tabB false 3 5 17 = true := by decide +kernel
theorem g89 : ent tabB false 8 1 19 = true := by decide +kernel
theorem g90 : ent tabB false 5 14 61 = true := by decide +kernel
theorem g91 : ent tabB false 8 20 78 = true := by decide +kernel
def l92 : List (Bool × Nat × Nat × Nat) := [(false, 92, 829, 105), (false, 93, 843, 105), (false, 94, 858, 105), (false, 95, 873, 104), (false, 96, 888, 103), (false, 97, 903, 103), (false, 98, 918, 102), (false, 99, 933, 102), (false, 100, 949, 101), (false, 101, 964, 101), (false, 102, 979, 100), (false, 103, 995, 99), (false, 104, 1010, 99), (false, 105, 1026, 99), (false, 106, 1042, 98), (false, 107, 1057, 98), (false, 108, 1073, 97), (false, 109, 1089, 97)]
theorem g92 : entL tabB l92 = true := by decide +kernel
theorem g93 : ent tabB false 6 49 36 = true := by decide +kernel
theorem g94 : ent tabB false 3 60 4 = true := by decide +kernel

end TN
end Go.Proofs.Ytknnidbdgfimbaa
