/- Points of finite order by the kernel: part 11 of 12. Written by mktn.py. -/
import Derived.Test.YtknnidbdgfimbaaTnM
set_option linter.unusedVariables false
set_option maxRecDepth 100000
namespace Go.Proofs.Ytknnidbdgfimbaa
namespace TN

def l105 : List (Bool × Nat × Nat × Nat) := [(false, 21, 1, 176), (true, 21, 1, 112)]
theorem g105 : entL tabB l105 = true := by decide +kernel
def l106 : List (Bool × Nat × Nat × Nat) := [(false, 9, 1, 103)]
theorem g106 : entL tabB l106 = true := by decide +kernel
def l107 : List (Bool × Nat × Nat × Nat) := [(false, 16, 1, 145)]
theorem g107 : entL tabB l107 = true := by decide +kernel
theorem g108 : ent tabB false 4 1 4 = true := by decide +kernel
theorem g109 : ent tabB false 6 1 8 = true := by decide +kernel
theorem g110 : ent tabB false 3 22 38 = true := by decide +kernel
theorem g111 : ent tabB false 6 9 40 = true := by decide +kernel
def l112 : List (Bool × Nat × Nat × Nat) := [(true, 15, 1, 112)]
theorem g112 : entL tabB l112 = true := by decide +kernel
def l113 : List (Bool × Nat × Nat × Nat) := [(true, 20, 1, 114)]
theorem g113 : entL tabB l113 = true := by decide +kernel
theorem g114 : ent tabB true 1 32 13 = true := by decide +kernel

end TN
end Go.Proofs.Ytknnidbdgfimbaa
