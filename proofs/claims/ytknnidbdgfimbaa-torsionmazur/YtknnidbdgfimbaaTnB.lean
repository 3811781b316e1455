/- Points of finite order by the kernel: part 2 of 12. Written by mktn.py. -/
import Derived.Test.YtknnidbdgfimbaaTnM
set_option linter.unusedVariables false
set_option maxRecDepth 100000
namespace Go.Proofs.Ytknnidbdgfimbaa
namespace TN

def l12 : List (Bool × Nat × Nat × Nat) := [(true, 22, 1, 111), (false, 23, 1, 190)]
theorem g12 : entL tabB l12 = true := by decide +kernel
theorem g13 : ent tabB false 2 3 4 = true := by decide +kernel
def l14 : List (Bool × Nat × Nat × Nat) := [(true, 28, 1, 83), (false, 29, 1, 233)]
theorem g14 : entL tabB l14 = true := by decide +kernel
theorem g15 : ent tabB true 4 1 4 = true := by decide +kernel
theorem g16 : ent tabB true 2 7 7 = true := by decide +kernel
def l17 : List (Bool × Nat × Nat × Nat) := [(false, 13, 1, 127)]
theorem g17 : entL tabB l17 = true := by decide +kernel
theorem g18 : ent tabB true 5 1 13 = true := by decide +kernel
def l19 : List (Bool × Nat × Nat × Nat) := [(false, 78, 629, 116), (false, 79, 643, 114), (false, 80, 657, 114), (false, 81, 671, 113), (false, 82, 685, 112), (false, 83, 699, 111), (false, 84, 713, 111), (false, 85, 727, 110), (false, 86, 741, 110), (false, 87, 756, 109), (false, 88, 770, 108), (false, 89, 785, 107), (false, 90, 799, 107), (false, 91, 814, 106)]
theorem g19 : entL tabB l19 = true := by decide +kernel
def l20 : List (Bool × Nat × Nat × Nat) := [(true, 31, 1, 47), (false, 32, 1, 256)]
theorem g20 : entL tabB l20 = true := by decide +kernel
theorem g21 : ent tabB false 1 32 13 = true := by decide +kernel

end TN
end Go.Proofs.Ytknnidbdgfimbaa
