/- Points of finite order by the kernel: part 1 of 12. Written by mktn.py. -/
import Derived.Test.YtknnidbdgfimbaaTnM
set_option linter.unusedVariables false
set_option maxRecDepth 100000
namespace Go.Proofs.Ytknnidbdgfimbaa
namespace TN

def l1 : List (Bool × Nat × Nat × Nat) := [(true, 17, 1, 114), (false, 18, 1, 157)]
theorem g1 : entL tabB l1 = true := by decide +kernel
theorem g2 : ent tabB true 2 3 4 = true := by decide +kernel
theorem g3 : ent tabB true 4 5 16 = true := by decide +kernel
def l4 : List (Bool × Nat × Nat × Nat) := [(true, 32, 1, 15), (false, 33, 45, 220), (false, 34, 66, 207), (false, 35, 83, 198)]
theorem g4 : entL tabB l4 = true := by decide +kernel
def l5 : List (Bool × Nat × Nat × Nat) := [(false, 36, 99, 191), (false, 37, 113, 185), (false, 38, 126, 181), (false, 39, 139, 177)]
theorem g5 : entL tabB l5 = true := by decide +kernel
theorem g6 : ent tabB false 2 26 18 = true := by decide +kernel
def l7 : List (Bool × Nat × Nat × Nat) := [(true, 18, 1, 114)]
theorem g7 : entL tabB l7 = true := by decide +kernel
def l8 : List (Bool × Nat × Nat × Nat) := [(false, 67, 483, 125), (false, 68, 496, 124), (false, 69, 509, 123), (false, 70, 522, 122), (false, 71, 535, 121), (false, 72, 548, 121), (false, 73, 562, 119), (false, 74, 575, 118), (false, 75, 589, 117), (false, 76, 602, 117), (false, 77, 616, 116)]
theorem g8 : entL tabB l8 = true := by decide +kernel
def l9 : List (Bool × Nat × Nat × Nat) := [(false, 213, 3075, 68), (false, 214, 3097, 68), (false, 215, 3119, 68), (false, 216, 3141, 68), (false, 217, 3163, 68), (false, 218, 3185, 68), (false, 219, 3207, 68), (false, 220, 3230, 67), (false, 221, 3252, 68), (false, 222, 3274, 68), (false, 223, 3297, 67), (false, 224, 3319, 67), (false, 225, 3342, 67), (false, 226, 3364, 67), (false, 227, 3387, 67), (false, 228, 3410, 66), (false, 229, 3433, 66), (false, 230, 3455, 67), (false, 231, 3478, 66), (false, 232, 3501, 66), (false, 233, 3524, 66), (false, 234, 3547, 66), (false, 235, 3570, 66), (false, 236, 3593, 66), (false, 237, 3616, 66), (false, 238, 3639, 66), (false, 239, 3663, 65), (false, 240, 3686, 65), (false, 241, 3709, 65), (false, 242, 3733, 64), (false, 243, 3756, 65), (false, 244, 3780, 64), (false, 245, 3803, 64), (false, 246, 3827, 64), (false, 247, 3850, 64), (false, 248, 3874, 64), (false, 249, 3898, 63), (false, 250, 3921, 64), (false, 251, 3945, 64), (false, 252, 3969, 63), (false, 253, 3993, 63), (false, 254, 4017, 63), (false, 255, 4041, 63), (false, 256, 4065, 63), (false, 257, 4089, 63), (false, 258, 4113, 63), (false, 259, 4137, 63), (false, 260, 4162, 62), (false, 261, 4186, 62), (false, 262, 4210, 62), (false, 263, 4235, 61), (false, 264, 4259, 62), (false, 265, 4283, 62), (false, 266, 4308, 61), (false, 267, 4332, 62), (false, 268, 4357, 61), (false, 269, 4382, 61), (false, 270, 4406, 61), (false, 271, 4431, 61), (false, 272, 4456, 61), (false, 273, 4481, 60), (false, 274, 4506, 60), (false, 275, 4530, 61), (false, 276, 4555, 61), (false, 277, 4580, 61)]
theorem g9 : entL tabB l9 = true := by decide +kernel
theorem g10 : ent tabB true 2 44 11 = true := by decide +kernel
theorem g11 : ent tabB false 5 75 4 = true := by decide +kernel

end TN
end Go.Proofs.Ytknnidbdgfimbaa
