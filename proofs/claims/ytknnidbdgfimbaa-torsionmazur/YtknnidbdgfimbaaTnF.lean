/- Points of finite order by the kernel: part 6 of 12. Written by mktn.py. -/
import Derived.Test.YtknnidbdgfimbaaTnM
set_option linter.unusedVariables false
set_option maxRecDepth 100000
namespace Go.Proofs.Ytknnidbdgfimbaa
namespace TN

theorem g52 : ent0 tabB 2 1 = true := by decide +kernel
theorem g53 : ent0 tabB 3 2 = true := by decide +kernel
def l54 : List (Bool × Nat × Nat × Nat) := [(true, 29, 1, 74), (false, 30, 1, 240)]
theorem g54 : entL tabB l54 = true := by decide +kernel
theorem g55 : ent tabB false 1 7 5 = true := by decide +kernel
theorem g56 : ent tabB false 1 12 8 = true := by decide +kernel
theorem g57 : ent tabB false 10 1 30 = true := by decide +kernel
theorem g58 : ent tabB false 5 1 13 = true := by decide +kernel
def l59 : List (Bool × Nat × Nat × Nat) := [(false, 51, 284, 146), (false, 52, 296, 145), (false, 53, 309, 142), (false, 54, 321, 140), (false, 55, 333, 139), (false, 56, 345, 138), (false, 57, 357, 137)]
theorem g59 : entL tabB l59 = true := by decide +kernel
def l60 : List (Bool × Nat × Nat × Nat) := [(false, 278, 4605, 61), (false, 279, 4631, 60), (false, 280, 4656, 60), (false, 281, 4681, 60), (false, 282, 4706, 60), (false, 283, 4731, 60), (false, 284, 4757, 59), (false, 285, 4782, 59), (false, 286, 4807, 60), (false, 287, 4833, 59), (false, 288, 4858, 59), (false, 289, 4884, 59), (false, 290, 4909, 59), (false, 291, 4935, 59), (false, 292, 4961, 58), (false, 293, 4986, 59), (false, 294, 5012, 59), (false, 295, 5038, 58), (false, 296, 5064, 58), (false, 297, 5090, 58), (false, 298, 5116, 58), (false, 299, 5142, 58), (false, 300, 5168, 58), (false, 301, 5194, 57), (false, 302, 5220, 57), (false, 303, 5246, 58), (false, 304, 5272, 58), (false, 305, 5298, 58), (false, 306, 5325, 57), (false, 307, 5351, 57), (false, 308, 5377, 57), (false, 309, 5404, 57), (false, 310, 5430, 57), (false, 311, 5457, 56), (false, 312, 5483, 57), (false, 313, 5510, 56), (false, 314, 5536, 57), (false, 315, 5563, 56), (false, 316, 5590, 56), (false, 317, 5616, 57), (false, 318, 5643, 56), (false, 319, 5670, 56), (false, 320, 5697, 56), (false, 321, 5724, 56), (false, 322, 5751, 55), (false, 323, 5778, 55), (false, 324, 5805, 55), (false, 325, 5832, 55), (false, 326, 5859, 55), (false, 327, 5886, 55), (false, 328, 5913, 55), (false, 329, 5940, 56), (false, 330, 5968, 55), (false, 331, 5995, 55), (false, 332, 6022, 55), (false, 333, 6050, 55), (false, 334, 6077, 55), (false, 335, 6105, 54), (false, 336, 6132, 55), (false, 337, 6160, 54), (false, 338, 6187, 55), (false, 339, 6215, 54), (false, 340, 6243, 54), (false, 341, 6270, 55), (false, 342, 6298, 54), (false, 343, 6326, 54), (false, 344, 6354, 54), (false, 345, 6382, 54), (false, 346, 6409, 54), (false, 347, 6437, 54), (false, 348, 6465, 54), (false, 349, 6493, 54), (false, 350, 6522, 53), (false, 351, 6550, 53), (false, 352, 6578, 53), (false, 353, 6606, 53), (false, 354, 6634, 54), (false, 355, 6663, 53), (false, 356, 6691, 53), (false, 357, 6719, 53), (false, 358, 6748, 53), (false, 359, 6776, 53), (false, 360, 6805, 52), (false, 361, 6833, 53), (false, 362, 6862, 52), (false, 363, 6890, 53), (false, 364, 6919, 52), (false, 365, 6948, 52), (false, 366, 6976, 53), (false, 367, 7005, 52), (false, 368, 7034, 52), (false, 369, 7063, 52), (false, 370, 7091, 53), (false, 371, 7120, 52), (false, 372, 7149, 52)]
theorem g60 : entL tabB l60 = true := by decide +kernel
theorem g61 : ent tabB false 7 31 61 = true := by decide +kernel

end TN
end Go.Proofs.Ytknnidbdgfimbaa
