/- Points of finite order by the kernel: part 8 of 12. Written by mktn.py. -/
import Derived.Test.YtknnidbdgfimbaaTnM
set_option linter.unusedVariables false
set_option maxRecDepth 100000
namespace Go.Proofs.Ytknnidbdgfimbaa
namespace TN

theorem g73 : ent tabB false 1 1 1 = true := by decide +kernel
def l74 : List (Bool × Nat × Nat × Nat) := [(true, 9, 1, 96)]
theorem g74 : entL tabB l74 = true := by decide +kernel
theorem g75 : ent0 tabB 8 4 = true := by decide +kernel
theorem g76 : ent tabB false 1 20 12 = true := by decide +kernel
theorem g77 : ent tabB false 3 1 4 = true := by decide +kernel
theorem g78 : ent tabB false 4 21 35 = true := by decide +kernel
theorem g79 : ent tabB true 6 9 40 = true := by decide +kernel
def l80 : List (Bool × Nat × Nat × Nat) := [(true, 13, 1, 108)]
theorem g80 : entL tabB l80 = true := by decide +kernel
def l81 : List (Bool × Nat × Nat × Nat) := [(false, 373, 7178, 52), (false, 374, 7207, 52), (false, 375, 7236, 52), (false, 376, 7266, 51), (false, 377, 7295, 51), (false, 378, 7324, 51), (false, 379, 7353, 52), (false, 380, 7382, 52), (false, 381, 7412, 51), (false, 382, 7441, 51), (false, 383, 7470, 52), (false, 384, 7500, 51), (false, 385, 7529, 51), (false, 386, 7559, 51), (false, 387, 7588, 51), (false, 388, 7618, 51), (false, 389, 7647, 51), (false, 390, 7677, 51), (false, 391, 7707, 50), (false, 392, 7736, 51), (false, 393, 7766, 51), (false, 394, 7796, 50), (false, 395, 7826, 50), (false, 396, 7856, 50), (false, 397, 7885, 51), (false, 398, 7915, 51), (false, 399, 7945, 51), (false, 400, 7975, 51), (false, 401, 8005, 51), (false, 402, 8036, 50), (false, 403, 8066, 50), (false, 404, 8096, 50), (false, 405, 8126, 50), (false, 406, 8156, 50), (false, 407, 8187, 49), (false, 408, 8217, 49), (false, 409, 8247, 50), (false, 410, 8278, 49), (false, 411, 8308, 49), (false, 412, 8338, 50), (false, 413, 8369, 49), (false, 414, 8399, 50), (false, 415, 8430, 49), (false, 416, 8461, 49), (false, 417, 8491, 49), (false, 418, 8522, 49), (false, 419, 8553, 49), (false, 420, 8583, 49), (false, 421, 8614, 49), (false, 422, 8645, 49), (false, 423, 8676, 49), (false, 424, 8707, 48), (false, 425, 8738, 48), (false, 426, 8769, 48), (false, 427, 8800, 48), (false, 428, 8831, 48), (false, 429, 8862, 48), (false, 430, 8893, 48), (false, 431, 8924, 48), (false, 432, 8955, 49), (false, 433, 8987, 48), (false, 434, 9018, 48), (false, 435, 9049, 48), (false, 436, 9080, 48), (false, 437, 9112, 48), (false, 438, 9143, 48), (false, 439, 9175, 47), (false, 440, 9206, 48), (false, 441, 9238, 47), (false, 442, 9269, 48), (false, 443, 9301, 47), (false, 444, 9332, 48), (false, 445, 9364, 48), (false, 446, 9396, 47), (false, 447, 9427, 48), (false, 448, 9459, 48), (false, 449, 9491, 47), (false, 450, 9523, 47), (false, 451, 9555, 47), (false, 452, 9587, 47), (false, 453, 9618, 48), (false, 454, 9650, 47), (false, 455, 9682, 47), (false, 456, 9715, 46), (false, 457, 9747, 46), (false, 458, 9779, 47), (false, 459, 9811, 47), (false, 460, 9843, 47), (false, 461, 9875, 47), (false, 462, 9907, 47), (false, 463, 9940, 46), (false, 464, 9972, 47), (false, 465, 10004, 47), (false, 466, 10037, 46), (false, 467, 10069, 47), (false, 468, 10102, 46), (false, 469, 10134, 46), (false, 470, 10167, 46), (false, 471, 10199, 46), (false, 472, 10232, 46), (false, 473, 10265, 46), (false, 474, 10297, 46), (false, 475, 10330, 46), (false, 476, 10363, 46), (false, 477, 10395, 46), (false, 478, 10428, 46), (false, 479, 10461, 46), (false, 480, 10494, 46), (false, 481, 10527, 45), (false, 482, 10560, 45), (false, 483, 10593, 45), (false, 484, 10626, 45), (false, 485, 10659, 45), (false, 486, 10692, 45), (false, 487, 10725, 45), (false, 488, 10758, 45), (false, 489, 10791, 46), (false, 490, 10824, 46), (false, 491, 10858, 45), (false, 492, 10891, 45), (false, 493, 10924, 45), (false, 494, 10958, 45), (false, 495, 10991, 45), (false, 496, 11024, 45), (false, 497, 11058, 45), (false, 498, 11091, 45), (false, 499, 11125, 45), (false, 500, 11158, 45), (false, 501, 11192, 45), (false, 502, 11226, 44), (false, 503, 11259, 45), (false, 504, 11293, 45), (false, 505, 11327, 44), (false, 506, 11360, 45)]
theorem g81 : entL tabB l81 = true := by decide +kernel
theorem g82 : ent tabB false 2 44 11 = true := by decide +kernel
theorem g83 : ent tabB false 4 56 16 = true := by decide +kernel

end TN
end Go.Proofs.Ytknnidbdgfimbaa
