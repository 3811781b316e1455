import Derived.Test.YtcnfhndejkngkaaGreatDoorFracRowsWa
import Derived.Test.YtcnfhndejkngkaaGreatDoorFracRowsWb
import Derived.Test.YtcnfhndejkngkaaGreatDoorFracRowsWc
section
set_option linter.unusedVariables false
set_option maxRecDepth 100000
namespace Go.Proofs.YtcnfhndejkngkaaGreatDoor
open Go.RowKit
theorem frac_rows (x y n : Int) (w : World)
    (hBg : ∀ W, Below w.heap.size w W → Calls Tryz.prog 11 #[] W fun e w' => e = .returned (.bool true) ∧ Below W.heap.size W w') :
    Calls Tryz.prog 3 #[.agg #[.int .i64 x, .int .i64 y], .int .i64 n] w fun e w' => e = .returned (.bool true) ∧ Below w.heap.size w w' := by
  by_cases h1 : ffF x y ≠ 0 ∨ n < y ∨ 1000000 < n
  · exact frac_rows_Wa x y n w h1 hBg
  · by_cases h2 : 1000000 < x ∨ x < -1000000
    · exact frac_rows_Wb x y n w (by omega) hBg
    · exact frac_rows_Wc x y n w (by omega) hBg
end Go.Proofs.YtcnfhndejkngkaaGreatDoor
end

section
set_option linter.unusedVariables false
set_option maxRecDepth 100000
namespace Go.Proofs.YtcnfhndejkngkaaGreatDoor
open Go.RowKit
theorem frac_rows_all (x y n : Int) (w : World) (hTq : Tq w) (hTb : Tb w) :
    Calls Tryz.prog 3 #[.agg #[.int .i64 x, .int .i64 y], .int .i64 n] w fun e w' => e = .returned (.bool true) ∧ Below w.heap.size w w' :=
  frac_rows x y n w (fun W k => fracBegun_any W (hTb.below k) (hTq.below k))
end Go.Proofs.YtcnfhndejkngkaaGreatDoor
end
