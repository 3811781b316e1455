/- The laws' example of package partition, of the landed code. -/
import Derived.Test.YtmifenflbaohnaaDoorPuJ
import Derived.Test.YtmifenflbaohnaaDoorJnU
set_option linter.unusedSimpArgs false
set_option linter.unusedVariables false
set_option maxRecDepth 100000
namespace Go.Proofs.YtmifenflbaohnaaDoor
open Go.RowKit LgM

theorem pBegun_any (w : World) (hT : Tq w) (W : World) (k : Below w.heap.size w W) : Calls Tryd.prog 8 #[] W fun e w' => e = .returned (.bool true) ∧ Below W.heap.size W w' :=
  partitionBegun_of Odd_any W (Count_ok 100 W (by omega) (hT.below k))

end Go.Proofs.YtmifenflbaohnaaDoor
