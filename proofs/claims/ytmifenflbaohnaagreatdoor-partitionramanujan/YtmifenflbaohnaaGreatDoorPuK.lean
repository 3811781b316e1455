/- The laws' example of package partition, of the landed code. -/
import Derived.Test.YtmifenflbaohnaaGreatDoorPuJ
import Derived.Test.YtmifenflbaohnaaGreatDoorPuG
import Derived.Test.YtmifenflbaohnaaGreatDoorPtH
set_option linter.unusedSimpArgs false
set_option linter.unusedVariables false
set_option maxRecDepth 100000
namespace Go.Proofs.YtmifenflbaohnaaGreatDoor
open Go.RowKit LgM

theorem pBegun_any (w : World) (hT : Tq w) (W : World) (k : Below w.heap.size w W) : Calls Tryz.prog 5 #[] W fun e w' => e = .returned (.bool true) ∧ Below W.heap.size W w' :=
  partitionBegun_of Odd_any W (Count_ok 100 W (by omega) (hT.below k))

end Go.Proofs.YtmifenflbaohnaaGreatDoor
