/- The law's own glaisher: true where the counts are right. -/
import Derived.Test.YtmifenflbaohnaaGreatDoorPtO
import Derived.Test.YtmifenflbaohnaaGreatDoorJnL
import Derived.BigQuiet
set_option linter.unusedSimpArgs false
set_option linter.unusedVariables false
set_option maxRecDepth 100000
namespace Go.Proofs.YtmifenflbaohnaaGreatDoor
open Go.RowKit
end Go.Proofs.YtmifenflbaohnaaGreatDoor
