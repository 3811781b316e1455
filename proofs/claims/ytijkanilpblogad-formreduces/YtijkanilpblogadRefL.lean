/- The reference's Left. -/
import Derived.Test.YtijkanilpblogadWholeD
set_option linter.unusedSimpArgs false
set_option linter.unusedVariables false
set_option maxRecDepth 100000
namespace Go.Proofs.Ytijkanilpblogad
open Go.RowKit
end Go.Proofs.Ytijkanilpblogad
