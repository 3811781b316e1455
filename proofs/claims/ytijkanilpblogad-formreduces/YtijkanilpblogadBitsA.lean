/- Contracts of math/bits: Mul64, Len64, LeadingZeros64. -/
import Derived.Test.YtijkanilpblogadWholeA
import Derived.Laws.Bits64b
import Derived.Laws.MathBits
import Derived.Lib.Strings
import Derived.Lib.Slices
import Derived.Lib.Small
import Derived.Lib.Walk
import Derived.Lib.BitFns
set_option linter.unusedSimpArgs false
set_option linter.unusedVariables false
set_option maxRecDepth 100000
namespace Go.Proofs.Ytijkanilpblogad
open Go.RowKit

theorem ret2 {k1 k2 : IntKind} {a b a' b' : Int} (h1 : a = a') (h2 : b = b') : Ending.returned (.tuple #[.int k1 a, .int k2 b]) = .returned (.tuple #[.int k1 a', .int k2 b']) := by rw [h1, h2]

end Go.Proofs.Ytijkanilpblogad
