/- FormGenera, the law's own walk: its two cases. -/
import Derived.Test.YtijkanilpblogaeFormGeneraWa
import Derived.Test.YtijkanilpblogaeFormGeneraWb
set_option linter.unusedSimpArgs false
set_option linter.unusedVariables false
set_option maxRecDepth 100000
namespace Go.Proofs.Ytijkanilpblogae
open Go.RowKit

theorem fge_start (Bg : World → Prop) (G : GeneraIs Bg) (f : Qf) (w : World) (hbg : Bg w) :
    Calls Try.prog 6 #[f.v] w fun e w' => e = .returned (.bool true) ∧ Below w.heap.size w w' := by
  by_cases h : -400 ≤ f.disc
  · exact fge_a Bg G f w hbg h
  · exact fge_b Bg G f w hbg h

end Go.Proofs.Ytijkanilpblogae
