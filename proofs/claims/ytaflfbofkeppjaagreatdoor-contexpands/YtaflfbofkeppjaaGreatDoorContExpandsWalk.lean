/- The law ContExpands: every way. -/
import Derived.Test.YtaflfbofkeppjaaGreatDoorContExpandsWb
import Derived.Test.YtaflfbofkeppjaaGreatDoorContExpandsWc
import Derived.Test.YtaflfbofkeppjaaGreatDoorContExpandsWd
set_option linter.unusedSimpArgs false
set_option linter.unusedVariables false
set_option maxRecDepth 100000
namespace Go.Proofs.YtaflfbofkeppjaaGreatDoor
open Go.RowKit

theorem cont_expands (a b : Int) (l : List Int) (va : Option Addr) (vc : Nat) (w : World) (hT : Tq w) (hv : IS w (.slice va l.length vc) l) (hA : l.length * 8 ≤ 140737488351232) (hca : ∀ ad, va = some ad → ∀ j u, (l.map fun x : Int => Value.int .i64 x)[j]? = some u → w.cell? (ad.add j) = some u) (hno : va = none → l = [] ∧ vc = 0) :
    Calls Tryz.prog 3 #[.int .i64 a, .int .i64 b, .slice va l.length vc] w fun e w' => e = .returned (.bool true) ∧ Below w.heap.size w w' := by
  cases hab : okB a b
  · exact ce_bad a b l va vc w hT hab hv hA hca hno
  · by_cases hb : b = 0
    · exact ce_zero a b l va vc w hT hab hb hv hA hca hno
    · exact ce_ok a b l va vc w hT hab hb hv hA hca hno

end Go.Proofs.YtaflfbofkeppjaaGreatDoor
