/- What FormPoints asks of the program. -/
import Derived.Test.YtijkanilpblogaeQcXc
import Derived.Test.YtijkanilpblogaeQpXc
import Derived.Test.YtijkanilpblogaeFormPointsWalk
set_option maxRecDepth 100000
namespace Go.Proofs.Ytijkanilpblogae

theorem points_is : PointsIs (fun _ => True) := ⟨fun _ _ _ _ => trivial, fun w _ => formBegun_any w, Points_any⟩

end Go.Proofs.Ytijkanilpblogae
