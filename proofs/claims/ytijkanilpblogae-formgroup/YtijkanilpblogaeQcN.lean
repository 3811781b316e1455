/- What FormGroup asks of the program. -/
import Derived.Test.YtijkanilpblogaeQcXa
import Derived.Test.YtijkanilpblogaeFormGroupWalk
set_option maxRecDepth 100000
namespace Go.Proofs.Ytijkanilpblogae

theorem group_is : GroupIs (fun _ => True) := ⟨fun _ _ _ _ => trivial, fun w _ => formBegun_any w, Compose_any, Reduce_any⟩

end Go.Proofs.Ytijkanilpblogae
