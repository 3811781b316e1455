/- What FormComposes asks of the program. -/
import Derived.Test.YtijkanilpblogaeQcXb
import Derived.Test.YtijkanilpblogaeQfYb
set_option maxRecDepth 100000
namespace Go.Proofs.Ytijkanilpblogae

theorem compose_is : ComposeIs (fun _ => True) := ⟨fun _ _ _ _ => trivial, fun w _ => formBegun_any w, Compose_any⟩

end Go.Proofs.Ytijkanilpblogae
