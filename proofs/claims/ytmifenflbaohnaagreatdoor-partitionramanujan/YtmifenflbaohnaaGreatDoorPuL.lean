/- The law PartitionRamanujan, of the landed code. -/
import Derived.Test.YtmifenflbaohnaaGreatDoorPuK
import Derived.Test.YtmifenflbaohnaaGreatDoorPartitionRamanujanWalk
set_option linter.unusedSimpArgs false
set_option linter.unusedVariables false
set_option maxRecDepth 100000
namespace Go.Proofs.YtmifenflbaohnaaGreatDoor
open Go.RowKit LgM

theorem partition_ramanujan (n : Int) (w : World) (hT : Tq w) : Calls Tryz.prog 3 #[.int .i64 n] w fun e w' => e = .returned (.bool true) ∧ Below w.heap.size w w' := by
  by_cases h : n < 0 ∨ 2000 < n
  · exact ramanujan_bad n w h (Count_bad n w h) (pBegun_any w hT)
  · obtain ⟨m, rfl⟩ : ∃ m : Nat, n = (m : Int) := ⟨n.toNat, by omega⟩
    exact ramanujan_ok m w (by omega) (Count_ok m w (by omega) hT) (pBegun_any w hT)

end Go.Proofs.YtmifenflbaohnaaGreatDoor
