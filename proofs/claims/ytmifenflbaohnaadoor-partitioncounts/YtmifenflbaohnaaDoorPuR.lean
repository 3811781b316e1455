/- The law PartitionCounts, of the landed code. -/
import Derived.Test.YtmifenflbaohnaaDoorPuK
import Derived.Test.YtmifenflbaohnaaDoorPuQ
import Derived.Test.YtmifenflbaohnaaDoorJnS
set_option linter.unusedSimpArgs false
set_option linter.unusedVariables false
set_option maxRecDepth 100000
namespace Go.Proofs.YtmifenflbaohnaaDoor
open Go.RowKit LgM

theorem partition_counts (n : Int) (w : World) (hT : Tq w) : Calls Tryd.prog 3 #[.int .i64 n] w fun e w' => e = .returned (.bool true) ∧ Below w.heap.size w w' := by
  by_cases h : n < 0 ∨ 2000 < n
  · exact counts_bad n w h (Count_bad n w h) (fun W _ => List_bad n W (by omega)) (pBegun_any w hT)
  · obtain ⟨m, rfl⟩ : ∃ m : Nat, n = (m : Int) := ⟨n.toNat, by omega⟩
    by_cases h25 : 25 < m
    · exact counts_mid m _ w (by omega) h25 rfl (Count_ok m w (by omega) hT) (fun W _ => List_bad m W (by omega)) (pBegun_any w hT)
    · exact counts_small m _ w (by omega) (by omega) rfl (Count_ok m w (by omega) hT) (fun W _ => List_ok m W (by omega)) (pBegun_any w hT)

end Go.Proofs.YtmifenflbaohnaaDoor
