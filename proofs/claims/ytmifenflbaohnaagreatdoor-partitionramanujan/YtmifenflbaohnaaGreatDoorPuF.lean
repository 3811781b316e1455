/- The program: apart. -/
import Derived.Test.YtmifenflbaohnaaGreatDoorPuE
set_option linter.unusedSimpArgs false
set_option linter.unusedVariables false
set_option maxRecDepth 100000
namespace Go.Proofs.YtmifenflbaohnaaGreatDoor
open Go.RowKit Go.Maps Go.Sort

theorem pc_start {left : Lit → Bool} {s l : List Int} {k : Nat} (h : Gone left (PT.wsum s) l) (hk : left (.int .i64 (k : Int)) = true) (hn : s.Nodup) (hr : ∀ y ∈ s, 1 ≤ y ∧ y ≤ 2000) : PT.Pc l s k (PT.wsum l (k : Int)) := by
  have h0 : PT.wsum s (k : Int) = 0 := by have := h (k : Int); rw [if_pos hk] at this; exact this
  refine ⟨hn, hr, Nat.le_refl _, by rw [h0]; omega, fun y hy ho _ => ?_⟩
  exfalso
  have hy1 := hr y hy
  have : 0 < PT.wsum s (k : Int) := by
    obtain ⟨a, b, e⟩ := List.append_of_mem hy
    rw [e, show a ++ y :: b = a ++ ([y] ++ b) from rfl, PT.wsum_append, PT.wsum_append, PT.wsum_one, if_pos ho]
    have := (PT.od_p2 y.toNat (by omega)).2.2.1
    omega
  omega
theorem ints_one1 (s : List Int) (x : Int) : ints s ++ [Value.int .i64 x] = ints (s ++ [x]) := by simp [ints]

end Go.Proofs.YtmifenflbaohnaaGreatDoor
