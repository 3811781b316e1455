/- Points: what is asked of it. -/
import Derived.Test.YtijkanilpblogaeQfN
import Derived.Test.YtijkanilpblogaeQfP
set_option linter.unusedSimpArgs false
set_option linter.unusedVariables false
set_option maxRecDepth 100000
namespace Go.Proofs.Ytijkanilpblogae
open Go.RowKit

/-- The fault of Points. -/
def pfault (f : Qf) (n : Int) : Int × Int := if ffault f ≠ (0, 0) then ffault f else if n < 0 ∨ 1000000 < n then (3, 0) else (0, 0)
/-- A list of points in memory. -/
def Pl (a : Option Addr) (l : List (Int × Int)) (W : World) : Prop := l ≠ [] → ∃ b : Nat, a = some ⟨b, 0, none⟩ ∧ b < W.heap.size ∧ ∀ j u, (pcells l)[j]? = some u → W.cell? ⟨b, j, none⟩ = some u
theorem Pl.below {a : Option Addr} {l : List (Int × Int)} {W W' : World} (h : Pl a l W) (k : Below W.heap.size W W') : Pl a l W' := fun hl => by
  obtain ⟨b, e, hb, hc⟩ := h hl
  exact ⟨b, e, Nat.lt_of_lt_of_le hb k.size, fun j u hu => (k.cell (p := ⟨b, j, none⟩) hb).trans (hc j u hu)⟩
/-- What Points answers. -/
structure PoOut (f : Qf) (n : Int) (l : List (Int × Int)) : Prop where
  bad : pfault f n ≠ (0, 0) → l = []
  good : pfault f n = (0, 0) → Pts f n l

end Go.Proofs.Ytijkanilpblogae
