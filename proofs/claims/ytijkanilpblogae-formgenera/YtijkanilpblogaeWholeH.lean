/- The contract of Combined; the law WholeDivides walked. -/
import Derived.Test.YtijkanilpblogaeWholeG
import Derived.Test.YtijkanilpblogaeBigG
import Derived.Laws.StructEq
set_option linter.unusedSimpArgs false
set_option linter.unusedVariables false
set_option maxRecDepth 100000
namespace Go.Proofs.Ytijkanilpblogae
open Go.RowKit

theorem lt_pw2 {x : Int} (h1 : -9223372036854775808 ≤ x) (h2 : x ≤ 9223372036854775807) : x.natAbs < pw 2 := by rw [pw_two]; omega
theorem mul_lt_pw {x y : Int} {m n : Nat} (hx : x.natAbs < pw m) (hy : y.natAbs < pw n) : (x * y).natAbs < pw (m + n) := by
  rw [Int.natAbs_mul, pw_add]; exact Nat.mul_lt_mul'' hx hy
theorem add_lt_pw {x y : Int} {m : Nat} (hx : x.natAbs < pw m) (hy : y.natAbs < pw m) : (x + y).natAbs < pw (m + 1) := by
  have : pw (m + 1) = 4294967296 * pw m := rfl
  omega

theorem Below.alloc_self (w : World) (o : Obj) : Below w.heap.size w (w.alloc o) := Below.alloc (Below.refl _ _) (Nat.le_refl _) _

theorem newB {W w' : World} {C : Array Value} {t : TypeId} (k : Below (W.alloc (.cells C t)).heap.size (W.alloc (.cells C t)) w') {i : Nat} {v : Value} (h : C[i]? = some v) : w'.cell? ⟨W.heap.size, i, none⟩ = some v :=
  cell_later k (by rw [World.cell?_alloc_at _ _ _ _ rfl]; exact h)
theorem keepB {W w' : World} {o : Obj} {a : Addr} {v : Value} (k : Below (W.alloc o).heap.size (W.alloc o) w') (h : W.cell? a = some v) : w'.cell? a = some v :=
  cell_later k (by rw [World.cell?_alloc_lt _ _ _ (World.block_lt_of_cell? _ _ h)]; exact h)

end Go.Proofs.Ytijkanilpblogae
