/- A ring and a pair in memory. -/
import Derived.Test.YtogdggdaaiajnadGreatDoorGsX
set_option linter.unusedSimpArgs false
set_option linter.unusedVariables false
set_option maxRecDepth 100000
namespace Go.Proofs.YtogdggdaaiajnadGreatDoor
open Go.RowKit

/-- A ring and a pair in memory. -/
structure Rx (b : Nat) (k : Kd) (x : Pp) (w W : World) : Prop where
  r : Kt b k W
  x : Sv (b + 1) x.a x.b W
  k : Below b w W
theorem Rx.below {b : Nat} {k : Kd} {x : Pp} {w W W' : World} (h : Rx b k x w W) (c : Below W.heap.size W W') : Rx b k x w W' :=
  ⟨h.r.below c, h.x.below c, h.k.trans (c.mono (by have := h.x.lt; omega))⟩
theorem Rx.alloc {b : Nat} {k : Kd} {x : Pp} {w W : World} (h : Rx b k x w W) (o : Obj) : Rx b k x w (W.alloc o) := h.below (Below.alloc (Below.refl _ _) (Nat.le_refl _) _)
theorem Rx.drew {b : Nat} {k : Kd} {x : Pp} {w W : World} (h : Rx b k x w W) : Rx b k x w W.drew := h.below ((Below.refl _ _).drew)
theorem rx_new (w : World) (k : Kd) (x : Pp) : Rx w.heap.size k x w ((w.alloc (.cells k.cells 55)).alloc (.cells #[.int .i64 x.a, .int .i64 x.b] 23)) :=
  ⟨(Cl.new k.list 55 w).alloc _, sv_new _ _ _ (by simp) _ _, below2 _ _ _⟩

end Go.Proofs.YtogdggdaaiajnadGreatDoor
