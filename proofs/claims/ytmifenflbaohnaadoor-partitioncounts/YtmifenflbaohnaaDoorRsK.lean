/- A block of cells, known whole. -/
import Derived.Test.YtmifenflbaohnaaDoorSv
import Derived.Test.YtmifenflbaohnaaDoorRangeD
set_option linter.unusedSimpArgs false
set_option linter.unusedVariables false
set_option maxRecDepth 100000
namespace Go.Proofs.YtmifenflbaohnaaDoor
open Go.RowKit

/-- The block b holds these cells, none of them frozen. -/
def Cl (b : Nat) (l : List Value) (t : TypeId) (w : World) : Prop := w.heap[b]? = some (.cells l.toArray t (0, 0))
theorem Cl.lt {b : Nat} {l : List Value} {t : TypeId} {w : World} (h : Cl b l t w) : b < w.heap.size := (Array.getElem?_eq_some_iff.1 h).1
theorem Cl.cell {b : Nat} {l : List Value} {t : TypeId} {w : World} (h : Cl b l t w) (i : Nat) : w.cell? ⟨b, i, none⟩ = l[i]? := by
  unfold Cl at h
  simp [World.cell?, h]
theorem Cl.frozen {b : Nat} {l : List Value} {t : TypeId} {w : World} (h : Cl b l t w) (i : Nat) : w.frozen? ⟨b, i, none⟩ = false := by
  unfold Cl at h
  simp [World.frozen?, h]
theorem Cl.below {b : Nat} {l : List Value} {t : TypeId} {w w' : World} (h : Cl b l t w) (k : Below w.heap.size w w') : Cl b l t w' := (k.block b h.lt).trans h
theorem Cl.new (l : List Value) (t : TypeId) (w : World) : Cl w.heap.size l t (w.alloc (.cells l.toArray t)) := World.alloc_heap_new w _
theorem Cl.alloc {b : Nat} {l : List Value} {t : TypeId} {w : World} (h : Cl b l t w) (o : Obj) : Cl b l t (w.alloc o) := h.below (Below.alloc (Below.refl _ _) (Nat.le_refl _) _)
theorem Cl.drewN {b n : Nat} {l : List Value} {t : TypeId} {w : World} (h : Cl b l t w) : Cl b l t (w.drewN n) := h.below (below_drewN' (Below.refl _ _))
theorem Cl.drew {b : Nat} {l : List Value} {t : TypeId} {w : World} (h : Cl b l t w) : Cl b l t w.drew := h
theorem Cl.set {b : Nat} {l : List Value} {t : TypeId} {w : World} (h : Cl b l t w) (i : Nat) (v : Value) : Cl b (l.set i v) t (w.setCell ⟨b, i, none⟩ v) := by
  have := heap_setCell_same w b i l.toArray t v h
  unfold Cl
  rw [this]
  simp
theorem Cl.other {b : Nat} {l : List Value} {t : TypeId} {w : World} (h : Cl b l t w) {p : Addr} (hp : b ≠ p.block) (v : Value) : Cl b l t (w.setCell p v) :=
  (Below.heap_setCell w p v b hp).trans h
theorem Cl.grown {b : Nat} {l : List Value} {t : TypeId} {w w' : World} {row : Option Nat} (h : Cl b l t w) (hg : w.grownBy w' row) (hr : row ≠ some b) : Cl b l t w' :=
  (hg.block b h.lt (fun e => hr e.symm)).trans h

end Go.Proofs.YtmifenflbaohnaaDoor
