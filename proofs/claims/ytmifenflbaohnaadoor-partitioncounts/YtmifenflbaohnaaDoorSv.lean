/- A fault that a variable holds. -/
import Derived.Test.YtmifenflbaohnaaDoorBigBase
set_option linter.unusedSimpArgs false
set_option linter.unusedVariables false
set_option maxRecDepth 100000
namespace Go.Proofs.YtmifenflbaohnaaDoor
open Go.RowKit

/-- A fault that a variable holds, in block b. -/
structure Sv (b : Nat) (c d : Int) (w : World) : Prop where
  c0 : w.cell? ⟨b, 0, none⟩ = some (.int .i64 c)
  c1 : w.cell? ⟨b, 1, none⟩ = some (.int .i64 d)
  f0 : w.frozen? ⟨b, 0, none⟩ = false
  f1 : w.frozen? ⟨b, 1, none⟩ = false
  lt : b < w.heap.size

theorem Sv.below {b : Nat} {c d : Int} {w w' : World} (h : Sv b c d w) (k : Below w.heap.size w w') : Sv b c d w' :=
  ⟨cell_later k h.c0, cell_later k h.c1, (k.frozen (p := ⟨b, 0, none⟩) h.lt).trans h.f0, (k.frozen (p := ⟨b, 1, none⟩) h.lt).trans h.f1, Nat.lt_of_lt_of_le h.lt k.size⟩
theorem Sv.drew {b : Nat} {c d : Int} {w : World} (h : Sv b c d w) : Sv b c d w.drew := ⟨h.c0, h.c1, h.f0, h.f1, h.lt⟩
theorem Sv.drewN {b n : Nat} {c d : Int} {w : World} (h : Sv b c d w) : Sv b c d (w.drewN n) := h.below (below_drewN' (Below.refl _ _))
theorem Sv.alloc {b : Nat} {c d : Int} {w : World} (h : Sv b c d w) (C : Array Value) (t : TypeId) : Sv b c d (w.alloc (.cells C t)) := h.below (Below.alloc (Below.refl _ _) (Nat.le_refl _) _)
theorem Sv.new (c d : Int) (w : World) : Sv w.heap.size c d (w.alloc (.cells #[.int .i64 c, .int .i64 d] 23)) :=
  ⟨by simp, by simp, by simp, by simp, by simp⟩
theorem Sv.set {b : Nat} {c d : Int} {w : World} (h : Sv b c d w) (x y : Int) : Sv b x y ((w.setCell ⟨b, 0, none⟩ (.int .i64 x)).setCell ⟨b, 1, none⟩ (.int .i64 y)) := by
  obtain ⟨c0, c1, f0, f1, lt⟩ := h
  exact ⟨by go_simp, by go_simp, by go_simp, by go_simp, by simpa using lt⟩
theorem Sv.other {b b' : Nat} {c d : Int} {w : World} (h : Sv b c d w) (x y : Value) (hne : b' ≠ b) : Sv b c d ((w.setCell ⟨b', 0, none⟩ x).setCell ⟨b', 1, none⟩ y) := by
  have k : ∀ v : World, ∀ o : Nat, ∀ z : Value, (v.setCell ⟨b', o, none⟩ z).heap[b]? = v.heap[b]? := fun v o z => Below.heap_setCell _ _ _ _ (Ne.symm hne)
  have e : ((w.setCell ⟨b', 0, none⟩ x).setCell ⟨b', 1, none⟩ y).heap[b]? = w.heap[b]? := (k _ _ _).trans (k _ _ _)
  refine ⟨?_, ?_, ?_, ?_, by simpa using h.lt⟩
  · exact (World.cell?_of_block e).trans h.c0
  · exact (World.cell?_of_block e).trans h.c1
  · exact (World.frozen?_of_block e).trans h.f0
  · exact (World.frozen?_of_block e).trans h.f1

end Go.Proofs.YtmifenflbaohnaaDoor
