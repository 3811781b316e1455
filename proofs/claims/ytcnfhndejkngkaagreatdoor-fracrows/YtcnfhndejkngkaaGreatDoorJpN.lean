import Derived.Test.YtcnfhndejkngkaaGreatDoorJpM
import Derived.Test.YtcnfhndejkngkaaGreatDoorRaM
section
set_option linter.unusedSimpArgs false
set_option linter.unusedVariables false
set_option maxRecDepth 100000
namespace Go.Proofs.YtcnfhndejkngkaaGreatDoor
open Go.RowKit
end Go.Proofs.YtcnfhndejkngkaaGreatDoor
end

section
set_option linter.unusedSimpArgs false
set_option linter.unusedVariables false
set_option maxRecDepth 100000
namespace Go.Proofs.YtcnfhndejkngkaaGreatDoor
open Go.RowKit
theorem Rt.updR {w w' : World} {b z : Nat} {P Q : Int} (h : Rt w b P Q) (u : Upd z w w') (hz : RSlot w z) (hne : b ≠ z) : Rt w' b P Q := by
  obtain ⟨⟨s, t, h1, h2, h3⟩, h4, h5⟩ := h
  obtain ⟨x0, x1, x2, x3, hc⟩ := hz
  exact ⟨⟨s, t, (u.block b h1.lt hne).trans h1, h2.updR u hc, h3.updR u hc⟩, h4, h5⟩
theorem RSlot.updR {w w' : World} {b z : Nat} (h : RSlot w b) (u : Upd z w w') (hne : b ≠ z) : RSlot w' b := by
  obtain ⟨x0, x1, x2, x3, hc⟩ := h
  exact ⟨x0, x1, x2, x3, (u.block b hc.lt hne).trans hc⟩
structure Rk (w0 w : World) (B : Nat) (L : List (Nat × Int × Int)) (F : List Nat) : Prop where
  bel : Below B w0 w
  le : B ≤ w.heap.size
  rat : ∀ p ∈ L, Rt w p.1 p.2.1 p.2.2
  fr : ∀ b ∈ F, RSlot w b
end Go.Proofs.YtcnfhndejkngkaaGreatDoor
end
