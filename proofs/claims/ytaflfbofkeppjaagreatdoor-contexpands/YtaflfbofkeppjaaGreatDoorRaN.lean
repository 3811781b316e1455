/- Ratios that stand. -/
import Derived.Test.YtaflfbofkeppjaaGreatDoorRaM
import Derived.Test.YtaflfbofkeppjaaGreatDoorRaL
set_option linter.unusedSimpArgs false
set_option linter.unusedVariables false
set_option maxRecDepth 100000
namespace Go.Proofs.YtaflfbofkeppjaaGreatDoor
open Go.RowKit

theorem Rt.updR {w w' : World} {b z : Nat} {P Q : Int} (h : Rt w b P Q) (u : Upd z w w') (hz : RSlot w z) (hne : b ≠ z) : Rt w' b P Q := by
  obtain ⟨⟨s, t, h1, h2, h3⟩, h4, h5⟩ := h
  obtain ⟨x0, x1, x2, x3, hc⟩ := hz
  exact ⟨⟨s, t, (u.block b h1.lt hne).trans h1, h2.updR u hc, h3.updR u hc⟩, h4, h5⟩
theorem RSlot.updR {w w' : World} {b z : Nat} (h : RSlot w b) (u : Upd z w w') (hne : b ≠ z) : RSlot w' b := by
  obtain ⟨x0, x1, x2, x3, hc⟩ := h
  exact ⟨x0, x1, x2, x3, (u.block b hc.lt hne).trans hc⟩

/-- Ratios and fresh places for them that stand, and that nothing under B has turned. -/
structure Rk (w0 w : World) (B : Nat) (L : List (Nat × Int × Int)) (F : List Nat) : Prop where
  bel : Below B w0 w
  le : B ≤ w.heap.size
  rat : ∀ p ∈ L, Rt w p.1 p.2.1 p.2.2
  fr : ∀ b ∈ F, RSlot w b
theorem Rk.alloc {w0 w : World} {B : Nat} {L : List (Nat × Int × Int)} {F : List Nat} (h : Rk w0 w B L F) (x0 x1 x2 x3 : Value) : Rk w0 (w.alloc (.cells #[x0, x1, x2, x3] 37)) B L (w.heap.size :: F) :=
  ⟨h.bel.alloc h.le _, Nat.le_trans h.le (by simp), fun p hp => (h.rat p hp).below (Below.alloc_self' w _), fun b hb => by
    rcases List.mem_cons.1 hb with h1 | h1
    · subst h1; exact RSlot.new w x0 x1 x2 x3
    · exact (h.fr b h1).below (Below.alloc_self' w _)⟩
theorem Rk.below {w0 w w' : World} {B : Nat} {L : List (Nat × Int × Int)} {F : List Nat} (h : Rk w0 w B L F) (k : Below w.heap.size w w') : Rk w0 w' B L F :=
  ⟨h.bel.trans (k.mono h.le), Nat.le_trans h.le k.size, fun p hp => (h.rat p hp).below k, fun b hb => (h.fr b hb).below k⟩
theorem Rk.upd {w0 w w' : World} {B z : Nat} {P Q : Int} {L L' : List (Nat × Int × Int)} {F F' : List Nat} (h : Rk w0 w B L F) (hz : RSlot w z) (hB : B ≤ z) (hx : Rt w' z P Q) (u : Upd z w w') (hL : ∀ p ∈ L', p ∈ L ∧ p.1 ≠ z) (hF : ∀ f ∈ F', f ∈ F ∧ f ≠ z) : Rk w0 w' B ((z, P, Q) :: L') F' :=
  ⟨h.bel.trans (u.below h.le hB), Nat.le_trans h.le u.size, fun p hp => by
    rcases List.mem_cons.1 hp with h1 | h1
    · subst h1; exact hx
    · exact (h.rat p (hL p h1).1).updR u hz (hL p h1).2, fun c hc => (h.fr c (hF c hc).1).updR u (hF c hc).2⟩

end Go.Proofs.YtaflfbofkeppjaaGreatDoor
