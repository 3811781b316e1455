/- Numbers and fresh places that stand. -/
import Derived.Test.YtcbepaionliepaaBigN
set_option linter.unusedSimpArgs false
set_option linter.unusedVariables false
set_option maxRecDepth 100000
namespace Go.Proofs.Ytcbepaionliepaa
open Go.RowKit

/-- Numbers and fresh places that stand, and that nothing under B has turned. -/
structure Bk (w0 w : World) (B : Nat) (L : List (Nat × Int)) (F : List Nat) : Prop where
  bel : Below B w0 w
  le : B ≤ w.heap.size
  big : ∀ p ∈ L, BigAt w p.1 p.2
  fr : ∀ b ∈ F, Slot w b
theorem Bk.alloc {w0 w : World} {B : Nat} {L : List (Nat × Int)} {F : List Nat} (h : Bk w0 w B L F) (x y : Value) : Bk w0 (w.alloc (.cells #[x, y] 47)) B L (w.heap.size :: F) :=
  ⟨h.bel.alloc h.le _, Nat.le_trans h.le (by simp), fun p hp => (h.big p hp).below (Below.alloc_self' w _) (Nat.le_refl _), fun b hb => by
    rcases List.mem_cons.1 hb with h1 | h1
    · subst h1; exact slot_new w x y
    · exact (h.fr b h1).below (Below.alloc_self' w _) (Nat.le_refl _)⟩
theorem Bk.made {w0 w w' : World} {B b : Nat} {x : Int} {L : List (Nat × Int)} {F : List Nat} (h : Bk w0 w B L F) (k : Made w w' b x) : Bk w0 w' B ((b, x) :: L) F :=
  ⟨h.bel.trans (k.2.2.mono h.le), Nat.le_trans h.le k.2.2.size, fun p hp => by
    rcases List.mem_cons.1 hp with h1 | h1
    · subst h1; exact k.2.1
    · exact (h.big p h1).below k.2.2 (Nat.le_refl _), fun c hc => (h.fr c hc).below k.2.2 (Nat.le_refl _)⟩
theorem Bk.upd {w0 w w' : World} {B z : Nat} {x : Int} {L L' : List (Nat × Int)} {F F' : List Nat} (h : Bk w0 w B L F) (hz : Slot w z) (hB : B ≤ z) (hx : BigAt w' z x) (u : Upd z w w') (hL : ∀ p ∈ L', p ∈ L ∧ p.1 ≠ z) (hF : ∀ f ∈ F', f ∈ F ∧ f ≠ z) : Bk w0 w' B ((z, x) :: L') F' :=
  ⟨h.bel.trans (u.below h.le hB), Nat.le_trans h.le u.size, fun p hp => by
    rcases List.mem_cons.1 hp with h1 | h1
    · subst h1; exact hx
    · exact (h.big p (hL p h1).1).upd u hz (hL p h1).2, fun c hc => (h.fr c (hF c hc).1).upd u (hF c hc).2⟩
theorem Bk.drewN {w0 w : World} {B q : Nat} {L : List (Nat × Int)} {F : List Nat} (h : Bk w0 w B L F) : Bk w0 (w.drewN q) B L F :=
  ⟨below_drewN' h.bel, h.le, fun p hp => (h.big p hp).drewN, fun c hc => (h.fr c hc).below (below_drewN' (Below.refl w.heap.size w)) (Nat.le_refl _)⟩

end Go.Proofs.Ytcbepaionliepaa
