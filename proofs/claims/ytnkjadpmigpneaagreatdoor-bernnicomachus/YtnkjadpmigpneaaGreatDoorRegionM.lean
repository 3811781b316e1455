import Derived.Test.YtnkjadpmigpneaaGreatDoorRegionG
set_option linter.unusedSimpArgs false
set_option linter.unusedVariables false
set_option maxRecDepth 100000
namespace Go.Proofs.YtnkjadpmigpneaaGreatDoor
open Go.RowKit
section
variable {P : Program} {ops : Array Oper} {Q : Exit → Act → World → Prop} {md : Region.Mode} {S : World → Prop}
def StepG (P : Program) (ops : Array Oper) (Q : Exit → Act → World → Prop) (S : World → Prop) (g : Nat) (I : Nat → Array Bool → Act → World → Prop) (n : Nat) (l : Array Bool) (a : Act) (w : World) (i : Nat) : Prop :=
  ∃ o, ops[i]? = some o ∧ ∀ K' : Act → World → Prop, Hid (∀ a w, (l.getD g false = false → i ≠ g → S w) → I n (l.setIfInBounds i true) a w → K' a w) → if Region.wanted o (yielded ops a.tmps) = true then Oper.wp P o a w K' Q else K' (a.put o.dst undef) w
theorem wpAnyG_inv {g : Nat} (I : Nat → Array Bool → Act → World → Prop)
    (h : ∀ n l a w, I n l a w → (Region.ready md ops l = [] ∧ Q .normal a w) ∨ (∃ m L, n = m + 1 ∧ Region.ready md ops l = L ∧ L ≠ [] ∧ ∀ i ∈ L, StepG P ops Q S g I m l a w i)) :
    ∀ n l a w, I n l a w → wpAnyG P md ops Q S g n l a w := by
  intro n
  induction n with
  | zero =>
    intro l a w hi
    rcases h 0 l a w hi with h1 | ⟨m, L, h1, _⟩
    · exact h1
    · omega
  | succ n ih =>
    intro l a w hi
    rcases h (n + 1) l a w hi with ⟨h1, h2⟩ | ⟨m, L, h1, h2, h3, h4⟩
    · exact wpAnyG_done h1 h2 _
    · obtain rfl : n = m := by omega
      refine ⟨fun h0 => (h3 (h2.symm.trans h0)).elim, fun i hi' => ?_⟩
      rw [h2] at hi'
      obtain ⟨o, ho, hs⟩ := h4 i hi'
      exact wpOp_step ho fun K' hK => hs K' (fun a w h1 h2 => hK a w ⟨h1, ih _ _ _ h2⟩)
end
end Go.Proofs.YtnkjadpmigpneaaGreatDoor
