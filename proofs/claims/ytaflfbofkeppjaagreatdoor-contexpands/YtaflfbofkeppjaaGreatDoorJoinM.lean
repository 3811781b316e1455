import Derived.Test.YtaflfbofkeppjaaGreatDoorJoinL
import Derived.Test.YtaflfbofkeppjaaGreatDoorJoinD
section
/- arithmeticabig's ratios: Denom. -/
set_option linter.unusedSimpArgs false
set_option linter.unusedVariables false
set_option maxRecDepth 100000
namespace Go.Proofs.YtaflfbofkeppjaaGreatDoor
open Go.RowKit

set_option maxHeartbeats 1000000 in
theorem Denom_pos (b : Nat) (p q : Int) (m : Nat) (w : World) (hx : RatAt w b p q) (hq : 0 < q) (hq1 : q.natAbs < pw m) (hm' : m ≤ 100000000) :
    Calls Tryz.prog 22 #[.pointer (some ⟨b, 0, none⟩)] w fun e w' => ∃ b', e = .returned (.pointer (some ⟨b', 0, none⟩)) ∧ Made w w' b' q := by
  have ka : Below w.heap.size w (w.alloc (.cells #[.bool false, .slice none 0 0] 35)) := (Below.refl _ _).alloc (Nat.le_refl _) _
  have HD : Hid (Calls Tryz.prog 61 #[.pointer (some ⟨b, 0, none⟩)] (w.alloc (.cells #[.bool false, .slice none 0 0] 35)) fun e w' => e = .returned (.pointer (some ⟨b, 2, none⟩)) ∧ w' = w.alloc (.cells #[.bool false, .slice none 0 0] 35)) := den_pos b p q _ (hx.below ka) hq
  have HS : Hid (Calls Tryz.prog 37 #[.pointer (some ⟨w.heap.size, 0, none⟩), .pointer (some ⟨b, 2, none⟩)] (w.alloc (.cells #[.bool false, .slice none 0 0] 35)) fun e w' => e = .returned (.pointer (some ⟨w.heap.size, 0, none⟩)) ∧ BigAt w' w.heap.size q ∧ Upd w.heap.size (w.alloc (.cells #[.bool false, .slice none 0 0] 35)) w') := Set_at 2 w.heap.size b q m _ (slot_new w _ _) ((hx.below ka).den) hq1 hm'
  clear hx hq1
  go_enter Tryz.func22, Tryz.ntmps22
  go_wp2_with fail
  refine HD.out.mono ?_
  rintro e w1 ⟨rfl, hw1⟩
  rw [hw1]
  clear hw1 w1
  go_wp2_with fail
  refine HS.out.mono ?_
  rintro e w2 ⟨rfl, h2, u2⟩
  have HM : Hid (Made w w2 w.heap.size q) := ⟨Nat.le_refl _, h2, ka.trans (u2.below (by simp) (Nat.le_refl _))⟩
  clear h2 u2 ka
  go_wp2
  go_ret
  exact ⟨_, rfl, HM.out⟩

end Go.Proofs.YtaflfbofkeppjaaGreatDoor
end

section
/- A region that draws its order: by what holds in each of its states. -/
set_option linter.unusedSimpArgs false
set_option linter.unusedVariables false
set_option maxRecDepth 100000
namespace Go.Proofs.YtaflfbofkeppjaaGreatDoor
open Go.RowKit

section
variable {P : Program} {ops : Array Oper} {Q : Exit → Act → World → Prop} {md : Region.Mode} {S : World → Prop}

/-- What is asked of one operation in one state. -/
def StepG (P : Program) (ops : Array Oper) (Q : Exit → Act → World → Prop) (S : World → Prop) (g : Nat) (I : Nat → Array Bool → Act → World → Prop) (n : Nat) (l : Array Bool) (a : Act) (w : World) (i : Nat) : Prop :=
  ∃ o, ops[i]? = some o ∧ ∀ K' : Act → World → Prop, Hid (∀ a w, (l.getD g false = false → i ≠ g → S w) → I n (l.setIfInBounds i true) a w → K' a w) → if Region.wanted o (yielded ops a.tmps) = true then Oper.wp P o a w K' Q else K' (a.put o.dst undef) w

theorem wpAnyG_inv {g : Nat} (I : Nat → Array Bool → Act → World → Prop)
    (h : ∀ n l a w, I n l a w → (Region.ready md ops l = [] ∧ Q .normal a w) ∨ (∃ m L, n = m + 1 ∧ Region.ready md ops l = L ∧ L ≠ [] ∧ ∀ i ∈ L, StepG P ops Q S g I m l a w i)) :
    ∀ n l a w, I n l a w → wpAnyG P md ops Q S g n l a w := by
  intro n
  induction n with
  | zero =>
    intro l a w hi
    rcases h 0 l a w hi with h1 | ⟨m, L, h1, _⟩
    · exact h1
    · omega
  | succ n ih =>
    intro l a w hi
    rcases h (n + 1) l a w hi with ⟨h1, h2⟩ | ⟨m, L, h1, h2, h3, h4⟩
    · exact wpAnyG_done h1 h2 _
    · obtain rfl : n = m := by omega
      refine ⟨fun h0 => (h3 (h2.symm.trans h0)).elim, fun i hi' => ?_⟩
      rw [h2] at hi'
      obtain ⟨o, ho, hs⟩ := h4 i hi'
      exact wpOp_step ho fun K' hK => hs K' (fun a w h1 h2 => hK a w ⟨h1, ih _ _ _ h2⟩)
end
end Go.Proofs.YtaflfbofkeppjaaGreatDoor
end
