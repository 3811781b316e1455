/- Compose: what is asked of it. -/
import Derived.Test.YtijkanilpblogaeQfVd
set_option linter.unusedSimpArgs false
set_option linter.unusedVariables false
set_option maxRecDepth 100000
namespace Go.Proofs.Ytijkanilpblogae
open Go.RowKit

/-- The fault of Compose. -/
def compF (f g : Qf) : Int × Int := if ffault f ≠ (0, 0) then ffault f else if ffault g ≠ (0, 0) then ffault g else if f.disc ≠ g.disc then (8, 1) else (0, 0)
/-- What Compose answers. -/
structure ComOut (f g h : Qf) : Prop where
  bad : compF f g ≠ (0, 0) → h = ⟨0, 0, 0⟩
  good : compF f g = (0, 0) → MQ.Cz f g h ∧ Int.gcd (Int.gcd h.a h.b) h.c = 1
theorem compF_ok {f g : Qf} (h1 : ffault f = (0, 0)) (h2 : ffault g = (0, 0)) (h3 : f.disc = g.disc) : compF f g = (0, 0) := by simp [compF, h1, h2, h3]
theorem compF_of {f g : Qf} (h : compF f g = (0, 0)) : ffault f = (0, 0) ∧ ffault g = (0, 0) ∧ f.disc = g.disc := by
  unfold compF at h
  split at h
  · rename_i h1; exact absurd h h1
  · split at h
    · rename_i h1; exact absurd h h1
    · split at h
      · simp at h
      · rename_i h1 h2 h3
        exact ⟨Decidable.not_not.1 h1, Decidable.not_not.1 h2, Decidable.not_not.1 h3⟩
theorem compF_code {f g : Qf} {c d : Int} (h : compF f g = (c, d)) : (c = 0 ∧ d = 0) ∨ c ≠ 0 := by
  unfold compF at h
  split at h
  · exact ffault_code h
  · split at h
    · exact ffault_code h
    · split at h
      · simp at h; omega
      · simp at h; omega
/-- What is made of two is reduced, so it is small where its discriminant is. -/
theorem cz_up {f g h : Qf} {N : Int} (hN : 1 ≤ N) (hd : f.disc < 0) (lo : -N ≤ f.disc) (c : MQ.Cz f g h) : h.a * h.a * 3 ≤ N ∧ h.a ≤ N ∧ -h.a ≤ h.b ∧ h.b ≤ h.a ∧ h.a ≤ h.c ∧ h.c ≤ N ∧ 4 * (h.a * h.c) ≤ N + h.a * h.a := by
  obtain ⟨h1, h2, h3⟩ := redB_parts c.red
  have h4 := c.disc
  have h5 := c.pos
  have e1 : h.disc = h.b * h.b - 4 * (h.a * h.c) := by unfold Qf.disc; rw [Int.mul_assoc]
  have e2 : h.b * h.b ≤ h.a * h.a := (sq_bd (N := h.a) h1 h2 h1 h2).2
  have e3 : h.a * h.a ≤ h.a * h.c := Int.mul_le_mul_of_nonneg_left h3 (by omega)
  have e4 : 1 * h.a ≤ h.a * h.a := Int.mul_le_mul_of_nonneg_right (by omega) (by omega)
  have e5 : 1 * h.c ≤ h.a * h.c := Int.mul_le_mul_of_nonneg_right (by omega) (by omega)
  refine ⟨by omega, by omega, h1, h2, h3, by omega, by omega⟩
theorem com_fault {f g h : Qf} (hd : f.disc < 0) (lo : -1000000 ≤ f.disc) (c : MQ.Cz f g h ∧ Int.gcd (Int.gcd h.a h.b) h.c = 1) : MQ.Cz f g h ∧ ffault h = (0, 0) := by
  obtain ⟨_, h2, h3, h4, h5, h6, _⟩ := cz_up (by decide) hd lo c.1
  have h7 := c.1.pos
  exact ⟨c.1, ffault_of ⟨by omega, by omega, by omega, by omega, by omega, by omega⟩ (by omega) (by rw [c.1.disc]; exact hd) c.2⟩

end Go.Proofs.Ytijkanilpblogae
