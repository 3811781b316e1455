/- Bhaskara's way comes to Pell's solution by the list of the root, for all d up to 5000: reckoned in the kernel. -/
import Derived.Test.YtfbgblidlabipaaGreatDoorCfK
set_option linter.unusedSimpArgs false
set_option linter.unusedVariables false
set_option maxRecDepth 100000
set_option maxRecDepth 100000
namespace Go.Proofs.YtfbgblidlabipaaGreatDoor.CfM
theorem c5 : chkl 2502 500 = true := by decide +kernel
theorem c6 : chkl 3002 500 = true := by decide +kernel
theorem c7 : chkl 3502 500 = true := by decide +kernel
theorem c8 : chkl 4002 500 = true := by decide +kernel
theorem c9 : chkl 4502 499 = true := by decide +kernel
theorem chk_of {a n d : Nat} (h : chkl a n = true) (h1 : a ≤ d) (h2 : d < a + n) : chk d = true := by
  have := List.all_eq_true.1 h (d - a) (List.mem_range.2 (by omega))
  rwa [show a + (d - a) = d by omega] at this
theorem chk_all (d : Nat) (h1 : 2 ≤ d) (h2 : d ≤ 5000) : chk d = true := by
  by_cases g0 : d < 502
  · exact chk_of c0 (by omega) (by omega)
  by_cases g1 : d < 1002
  · exact chk_of c1 (by omega) (by omega)
  by_cases g2 : d < 1502
  · exact chk_of c2 (by omega) (by omega)
  by_cases g3 : d < 2002
  · exact chk_of c3 (by omega) (by omega)
  by_cases g4 : d < 2502
  · exact chk_of c4 (by omega) (by omega)
  by_cases g5 : d < 3002
  · exact chk_of c5 (by omega) (by omega)
  by_cases g6 : d < 3502
  · exact chk_of c6 (by omega) (by omega)
  by_cases g7 : d < 4002
  · exact chk_of c7 (by omega) (by omega)
  by_cases g8 : d < 4502
  · exact chk_of c8 (by omega) (by omega)
  exact chk_of c9 (by omega) (by omega)
theorem sqf_le (d n : Nat) : sqf d n * sqf d n ≤ d := by
  induction n with
  | zero => simp [sqf]
  | succ n ih => unfold sqf; split <;> omega
theorem sqf_is {d r : Nat} (n : Nat) (h1 : r * r ≤ d) (h2 : d < (r + 1) * (r + 1)) (hn : r ≤ n) : sqf d n = r := by
  induction n with
  | zero => have : r = 0 := by omega
            subst this; rfl
  | succ n ih =>
    unfold sqf
    split
    · rename_i h
      rcases Nat.lt_or_ge r (n + 1) with h3 | h3
      · have := sq_le (show r + 1 ≤ n + 1 by omega); omega
      · omega
    · rename_i h
      rcases Nat.lt_or_ge n r with h3 | h3
      · have := sq_le (show n + 1 ≤ r by omega); omega
      · exact ih h3
/-- Bhaskara's way ends, and where Pell's by the list does. -/
theorem cyc_pel {d r : Nat} (hr : Rn d r) (hd : d ≤ 5000) : ∃ X, cyc0 d r = some X ∧ pel d r 400 r (d - r * r) 1 0 r 1 false = some X := by
  have h := chk_all d (by have := hr.lo; have := hr.r1; have := Nat.mul_le_mul this this; omega) hd
  have e : sqf d 71 = r := sqf_is 71 (Nat.le_of_lt hr.lo) hr.hi (by
    rcases Nat.lt_or_ge 71 r with h3 | h3
    · have := sq_le (show 72 ≤ r by omega); have := hr.lo; omega
    · exact h3)
  unfold chk at h
  simp only [e] at h
  have hn : (r * r == d) = false := beq_eq_false_iff_ne.2 (by have := hr.lo; omega)
  rw [hn] at h
  simp only [Bool.false_eq_true, if_false] at h
  split at h
  · rename_i a b x y h1 h2
    simp at h
    exact ⟨(a, b), h1, by rw [h2, h.1, h.2]⟩
  · cases h
end Go.Proofs.YtfbgblidlabipaaGreatDoor.CfM
