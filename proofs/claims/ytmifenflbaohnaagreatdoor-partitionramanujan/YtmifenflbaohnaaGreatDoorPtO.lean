/- Plain facts: odd parts, powers of two, Glaisher's counts. -/
import Derived.Test.YtmifenflbaohnaaGreatDoorJnM
set_option linter.unusedSimpArgs false
set_option linter.unusedVariables false
set_option maxRecDepth 100000
namespace Go.Proofs.YtmifenflbaohnaaGreatDoor
namespace PT

/-- The odd part. -/
def od (x : Nat) : Nat := if h : 0 < x ∧ x % 2 = 0 then od (x / 2) else x
termination_by x
decreasing_by omega
/-- The power of two. -/
def p2 (x : Nat) : Nat := if h : 0 < x ∧ x % 2 = 0 then 2 * p2 (x / 2) else 1
termination_by x
decreasing_by omega
theorem od_even {x : Nat} (h : 0 < x) (h2 : x % 2 = 0) : od x = od (x / 2) := by rw [od, dif_pos ⟨h, h2⟩]
theorem od_odd {x : Nat} (h2 : x % 2 = 1) : od x = x := by rw [od, dif_neg (by omega)]
theorem p2_even {x : Nat} (h : 0 < x) (h2 : x % 2 = 0) : p2 x = 2 * p2 (x / 2) := by rw [p2, dif_pos ⟨h, h2⟩]
theorem p2_odd {x : Nat} (h2 : x % 2 = 1) : p2 x = 1 := by rw [p2, dif_neg (by omega)]
theorem od_p2 : ∀ x : Nat, 0 < x → p2 x * od x = x ∧ od x % 2 = 1 ∧ 0 < p2 x ∧ 0 < od x := by
  intro x
  induction x using Nat.strongRecOn with
  | ind x ih =>
    intro h
    by_cases h2 : x % 2 = 0
    · obtain ⟨a, b, c, d⟩ := ih (x / 2) (by omega) (by omega)
      rw [od_even h h2, p2_even h h2]
      refine ⟨?_, b, by omega, d⟩
      rw [Nat.mul_assoc, a]; omega
    · rw [od_odd (by omega), p2_odd (by omega)]
      omega
theorem p2_le {x : Nat} (h : 0 < x) : p2 x ≤ x := by
  obtain ⟨a, b, c, d⟩ := od_p2 x h
  have := Nat.mul_le_mul_left (p2 x) d
  omega
/-- How often the odd number n comes up, where each entry stands for its odd part. -/
def wsum (l : List Int) (n : Int) : Nat := (l.map fun x => if (od x.toNat : Int) = n then p2 x.toNat else 0).sum
theorem wsum_take {l : List Int} {n : Int} {i : Nat} (h : i < l.length) : wsum (l.take (i + 1)) n = wsum (l.take i) n + (if (od (l.getD i 0).toNat : Int) = n then p2 (l.getD i 0).toNat else 0) := by
  unfold wsum
  rw [take_s h, List.map_append, List.sum_append]
  simp
theorem wsum_le {l : List Int} {n : Int} (hb : ∀ j, j < l.length → 1 ≤ l.getD j 0 ∧ l.getD j 0 ≤ 2000) : ∀ i, i ≤ l.length → wsum (l.take i) n ≤ 2000 * i
  | 0, _ => by simp [wsum]
  | i + 1, h => by
    rw [wsum_take (by omega)]
    have h1 := wsum_le (n := n) hb i (by omega)
    have h2 := hb i (by omega)
    have h3 : p2 (l.getD i 0).toNat ≤ 2000 := Nat.le_trans (p2_le (by omega)) (by omega)
    split <;> omega
/-- x is n times its power of two just if n is its odd part. -/
theorem od_iff {x n : Nat} (h : 0 < x) : x = n * p2 x ↔ od x = n := by
  obtain ⟨a, b, c, d⟩ := od_p2 x h
  constructor
  · intro e
    have : p2 x * od x = p2 x * n := by rw [a, Nat.mul_comm (p2 x) n]; exact e
    exact Nat.eq_of_mul_eq_mul_left c this
  · intro e
    rw [← e, Nat.mul_comm]; exact a.symm
/-- What is asked of the odd list. -/
structure Gl (l o : List Int) : Prop where
  lb : ∀ j, j < l.length → 1 ≤ l.getD j 0 ∧ l.getD j 0 ≤ 2000
  ob : ∀ j, j < o.length → 1 ≤ o.getD j 0 ∧ o.getD j 0 ≤ 2000 ∧ o.getD j 0 % 2 = 1
  od : ∀ j, j + 1 < o.length → o.getD (j + 1) 0 ≤ o.getD j 0
  ct : ∀ n : Nat, n ≤ 2000 → n % 2 = 1 → cnt o (n : Int) = wsum l (n : Int)

end PT
end Go.Proofs.YtmifenflbaohnaaGreatDoor
