/- Plain facts of a curve's points: in order, on the curve, as many as the roots; Hasse. -/
import Derived.Test.YtbeceimopamllaaDoorCuX
import Derived.Test.YtbeceimopamllaaDoorHsT
set_option linter.unusedSimpArgs false
set_option linter.unusedVariables false
set_option maxRecDepth 100000
namespace Go.Proofs.YtbeceimopamllaaDoor
open Go.RowKit EC

/-- By X, then by Y. -/
def Lx (q r : Pn) : Prop := q.x < r.x ∨ (q.x = r.x ∧ q.y < r.y)
/-- All points but the one that is far. -/
def ptl (P : Nat) (a b : Int) : Nat → List Pn
  | 0 => []
  | x + 1 => ptl P a b x ++ rowx P a b x
theorem pts_cons (P : Nat) (a b : Int) : ∀ x, pts P a b x = farP :: ptl P a b x
  | 0 => rfl
  | x + 1 => by rw [pts, pts_cons P a b x, ptl]; rfl
theorem sqs_sorted (P s y : Nat) : (sqs P s y).Pairwise (· < ·) := by
  unfold sqs
  rw [List.pairwise_map]
  exact (List.pairwise_lt_range.filter _).imp (fun h => by omega)
theorem rowx_mem {P : Nat} {a b : Int} {x : Nat} {q : Pn} (h : q ∈ rowx P a b x) : ∃ u : Nat, q = ⟨x, u, false⟩ ∧ u < P ∧ u * u % P = sqx P a b x := by
  unfold rowx at h
  obtain ⟨v, hv, rfl⟩ := List.mem_map.1 h
  obtain ⟨u, rfl, h1, h2⟩ := sqs_mem hv
  exact ⟨u, rfl, h1, h2⟩
theorem ptl_mem {P : Nat} {a b : Int} : ∀ {x : Nat} {q : Pn}, q ∈ ptl P a b x → ∃ z u : Nat, z < x ∧ q = ⟨z, u, false⟩ ∧ u < P ∧ u * u % P = sqx P a b z
  | 0, q, h => by simp [ptl] at h
  | x + 1, q, h => by
    rw [ptl] at h
    rcases List.mem_append.1 h with h | h
    · obtain ⟨z, u, h1, h2⟩ := ptl_mem h
      exact ⟨z, u, by omega, h2⟩
    · obtain ⟨u, h1⟩ := rowx_mem h
      exact ⟨x, u, by omega, h1⟩
theorem ptl_sorted (P : Nat) (a b : Int) : ∀ x, (ptl P a b x).Pairwise Lx
  | 0 => List.Pairwise.nil
  | x + 1 => by
    rw [ptl, List.pairwise_append]
    refine ⟨ptl_sorted P a b x, ?_, fun q hq r hr => ?_⟩
    · unfold rowx
      rw [List.pairwise_map]
      exact (sqs_sorted P _ P).imp (fun h => .inr ⟨rfl, h⟩)
    · obtain ⟨z, u, h1, rfl, _⟩ := ptl_mem hq
      obtain ⟨v, rfl, _⟩ := rowx_mem hr
      left
      show (z : Int) < x
      omega
theorem pts_on {P : Nat} {a b : Int} (hc : Cv P a b) {i : Nat} (h1 : 1 ≤ i) (hi : i < (pts P a b P).length) : ((pts P a b P).getD i farP).far = false ∧ hasB P a b ((pts P a b P).getD i farP) = true := by
  obtain ⟨j, rfl⟩ : ∃ j, i = j + 1 := ⟨i - 1, by omega⟩
  rw [pts_cons] at hi ⊢
  have hj : j < (ptl P a b P).length := by simpa using hi
  have e : (farP :: ptl P a b P).getD (j + 1) farP = (ptl P a b P)[j] := by simp [hj]
  rw [e]
  obtain ⟨z, u, hz, hq, hu, hs⟩ := ptl_mem (List.getElem_mem hj)
  rw [hq, hasB_nat hc hz hu]
  exact ⟨rfl, beq_iff_eq.2 hs⟩
theorem pts_less {P : Nat} {a b : Int} {i : Nat} (h1 : 1 ≤ i) (hi : i + 1 < (pts P a b P).length) : Lx ((pts P a b P).getD i farP) ((pts P a b P).getD (i + 1) farP) := by
  obtain ⟨j, rfl⟩ : ∃ j, i = j + 1 := ⟨i - 1, by omega⟩
  rw [pts_cons] at hi ⊢
  have hj : j + 1 < (ptl P a b P).length := by simpa using hi
  have e1 : (farP :: ptl P a b P).getD (j + 1) farP = (ptl P a b P)[j] := by simp [show j < (ptl P a b P).length by omega]
  have e2 : (farP :: ptl P a b P).getD (j + 1 + 1) farP = (ptl P a b P)[j + 1] := by simp [hj]
  rw [e1, e2]
  exact List.pairwise_iff_getElem.1 (ptl_sorted P a b P) j (j + 1) (by omega) hj (by omega)
theorem sqs_cnt (P s : Nat) : ∀ y, (sqs P s y).length = HS.cnt (fun t => t * t % P) s y
  | 0 => rfl
  | y + 1 => by
    rw [sqs_succ, List.length_append, HS.cnt, sqs_cnt P s y]
    congr 1
    by_cases h : y * y % P = s
    · simp [h]
    · simp [h]
theorem sqx_nat (P A B x : Nat) : sqx P (A : Int) (B : Int) x = (x * x * x + A * x + B) % P := by
  unfold sqx
  congr 1
theorem pts_cnt (P A B : Nat) : ∀ x, (pts P (A : Int) (B : Int) x).length = 1 + HS.sg (fun z => HS.rt P ((z * z * z + A * z + B) % P)) x
  | 0 => rfl
  | x + 1 => by
    rw [pts, List.length_append, pts_cnt P A B x, HS.sg]
    unfold rowx
    rw [List.length_map, sqs_cnt, sqx_nat]
    unfold HS.rt
    omega
/-- Hasse, as the law asks it. -/
theorem pts_hasse {P A B : Nat} (hc : Cv P (A : Int) (B : Int)) : ((pts P (A : Int) (B : Int) P).length - (P : Int) - 1) * ((pts P (A : Int) (B : Int) P).length - (P : Int) - 1) ≤ 4 * (P : Int) := by
  have ha := hc.a1
  have hb := hc.b1
  have h := HS.hasse hc.pr hc.p5 hc.p2 A B (by omega) (by omega)
  rw [pts_cnt P A B P]
  unfold HS.Hs HS.aff at h
  generalize HS.sg (fun z => HS.rt P ((z * z * z + A * z + B) % P)) P = N at h ⊢
  have h1 : ((N : Int) * N + P * P ≤ 4 * P + 2 * (N * P)) := by exact_mod_cast h
  have e : (((1 + N : Nat) : Int) - P - 1) * (((1 + N : Nat) : Int) - P - 1) = N * N + P * P - 2 * (N * P) := by
    have : ((1 + N : Nat) : Int) - P - 1 = N - P := by omega
    rw [this]; grind
  rw [e]
  omega
/-- How many there are up to x, by the symbols. -/
def manyx (P A B x : Nat) : Nat := 1 + HS.sg (fun z => HS.rt P ((z * z * z + A * z + B) % P)) x

end Go.Proofs.YtbeceimopamllaaDoor
