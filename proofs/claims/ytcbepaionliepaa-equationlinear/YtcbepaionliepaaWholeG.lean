/- The document's examples of layer 1 (wholeBegun). -/
import Derived.Test.YtcbepaionliepaaWholeF
set_option linter.unusedSimpArgs false
set_option linter.unusedVariables false
set_option maxRecDepth 100000
namespace Go.Proofs.Ytcbepaionliepaa
open Go.RowKit

theorem begun_bez {u v : Int} (h : Bez 12 (-18) u v) : u = 2 ∧ v = 1 := by
  have h1 := h.lin
  have h2 := h.low (by omega)
  have h3 := h.high (by omega)
  have e : Int.gcd 12 (-18) = 6 := by decide
  rw [e] at h1 h3
  have e2 : (Int.natAbs (-18) / 6 : Nat) = 3 := by decide
  rw [e2] at h3
  omega

theorem three_cells (a b c : Int) (W : World) (B : Nat) (hB : B < W.heap.size) (h0 : W.cell? ⟨B, 0, none⟩ = some (.int .i64 a)) (h1 : W.cell? ⟨B, 1, none⟩ = some (.int .i64 b)) (h2 : W.cell? ⟨B, 2, none⟩ = some (.int .i64 c)) :
    IS W (.slice (some ⟨B, 0, none⟩) 3 3) [a, b, c] := by
  refine ⟨⟨_, B, 0, 3, rfl, fun _ => rfl, fun i hi => ?_, fun _ => hB⟩⟩
  match i, hi with
  | 0, _ => exact h0
  | 1, _ => exact h1
  | 2, _ => exact h2

theorem begun_join {R M c at' : Int} (h : JOut [2, 3, 2] [3, 5, 7] R M c at') : R = 23 ∧ M = 105 ∧ c = 0 ∧ at' = 0 := by
  have l0 : MathC.jl [3, 5, 7] 0 = 1 := rfl
  have l1 : MathC.jl [3, 5, 7] 1 = 3 := by decide
  have l2 : MathC.jl [3, 5, 7] 2 = 15 := by decide
  have l3 : MathC.jl [3, 5, 7] 3 = 105 := by decide
  rcases h.cases with h1 | h1 | ⟨_, _, k, r, m, R', M', hk, hj, rfl, rfl, rfl, hc, ho⟩ | ⟨_, _, r, m, hj, rfl, rfl, rfl, rfl⟩
  · simp at h1
  · simp at h1
  · exfalso
    have hm := hj.lcm
    have hk3 : k = 0 ∨ k = 1 ∨ k = 2 := by simp at hk; omega
    rcases hk3 with rfl | rfl | rfl
    all_goals
      first | rw [l0] at hm | rw [l1] at hm | rw [l2] at hm
      subst hm
      rcases ho.cases with ⟨_, _, _, h2⟩ | ⟨_, n, hn, n1, n2, ⟨_, _, _, h2⟩ | ⟨_, _, _, h2, h3⟩ | ⟨h2, _⟩⟩
      · simp [numB] at h2
      · have : n = 3 ∨ n = 5 ∨ n = 7 := by simp at hn; omega
        rcases this with rfl | rfl | rfl <;> first | (simp at hn; done) | exact h2 ⟨_, (Int.one_mul _).symm⟩
      · have : n = 3 ∨ n = 5 ∨ n = 7 := by simp at hn; omega
        rcases this with rfl | rfl | rfl <;> simp at h3
      · exact hc h2
  · have hm := hj.lcm
    simp only [List.length_cons, List.length_nil] at hm
    rw [l3] at hm
    subst hm
    have h1 := hj.hi
    have c0 := hj.cong 0 (by simp)
    have c1 := hj.cong 1 (by simp)
    have c2 := hj.cong 2 (by simp)
    simp at c0 c1 c2
    refine ⟨?_, by simp, rfl, rfl⟩
    omega

end Go.Proofs.Ytcbepaionliepaa
