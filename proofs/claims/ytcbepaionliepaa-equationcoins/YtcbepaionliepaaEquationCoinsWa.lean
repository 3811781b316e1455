/- The law EquationCoins: the walk. Written by mkco2.py. -/
import Derived.Test.YtcbepaionliepaaCoW
import Derived.Test.YtcbepaionliepaaCoX
set_option linter.unusedSimpArgs false
set_option linter.unusedVariables false
set_option maxRecDepth 100000
namespace Go.Proofs.Ytcbepaionliepaa
open Go.RowKit

theorem co_own {w : World} {base : Nat} {v : Value} {l : List Int} (h : w.ownsRow base 3 1 v l.length (l.map fun x : Int => Value.int .i64 x)) : IS w v l := by
  obtain ⟨h1, ⟨h2, h3⟩ | ⟨g, cap, cur, e1, e2, e3, e4⟩⟩ := id h
  · rw [h2]
    have : l = [] := List.eq_nil_of_length_eq_zero h3
    subst this
    exact ⟨none, 0, 0, 0, rfl, fun h => by simp at h, fun i hi => by simp at hi, fun h => by simp at h⟩
  · subst e1
    refine ⟨some ⟨g, 0, none⟩, g, 0, cap, rfl, fun _ => rfl, fun i hi => ?_, fun _ => (Array.getElem?_eq_some_iff.1 e3).1⟩
    have h6 := h.cellAt i (by omega)
    rw [Nat.zero_add, h6]
    simp [List.getD_eq_getElem?_getD, List.getElem?_eq_getElem hi]
theorem co_one (xs : List Int) : ∀ u ∈ (xs.map fun x : Int => Value.int .i64 x), u.oneCell' = true := by intro u hu; simp at hu; obtain ⟨x, _, rfl⟩ := hu; rfl
theorem co_F (c a : Int) (w : World) : Calls Try.prog 7 #[.int .i64 c, .int .i64 a] w fun e w' => e = .returned (.agg #[.int .i64 c, .int .i64 a]) ∧ Below w.heap.size w w' := F_any c a w

end Go.Proofs.Ytcbepaionliepaa
