/- padic.valueAt. -/
import Derived.Test.YtmifenflbaohnaaDoorJnD
import Derived.Test.YtmifenflbaohnaaDoorMathP
import Derived.Test.YtmifenflbaohnaaDoorRsK
import Derived.Test.YtmifenflbaohnaaDoorJnB
set_option linter.unusedSimpArgs false
set_option linter.unusedVariables false
set_option maxRecDepth 100000
namespace Go.Proofs.YtmifenflbaohnaaDoor
open Go.RowKit

theorem IS.ownP {w : World} {base k : Nat} {v : Value} {l : List Int} (hk : l.length = k) (h : w.ownsRow base 3 1 v k (ints l)) : IS w v l := by
  subst hk
  obtain ⟨h1, h2⟩ := h
  rcases h2 with ⟨h3, h4⟩ | ⟨g, cap, cur, h3, h4, h5, h6⟩
  · subst h3
    exact ⟨none, 0, 0, 0, by rw [h4], fun h => by omega, fun i hi => by omega, fun h => by omega⟩
  · have hrow : w.ownsRow base 3 1 v l.length (ints l) := ⟨h1, .inr ⟨g, cap, cur, h3, h4, h5, h6⟩⟩
    subst h3
    refine ⟨some ⟨g, 0, none⟩, g, 0, cap, rfl, fun _ => rfl, fun i hi => ?_, fun _ => (hrow.lt g rfl).2⟩
    rw [Nat.zero_add, hrow.cellAt i (by omega), ints, List.getElem?_map, List.getD_eq_getElem?_getD, List.getElem?_eq_getElem hi]; rfl
theorem IS.belowP {w w' : World} {s : Value} {xs : List Int} (h : IS w s xs) (k : Below w.heap.size w w') : IS w' s xs := by
  obtain ⟨aa, g, o, cap, h1, h2, h3, h4⟩ := h
  exact ⟨aa, g, o, cap, h1, h2, fun i hi => (k.cell (p := ⟨g, o + i, none⟩) (h4 (by omega))).trans (h3 i hi), fun hp => Nat.lt_of_lt_of_le (h4 hp) k.size⟩

theorem horner {a x p : Int} {v X T m : Nat} (h0 : 0 < m) (hv : (v : Int) = p % m) (hX : (X : Int) = x % m) (hT : (T : Int) = a % m) : (((v * X % m + T) % m : Nat) : Int) = (a + x * p) % m := by
  push_cast
  rw [Int.emod_add_emod]
  have e1 := Int.emod_add_mul_ediv p m
  have e2 := Int.emod_add_mul_ediv x m
  have e3 := Int.emod_add_mul_ediv a m
  rw [← hv] at e1
  rw [← hX] at e2
  rw [← hT] at e3
  obtain ⟨k1, hk1⟩ : ∃ k, k = p / m := ⟨_, rfl⟩
  obtain ⟨k2, hk2⟩ : ∃ k, k = x / m := ⟨_, rfl⟩
  obtain ⟨k3, hk3⟩ : ∃ k, k = a / m := ⟨_, rfl⟩
  rw [← hk1] at e1
  rw [← hk2] at e2
  rw [← hk3] at e3
  have e : a + x * p = (v * X + T) + m * (k3 + X * k1 + k2 * p) := by rw [← e3, ← e2]; rw [← e1]; grind
  rw [e, Int.add_mul_emod_self_left]

end Go.Proofs.YtmifenflbaohnaaDoor
