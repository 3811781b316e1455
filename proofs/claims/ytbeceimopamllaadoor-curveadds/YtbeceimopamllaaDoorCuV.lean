/- Memory of the curves' laws: blocks known whole, and apart from each other. -/
import Derived.Test.YtbeceimopamllaaDoorCuU
set_option linter.unusedSimpArgs false
set_option linter.unusedVariables false
set_option maxRecDepth 100000
namespace Go.Proofs.YtbeceimopamllaaDoor
open Go.RowKit EC

/-- Blocks known whole, apart from each other, all of them new since w. -/
structure Mn (l : List (Nat × List Value × TypeId)) (w W : World) : Prop where
  m : Mm l w W
  d : ∀ (i j : Nat) (x y : Nat × List Value × TypeId), l[i]? = some x → l[j]? = some y → x.1 = y.1 → i = j
theorem Mn.at {l : List (Nat × List Value × TypeId)} {w W : World} (h : Mn l w W) (i : Nat) {b : Nat} {c : List Value} {t : TypeId} (e : l[i]? = some (b, c, t)) : Cl b c t W := h.m.at i e
theorem Mn.k {l : List (Nat × List Value × TypeId)} {w W : World} (h : Mn l w W) : Below w.heap.size w W := h.m.k
theorem Mn.nil (w : World) : Mn [] w w := ⟨Mm.nil w, fun i j x y e => by simp at e⟩
theorem Mn.below {l : List (Nat × List Value × TypeId)} {w W W' : World} (h : Mn l w W) (n : Below W.heap.size W W') : Mn l w W' := ⟨h.m.below n, h.d⟩
theorem Mn.new {l : List (Nat × List Value × TypeId)} {w W : World} (h : Mn l w W) (c : List Value) (t : TypeId) {z : Nat} (hz : W.heap.size = z) : Mn ((z, c, t) :: l) w (W.alloc (.cells c.toArray t)) := by
  refine ⟨h.m.new c t hz, fun i j x y ex ey e => ?_⟩
  subst hz
  rcases i with _ | i
  · rcases j with _ | j
    · rfl
    · exfalso
      simp at ex
      subst ex
      have ey' : l[j]? = some y := by simpa using ey
      have := (h.m.a j y ey').1.lt
      simp only at e
      omega
  · rcases j with _ | j
    · exfalso
      simp at ey
      subst ey
      have ex' : l[i]? = some x := by simpa using ex
      have := (h.m.a i x ex').1.lt
      simp only at e
      omega
    · have := h.d i j x y (by simpa using ex) (by simpa using ey) e
      omega
theorem Mn.set {l : List (Nat × List Value × TypeId)} {w W : World} (h : Mn l w W) (i : Nat) {B : Nat} {c : List Value} {t : TypeId} (e : l[i]? = some (B, c, t)) (k : Nat) (v : Value) :
    Mn (l.set i (B, c.set k v, t)) w (W.setCell ⟨B, k, none⟩ v) := by
  have hi : i < l.length := (List.getElem?_eq_some_iff.1 e).1
  refine ⟨⟨h.m.k.setCell (h.m.lo i e) _, fun j x ej => ?_⟩, fun j1 j2 x y e1 e2 exy => ?_⟩
  · rw [List.getElem?_set] at ej
    by_cases hj : i = j
    · subst hj
      rw [if_pos rfl, if_pos hi] at ej
      simp at ej
      subst ej
      exact ⟨(h.m.at i e).set k v, h.m.lo i e⟩
    · rw [if_neg hj] at ej
      refine ⟨(h.m.a j x ej).1.other (fun eb => hj ?_) _, (h.m.a j x ej).2⟩
      exact (h.d j i x _ ej e eb).symm
  · have g : ∀ (j : Nat) (z : Nat × List Value × TypeId), (l.set i (B, c.set k v, t))[j]? = some z → ∃ z', l[j]? = some z' ∧ z'.1 = z.1 := fun j z ej => by
      rw [List.getElem?_set] at ej
      by_cases hj : i = j
      · subst hj
        rw [if_pos rfl, if_pos hi] at ej
        simp at ej
        subst ej
        exact ⟨_, e, rfl⟩
      · rw [if_neg hj] at ej
        exact ⟨z, ej, rfl⟩
    obtain ⟨x', hx, ex⟩ := g j1 x e1
    obtain ⟨y', hy, ey⟩ := g j2 y e2
    exact h.d j1 j2 x' y' hx hy (by rw [ex, ey]; exact exy)

end Go.Proofs.YtbeceimopamllaaDoor
