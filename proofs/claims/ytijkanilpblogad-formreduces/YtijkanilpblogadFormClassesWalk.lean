/- FormClasses, the law's own walk: out of what is asked of the example and of Classes. -/
import Derived.Test.YtijkanilpblogadQfF
import Derived.Test.YtijkanilpblogadRefL
set_option linter.unusedSimpArgs false
set_option linter.unusedVariables false
set_option maxRecDepth 100000
namespace Go.Proofs.Ytijkanilpblogad
open Go.RowKit

/-- The fault of Classes. -/
def cfault (d : Int) : Int × Int := if 0 ≤ d ∨ d < -200000 then (3, 0) else if 1 < d % 4 then (7, 0) else (0, 0)
theorem qcells_cons (f : Qf) (l : List Qf) : qcells (f :: l) = f.l ++ qcells l := by simp [qcells]
theorem qcells_at : ∀ (l : List Qf) (i : Nat) (f : Qf), l[i]? = some f → (qcells l)[i * 3]? = some (.int .i64 f.a) ∧ (qcells l)[i * 3 + 1]? = some (.int .i64 f.b) ∧ (qcells l)[i * 3 + 2]? = some (.int .i64 f.c)
  | [], i, f, h => by simp at h
  | g :: l, 0, f, h => by
    simp at h; subst h
    rw [qcells_cons]; simp
  | g :: l, i + 1, f, h => by
    have ih := qcells_at l i f (by simpa using h)
    rw [qcells_cons]
    have e : ∀ k, (Qf.l g ++ qcells l)[(i + 1) * 3 + k]? = (qcells l)[i * 3 + k]? := fun k => by
      rw [List.getElem?_append_right (by simp; omega)]
      congr 1
      simp; omega
    exact ⟨(e 0).trans ih.1, (e 1).trans ih.2.1, (e 2).trans ih.2.2⟩
theorem qcells_len (l : List Qf) : (qcells l).length = l.length * 3 := by
  induction l with
  | nil => rfl
  | cons f l ih => rw [qcells_cons, List.length_append, ih]; simp; omega
theorem top_one {d : Int} {n m : Nat} (h1 : 3 * (n : Int) * n ≤ -d) (h2 : -d < 3 * ((n : Int) + 1) * ((n : Int) + 1)) (k1 : 3 * (m : Int) * m ≤ -d) (k2 : -d < 3 * ((m : Int) + 1) * ((m : Int) + 1)) : n = m := by
  have key : ∀ x y : Nat, x < y → 3 * ((x : Int) + 1) * ((x : Int) + 1) ≤ 3 * (y : Int) * y := fun x y h => by
    have h3 : ((x : Int) + 1) * ((x : Int) + 1) ≤ (y : Int) * y := Int.mul_le_mul (by omega) (by omega) (by omega) (by omega)
    rw [Int.mul_assoc, Int.mul_assoc]
    omega
  rcases Nat.lt_trichotomy n m with h | h | h
  · have := key n m h; omega
  · exact h
  · have := key m n h; omega

/-- What Classes answers. -/
def ClassesOut (d : Int) (w : World) (e : Ending) (w' : World) : Prop :=
  ∃ (a : Option Addr) (c : Nat) (l : List Qf), e = .returned (.tuple #[.slice a l.length c, ffv (cfault d)]) ∧ (cfault d ≠ (0, 0) → l = []) ∧
    (cfault d = (0, 0) → ∃ n : Nat, (3 * (n : Int) * n ≤ -d ∧ -d < 3 * ((n : Int) + 1) * ((n : Int) + 1)) ∧ l = classesTo d n) ∧
    (l ≠ [] → ∃ b : Nat, a = some ⟨b, 0, none⟩ ∧ b < w'.heap.size ∧ ∀ j u, (qcells l)[j]? = some u → w'.cell? ⟨b, j, none⟩ = some u) ∧ Below w.heap.size w w'

/-- What is asked of the example and of Classes. -/
structure ClassesIs (Bg : World → Prop) : Prop where
  keep : ∀ w w' : World, Bg w → Below w.heap.size w w' → Bg w'
  begun : ∀ w : World, Bg w → Calls Try.prog 7 #[] w fun e w' => e = .returned (.bool true) ∧ Below w.heap.size w w'
  classes : ∀ (d : Int) (w : World), Calls Try.prog 20 #[.int .i64 d] w (ClassesOut d w)

end Go.Proofs.Ytijkanilpblogad
