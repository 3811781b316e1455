/- Memory of the curves' laws: blocks known whole. -/
import Derived.Test.YtbeceimopamllaaDoorCuQ
import Derived.Test.YtbeceimopamllaaDoorCuT
import Derived.Test.YtbeceimopamllaaDoorJnN
set_option linter.unusedSimpArgs false
set_option linter.unusedVariables false
set_option maxRecDepth 100000
namespace Go.Proofs.YtbeceimopamllaaDoor
open Go.RowKit EC

/-- Blocks known whole, all of them new since w. -/
structure Mm (l : List (Nat × List Value × TypeId)) (w W : World) : Prop where
  k : Below w.heap.size w W
  a : ∀ (i : Nat) (x : Nat × List Value × TypeId), l[i]? = some x → Cl x.1 x.2.1 x.2.2 W ∧ w.heap.size ≤ x.1
theorem Mm.at {l : List (Nat × List Value × TypeId)} {w W : World} (h : Mm l w W) (i : Nat) {b : Nat} {c : List Value} {t : TypeId} (e : l[i]? = some (b, c, t)) : Cl b c t W := (h.a i _ e).1
theorem Mm.lo {l : List (Nat × List Value × TypeId)} {w W : World} (h : Mm l w W) (i : Nat) {b : Nat} {c : List Value} {t : TypeId} (e : l[i]? = some (b, c, t)) : w.heap.size ≤ b := (h.a i _ e).2
theorem Mm.nil (w : World) : Mm [] w w := ⟨Below.refl _ _, fun i x e => by simp at e⟩
theorem Mm.below {l : List (Nat × List Value × TypeId)} {w W W' : World} (h : Mm l w W) (n : Below W.heap.size W W') : Mm l w W' :=
  ⟨h.k.trans (n.mono h.k.size), fun i x e => ⟨(h.a i x e).1.below n, (h.a i x e).2⟩⟩
theorem Mm.new {l : List (Nat × List Value × TypeId)} {w W : World} (h : Mm l w W) (c : List Value) (t : TypeId) {z : Nat} (hz : W.heap.size = z) : Mm ((z, c, t) :: l) w (W.alloc (.cells c.toArray t)) := by
  subst hz
  refine ⟨h.k.alloc h.k.size _, fun i x e => ?_⟩
  rcases i with _ | i
  · simp at e
    subst e
    exact ⟨Cl.new c t W, h.k.size⟩
  · have e' : l[i]? = some x := by simpa using e
    exact ⟨(h.a i x e').1.alloc _, (h.a i x e').2⟩
theorem Cl.same {b : Nat} {l : List Value} {t : TypeId} {W : World} (h : Cl b l t W) {B i : Nat} {v : Value} (hp : W.cell? ⟨B, i, none⟩ = some v) : Cl b l t (W.setCell ⟨B, i, none⟩ v) := by
  by_cases e : b = B
  · subst e
    have h1 := h.set i v
    have h2 : l[i]? = some v := by rw [← h.cell i]; exact hp
    have h3 : l.set i v = l := by
      obtain ⟨hi, hv⟩ := List.getElem?_eq_some_iff.1 h2
      rw [← hv]; exact List.set_getElem_self hi
    rw [h3] at h1
    exact h1
  · exact h.other (by exact e) _
/-- What is stored once more changes nothing. -/
theorem Mm.same2 {l : List (Nat × List Value × TypeId)} {w W : World} (h : Mm l w W) (i : Nat) {B : Nat} {u v : Value} {t : TypeId} (e : l[i]? = some (B, [u, v], t)) :
    Mm l w ((W.setCell ⟨B, 0, none⟩ u).setCell ⟨B, 1, none⟩ v) := by
  have hB := h.at i e
  have c0 : W.cell? ⟨B, 0, none⟩ = some u := hB.cell 0
  have c1 : (W.setCell ⟨B, 0, none⟩ u).cell? ⟨B, 1, none⟩ = some v := (hB.same c0).cell 1
  have hlo := h.lo i e
  exact ⟨(h.k.setCell hlo _).setCell hlo _, fun j x ej => ⟨((h.a j x ej).1.same c0).same c1, (h.a j x ej).2⟩⟩

theorem field_faultC (w : World) (x y : Int) : (Instr.field 23 (.agg #[.int .i64 x, .int .i64 y]) 0).run Tryd.prog w = .ok (.int .i64 x) w := by
  kernel_rfl

theorem rf_ok {P : Nat} {a b : Int} : ∀ (l : List Pn) (i : Nat), (∀ q ∈ l, On P a b q) → rf P a b i l = (0, 0)
  | [], _, _ => rfl
  | q :: l, i, h => by rw [rf, if_pos (hasB_on.2 (h q (by simp)))]; exact rf_ok l (i + 1) (fun r hr => h r (by simp [hr]))
theorem of_ok {P : Nat} {a b : Int} (hv : Cv P a b) {l : List Pn} (h : ∀ q ∈ l, On P a b q) : Of P a b l 0 0 := .inr ⟨P, rfl, hv, rf_ok l 0 h⟩
theorem Of.cases {p a b c d : Int} {l : List Pn} (h : Of p a b l c d) : c ≠ 0 ∨ (c = 0 ∧ d = 0 ∧ ∃ P : Nat, p = P ∧ Cv P a b ∧ ∀ q ∈ l, On P a b q) := by
  by_cases hc : c = 0
  · obtain ⟨h1, h2⟩ := h.good hc
    exact .inr ⟨hc, h1, h2⟩
  · exact .inl hc
theorem less_is {P : Nat} {a : Int} (q : Pn) : mz P a q (-1) = pneg P q := by
  unfold mz
  rw [if_neg (by omega)]
  simp [EC.mu, padd_far]

end Go.Proofs.YtbeceimopamllaaDoor
