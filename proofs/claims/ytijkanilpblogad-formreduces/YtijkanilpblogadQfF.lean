/- The reference's ClassesOf. -/
import Derived.Test.YtijkanilpblogadFormReducesWalk
import Derived.Maps.AppendAt
set_option linter.unusedSimpArgs false
set_option linter.unusedVariables false
set_option maxRecDepth 100000
namespace Go.Proofs.Ytijkanilpblogad
open Go.RowKit

/-- The form with this A and B, of the discriminant d. -/
def formOf (d a b : Int) : Qf := ⟨a, b, (b * b - d).tdiv (4 * a)⟩
/-- What the search takes at A and B. -/
def clsB (d a b : Int) : Bool := ((b * b - d).tmod (4 * a) == 0) && ((formOf d a b).redB && ((ffault (formOf d a b)).1 == 0))
def cls (d a b : Int) : List Qf := if clsB d a b then [formOf d a b] else []
/-- One A, the first n numbers B from -A on. -/
def rowTo (d a : Int) (n : Nat) : List Qf := (List.range n).flatMap fun i : Nat => cls d a ((i : Int) - a)
/-- A from 1 to n. -/
def classesTo (d : Int) (n : Nat) : List Qf := (List.range n).flatMap fun k : Nat => rowTo d ((k : Int) + 1) (2 * (k + 1) + 1)

theorem rowTo_succ (d a : Int) (n : Nat) : rowTo d a (n + 1) = rowTo d a n ++ cls d a ((n : Int) - a) := by
  unfold rowTo; rw [List.range_succ, List.flatMap_append]; simp
theorem classesTo_succ (d : Int) (n : Nat) : classesTo d (n + 1) = classesTo d n ++ rowTo d ((n : Int) + 1) (2 * (n + 1) + 1) := by
  unfold classesTo; rw [List.range_succ, List.flatMap_append]; simp
theorem cls_len (d a b : Int) : (cls d a b).length ≤ 1 := by unfold cls; split <;> simp
theorem rowTo_len (d a : Int) : ∀ n, (rowTo d a n).length ≤ n
  | 0 => by simp [rowTo]
  | n + 1 => by
    rw [rowTo_succ, List.length_append]
    have := rowTo_len d a n
    have := cls_len d a ((n : Int) - a)
    omega
theorem classesTo_len (d : Int) : ∀ n, n ≤ 300 → (classesTo d n).length ≤ n * 603
  | 0, _ => by simp [classesTo]
  | n + 1, h => by
    rw [classesTo_succ, List.length_append]
    have := classesTo_len d n (by omega)
    have := rowTo_len d ((n : Int) + 1) (2 * (n + 1) + 1)
    omega

/-- Forms in a row of cells. -/
def qcells (l : List Qf) : List Value := l.flatMap Qf.l
theorem qcells_one (l : List Qf) (f : Qf) : qcells (l ++ [f]) = qcells l ++ f.l := by simp [qcells]
/-- The list so far. -/
structure Lw (B : Nat) (l : List Qf) (a : Option Addr) (c : Nat) (w W : World) : Prop where
  row : W.ownsRow B 23 3 (.slice a l.length c) l.length (qcells l)
  k : Below B w W

theorem Try.infoForm : (Try.prog.info? 23).map (fun i => (i.zero, i.size, i.bytes)) = some (some (.agg #[.int .i64 0, .int .i64 0, .int .i64 0]), 3, 24) := by kernel_rfl

theorem row_any {B n : Nat} {v : Value} {t : TypeId} {W W' : World} {xs : List Value} (h : W.ownsRow B t 3 v n xs) (k : Below W.heap.size W W') : W'.ownsRow B t 3 v n xs := by
  obtain ⟨h1, h2⟩ := h
  refine ⟨h1, ?_⟩
  rcases h2 with h3 | ⟨g, cap, cur, h3, h4, h5, h6⟩
  · exact .inl h3
  · exact .inr ⟨g, cap, cur, h3, h4, (k.block g (Array.getElem?_eq_some_iff.1 h5).1).trans h5, h6⟩
theorem Lw.below {B : Nat} {l : List Qf} {a : Option Addr} {c : Nat} {w W W' : World} (h : Lw B l a c w W) (hB : B ≤ W.heap.size) (k : Below W.heap.size W W') : Lw B l a c w W' := ⟨row_any h.row k, h.k.trans (k.mono hB)⟩

theorem Cl.news {b : Nat} {l : List Value} {t : TypeId} {w : World} (h : Cl b l t w) : ∀ j u, l[j]? = some u → w.cell? ((⟨b, 0, none⟩ : Addr).add j) = some u := by
  intro j u hu
  have := h.cell j
  rw [hu] at this
  rcases j with _ | j
  · simpa [Addr.add] using this
  · simpa [Addr.add] using this
theorem field_fault0 (w : World) (x y : Int) : (Instr.field 25 (.agg #[.int .i64 x, .int .i64 y]) 0).run Try.prog w = .ok (.int .i64 x) w := by
  kernel_rfl

end Go.Proofs.Ytijkanilpblogad
