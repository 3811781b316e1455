/- likeBy: is one form the other one turned? -/
import Derived.Test.YtijkanilpblogaeQfC
set_option linter.unusedSimpArgs false
set_option linter.unusedVariables false
set_option maxRecDepth 100000
namespace Go.Proofs.Ytijkanilpblogae
open Go.RowKit

/-- Two columns of a turning. -/
structure Mt where
  p : Int
  q : Int
  r : Int
  s : Int
def Mt.v (m : Mt) : Value := .agg #[.int .i64 m.p, .int .i64 m.q, .int .i64 m.r, .int .i64 m.s]
def Mt.upto (N : Int) (m : Mt) : Prop := (-N ≤ m.p ∧ m.p ≤ N) ∧ (-N ≤ m.q ∧ m.q ≤ N) ∧ (-N ≤ m.r ∧ m.r ≤ N) ∧ (-N ≤ m.s ∧ m.s ≤ N)

theorem Qf.upto.ia {f : Qf} (h : f.upto 1000000) : i64 f.a := ⟨by have := h.1; omega, by have := h.2.1; omega⟩
theorem Qf.upto.ib {f : Qf} (h : f.upto 1000000) : i64 f.b := ⟨by have := h.2.2.1; omega, by have := h.2.2.2.1; omega⟩
theorem Qf.upto.ic {f : Qf} (h : f.upto 1000000) : i64 f.c := ⟨by have := h.2.2.2.2.1; omega, by have := h.2.2.2.2.2; omega⟩
theorem at_lt {f : Qf} {x y : Int} (h : f.upto 1000000) (hx : i64 x) (hy : i64 y) : (f.at x y).natAbs < pw 8 := by
  have h1 : (x * x * f.a).natAbs < pw 6 := mul_lt_pw (mul_lt_pw hx.lt hx.lt) h.ia.lt
  have h2 : (x * y * f.b).natAbs < pw 6 := mul_lt_pw (mul_lt_pw hx.lt hy.lt) h.ib.lt
  have h3 : (y * y * f.c).natAbs < pw 6 := mul_lt_pw (mul_lt_pw hy.lt hy.lt) h.ic.lt
  have h4 := add_lt_pw h1 h2
  have h5 : pw 7 = 4294967296 * pw 6 := rfl
  have h6 : (y * y * f.c).natAbs < pw 7 := by omega
  exact add_lt_pw h4 h6

/-- The forms and the turning lie in memory. -/
structure LB (f g : Qf) (m : Mt) (w W : World) : Prop where
  f : Cl w.heap.size [.int .i64 f.a, .int .i64 f.b, .int .i64 f.c] 32 W
  g : Cl (w.heap.size + 1) [.int .i64 g.a, .int .i64 g.b, .int .i64 g.c] 32 W
  m : Cl (w.heap.size + 1 + 1) [.int .i64 m.p, .int .i64 m.q, .int .i64 m.r, .int .i64 m.s] 43 W
  b : Below w.heap.size w W
def S8 (f g : Qf) (m : Mt) (b : Nat) (W : World) : Prop :=
  W.cell? ⟨b, 0, none⟩ = some (.int .i64 f.a) ∧ W.cell? ⟨b, 1, none⟩ = some (.int .i64 f.b) ∧ W.cell? ⟨b, 2, none⟩ = some (.int .i64 f.c) ∧
  W.cell? ⟨b + 1, 0, none⟩ = some (.int .i64 g.a) ∧ W.cell? ⟨b + 1, 1, none⟩ = some (.int .i64 g.b) ∧ W.cell? ⟨b + 1, 2, none⟩ = some (.int .i64 g.c) ∧
  W.cell? ⟨b + 1 + 1, 0, none⟩ = some (.int .i64 m.p) ∧ W.cell? ⟨b + 1 + 1, 1, none⟩ = some (.int .i64 m.q) ∧ W.cell? ⟨b + 1 + 1, 2, none⟩ = some (.int .i64 m.r) ∧ W.cell? ⟨b + 1 + 1, 3, none⟩ = some (.int .i64 m.s)
theorem LB.s8 {f g : Qf} {m : Mt} {w W : World} (h : LB f g m w W) : S8 f g m w.heap.size W :=
  ⟨h.f.cell 0, h.f.cell 1, h.f.cell 2, h.g.cell 0, h.g.cell 1, h.g.cell 2, h.m.cell 0, h.m.cell 1, h.m.cell 2, h.m.cell 3⟩
theorem S8.drew {f g : Qf} {m : Mt} {b : Nat} {W : World} (h : S8 f g m b W) : S8 f g m b W.drew := h
theorem LB.below {f g : Qf} {m : Mt} {w W W' : World} (h : LB f g m w W) (k : Below W.heap.size W W') : LB f g m w W' := ⟨h.f.below k, h.g.below k, h.m.below k, h.b.trans (k.mono h.b.size)⟩

theorem mul_small {a N : Int} {x : Nat} (h : -N ≤ a ∧ a ≤ N) (hx : x < 2) : -N ≤ a * (x : Int) ∧ a * (x : Int) ≤ N := by
  have : x = 0 ∨ x = 1 := by omega
  rcases this with rfl | rfl
  · simp; omega
  · simpa using h

end Go.Proofs.Ytijkanilpblogae
