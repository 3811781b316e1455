/- FormReduces, the law's own walk: out of what is asked of the example and of Check and Reduce. -/
import Derived.Test.YtijkanilpblogaeQfE
import Derived.Test.YtijkanilpblogaeWholeH
set_option linter.unusedSimpArgs false
set_option linter.unusedVariables false
set_option maxRecDepth 100000
namespace Go.Proofs.Ytijkanilpblogae
open Go.RowKit

abbrev ffv (f : Int × Int) : Value := .agg #[.int .i64 f.1, .int .i64 f.2]
/-- What Reduce answers. -/
structure RedOut (f g : Qf) (m : Mt) : Prop where
  bad : ffault f ≠ (0, 0) → g = ⟨0, 0, 0⟩ ∧ m = ⟨0, 0, 0, 0⟩
  good : ffault f = (0, 0) → Rd f g m

/-- What is asked of the example and of the two. -/
structure FormIs (Bg : World → Prop) : Prop where
  keep : ∀ w w' : World, Bg w → Below w.heap.size w w' → Bg w'
  begun : ∀ w : World, Bg w → Calls Try.prog 9 #[] w fun e w' => e = .returned (.bool true) ∧ Below w.heap.size w w'
  check : ∀ (f : Qf) (w : World), Calls Try.prog 31 #[f.v] w fun e w' => e = .returned (ffv (ffault f)) ∧ Below w.heap.size w w'
  reduce : ∀ (f : Qf) (w : World), Calls Try.prog 20 #[f.v] w fun e w' => ∃ g m, e = .returned (.tuple #[g.v, m.v, ffv (ffault f)]) ∧ RedOut f g m ∧ Below w.heap.size w w'

abbrev Qf.l (f : Qf) : List Value := [.int .i64 f.a, .int .i64 f.b, .int .i64 f.c]
abbrev Mt.l (m : Mt) : List Value := [.int .i64 m.p, .int .i64 m.q, .int .i64 m.r, .int .i64 m.s]
/-- What lies in memory. -/
structure Fm (h b1 b2 b3 : Nat) (f g : Qf) (m : Mt) (e hh v : Int × Int) (w W : World) : Prop where
  f : Cl h f.l 32 W
  e : Sv b1 e.1 e.2 W
  g : Cl b2 g.l 32 W
  m : Cl (b2 + 1) m.l 43 W
  hh : Sv (b2 + 1 + 1) hh.1 hh.2 W
  v : Sv b3 v.1 v.2 W
  k : Below h w W
theorem Fm.below {h b1 b2 b3 : Nat} {f g : Qf} {m : Mt} {e hh v : Int × Int} {w W W' : World} (x : Fm h b1 b2 b3 f g m e hh v w W) (c : Below W.heap.size W W') : Fm h b1 b2 b3 f g m e hh v w W' :=
  ⟨x.f.below c, x.e.below c, x.g.below c, x.m.below c, x.hh.below c, x.v.below c, x.k.trans (c.mono (Nat.le_of_lt x.f.lt))⟩
theorem sv_new0 (x : World) (t : TypeId) (z : Nat) (hz : x.heap.size = z) (c d : Int) : Sv z c d (x.alloc (.cells #[.int .i64 c, .int .i64 d] t)) :=
  ⟨by subst hz; simp, by subst hz; simp, by subst hz; simp, by subst hz; simp, by subst hz; simp⟩
theorem cl_new0 (W : World) (l : List Value) (t : TypeId) (z : Nat) (hz : W.heap.size = z) : Cl z l t (W.alloc (.cells l.toArray t)) := by subst hz; exact Cl.new l t W
theorem sv_al {b : Nat} {c d : Int} {w : World} (h : Sv b c d w) (o : Obj) : Sv b c d (w.alloc o) := h.below (Below.alloc (Below.refl _ _) (Nat.le_refl _) _)
theorem al1 (W : World) (o : Obj) : Below W.heap.size W (W.alloc o) := Below.alloc (Below.refl _ _) (Nat.le_refl _) _

theorem ffault_code {f : Qf} {c d : Int} (h : ffault f = (c, d)) : (c = 0 ∧ d = 0) ∨ c ≠ 0 := by
  unfold ffault at h
  split at h
  · simp at h; omega
  split at h
  · simp at h; omega
  split at h
  · simp at h; omega
  split at h
  · simp at h; omega
  split at h
  · simp at h; omega
  · simp at h; omega

theorem eq4 (w : World) : (Op.equalIn 10000 43 (.agg #[.int .i64 0, .int .i64 0, .int .i64 0, .int .i64 0]) (.agg #[.int .i64 0, .int .i64 0, .int .i64 0, .int .i64 0])).run Try.prog w = .ok true w := by kernel_rfl

/-- The cells that are read. -/
abbrev S10 (f g : Qf) (m : Mt) (b b2 : Nat) (W : World) : Prop :=
  W.cell? ⟨b, 0, none⟩ = some (.int .i64 f.a) ∧ W.cell? ⟨b, 1, none⟩ = some (.int .i64 f.b) ∧ W.cell? ⟨b, 2, none⟩ = some (.int .i64 f.c) ∧
  W.cell? ⟨b2, 0, none⟩ = some (.int .i64 g.a) ∧ W.cell? ⟨b2, 1, none⟩ = some (.int .i64 g.b) ∧ W.cell? ⟨b2, 2, none⟩ = some (.int .i64 g.c) ∧
  W.cell? ⟨b2 + 1, 0, none⟩ = some (.int .i64 m.p) ∧ W.cell? ⟨b2 + 1, 1, none⟩ = some (.int .i64 m.q) ∧ W.cell? ⟨b2 + 1, 2, none⟩ = some (.int .i64 m.r) ∧ W.cell? ⟨b2 + 1, 3, none⟩ = some (.int .i64 m.s)
theorem Fm.s10 {h b1 b2 b3 : Nat} {f g : Qf} {m : Mt} {e hh v : Int × Int} {w W : World} (x : Fm h b1 b2 b3 f g m e hh v w W) : S10 f g m h b2 W :=
  ⟨x.f.cell 0, x.f.cell 1, x.f.cell 2, x.g.cell 0, x.g.cell 1, x.g.cell 2, x.m.cell 0, x.m.cell 1, x.m.cell 2, x.m.cell 3⟩

end Go.Proofs.Ytijkanilpblogae
