/- What is asked of package partition's code, for the laws' walks; boxes. -/
import Derived.Test.YtmifenflbaohnaaDoorJnL
import Derived.Test.YtmifenflbaohnaaDoorJnH
import Derived.Test.YtmifenflbaohnaaDoorRsK
import Derived.BigQuiet
set_option linter.unusedSimpArgs false
set_option linter.unusedVariables false
set_option maxRecDepth 100000
namespace Go.Proofs.YtmifenflbaohnaaDoor
open Go.RowKit

/-- Numbers of an int. -/
def I64 (l : List Int) : Prop := l.length * 8 ≤ 140737488351232 ∧ ∀ x ∈ l, -9223372036854775808 ≤ x ∧ x ≤ 9223372036854775807
abbrev fagg (l : List Int) : Value := .agg #[.int .i64 (PT.pf l).1, .int .i64 (PT.pf l).2]
/-- What Check and Turned do. -/
structure TurnsIs : Prop where
  check : ∀ (v : Value) (l : List Int) (w : World), IS w v l → I64 l → Calls Tryd.prog 14 #[v] w fun e w' => e = .returned (fagg l) ∧ Below w.heap.size w w'
  bad : ∀ (v : Value) (l : List Int) (w : World), IS w v l → I64 l → (PT.pf l).1 ≠ 0 → Calls Tryd.prog 15 #[v] w fun e w' => e = .returned (.tuple #[.slice none 0 0, fagg l]) ∧ Below w.heap.size w w'
  ok : ∀ (v : Value) (l : List Int) (w : World), IS w v l → PT.Vp l → Calls Tryd.prog 15 #[v] w fun e w' => ∃ v', e = .returned (.tuple #[v', .agg #[.int .i64 0, .int .i64 0]]) ∧ IS w' v' (PT.trn l) ∧ Below w.heap.size w w'
theorem Sv.fresh (c d : Int) {w : World} {z : Nat} (h : w.heap.size = z) : Sv z c d (w.alloc (.cells #[.int .i64 c, .int .i64 d] 23)) := by subst h; exact Sv.new c d w
theorem below_one (w : World) (o : Obj) : Below w.heap.size w (w.alloc o) := Below.alloc (Below.refl _ _) (Nat.le_refl _) o
/-- The law's boxes: three faults, the list and its copy. -/
structure Tb (w W : World) (b4 b6 b7 : Nat) (p q : Int) (v vo : Value) (xs : List Int) : Prop where
  s4 : Sv b4 p q W
  s6 : Sv b6 p q W
  s7 : Sv b7 p q W
  v : IS W v xs
  o : IS W vo xs
  k : Below w.heap.size w W
theorem Tb.below {w W W' : World} {b4 b6 b7 : Nat} {p q : Int} {v vo : Value} {xs : List Int} (h : Tb w W b4 b6 b7 p q v vo xs) (k : Below W.heap.size W W') : Tb w W' b4 b6 b7 p q v vo xs :=
  ⟨h.s4.below k, h.s6.below k, h.s7.below k, h.v.belowP k, h.o.belowP k, h.k.trans (k.mono h.k.size)⟩
theorem IS.own'' {w : World} {base : Nat} {v : Value} {l : List Int} (h : w.ownsRow base 3 1 v l.length (l.map fun x : Int => Value.int .i64 x)) : IS w v l := IS.ownP rfl h
theorem one_all (xs : List Int) : ∀ u ∈ (xs.map fun x : Int => Value.int .i64 x), u.oneCell' = true := by intro u hu; simp at hu; obtain ⟨x, _, rfl⟩ := hu; rfl
/-- Two lists that are one. -/
theorem ints_yes (s t : Value) (l : List Int) (w : World) (hs : IS w s l) (ht : IS w t l) (hl : l.length ≤ 9000000000000000000) :
    Calls Tryd.prog 17 #[s, t] w fun e w' => e = .returned (.bool true) ∧ Below w.heap.size w w' := by
  refine (refInts_any s t l l w hs ht hl hl).mono ?_
  rintro e w' ⟨rfl, q, hw⟩
  refine ⟨by rw [decide_eq_true rfl], ?_⟩
  rw [hw]; exact below_drewN' (Below.refl _ _)

end Go.Proofs.YtmifenflbaohnaaDoor
