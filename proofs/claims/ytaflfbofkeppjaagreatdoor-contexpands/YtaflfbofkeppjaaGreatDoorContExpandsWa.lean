/- The law ContExpands: its first part. -/
import Derived.Test.YtaflfbofkeppjaaGreatDoorJoinN
import Derived.Test.YtaflfbofkeppjaaGreatDoorJoinQ
import Derived.Test.YtaflfbofkeppjaaGreatDoorJoinC
set_option linter.unusedSimpArgs false
set_option linter.unusedVariables false
set_option maxRecDepth 100000
namespace Go.Proofs.YtaflfbofkeppjaaGreatDoor
open Go.RowKit

/-- The law's two faults in memory. -/
structure Bq (w W : World) (b8 b9 : Nat) (c8 d8 c9 d9 : Int) : Prop where
  s8 : Sv b8 c8 d8 W
  s9 : Sv b9 c9 d9 W
  ne : b8 ≠ b9
  l8 : w.heap.size ≤ b8
  l9 : w.heap.size ≤ b9
  k : Below w.heap.size w W
theorem Bq.below {w W W' : World} {b8 b9 : Nat} {c8 d8 c9 d9 : Int} (h : Bq w W b8 b9 c8 d8 c9 d9) (k : Below W.heap.size W W') : Bq w W' b8 b9 c8 d8 c9 d9 :=
  ⟨h.s8.below k, h.s9.below k, h.ne, h.l8, h.l9, h.k.trans (k.mono h.k.size)⟩
theorem Bq.set9 {w W : World} {b8 b9 : Nat} {c8 d8 c9 d9 : Int} (h : Bq w W b8 b9 c8 d8 c9 d9) (x y : Int) : Bq w ((W.setCell ⟨b9, 0, none⟩ (.int .i64 x)).setCell ⟨b9, 1, none⟩ (.int .i64 y)) b8 b9 c8 d8 x y :=
  ⟨h.s8.other _ _ (Ne.symm h.ne), h.s9.set x y, h.ne, h.l8, h.l9, (h.k.setCell h.l9 _).setCell h.l9 _⟩
theorem Bq.set8 {w W : World} {b8 b9 : Nat} {c8 d8 c9 d9 : Int} (h : Bq w W b8 b9 c8 d8 c9 d9) (x y : Int) : Bq w ((W.setCell ⟨b8, 0, none⟩ (.int .i64 x)).setCell ⟨b8, 1, none⟩ (.int .i64 y)) b8 b9 x y c9 d9 :=
  ⟨h.s8.set x y, h.s9.other _ _ h.ne, h.ne, h.l8, h.l9, (h.k.setCell h.l8 _).setCell h.l8 _⟩

/-- And what Fold answered. -/
structure Bz (w W : World) (b8 b9 b12 : Nat) (c8 d8 c9 d9 y1 y2 : Int) : Prop where
  q : Bq w W b8 b9 c8 d8 c9 d9
  y : Cl b12 [.int .i64 y1, .int .i64 y2] 42 W
  n9 : b12 ≠ b9
theorem Bz.below {w W W' : World} {b8 b9 b12 : Nat} {c8 d8 c9 d9 y1 y2 : Int} (h : Bz w W b8 b9 b12 c8 d8 c9 d9 y1 y2) (k : Below W.heap.size W W') : Bz w W' b8 b9 b12 c8 d8 c9 d9 y1 y2 :=
  ⟨h.q.below k, h.y.below k, h.n9⟩
theorem Bz.set9 {w W : World} {b8 b9 b12 : Nat} {c8 d8 c9 d9 y1 y2 : Int} (h : Bz w W b8 b9 b12 c8 d8 c9 d9 y1 y2) (x y : Int) : Bz w ((W.setCell ⟨b9, 0, none⟩ (.int .i64 x)).setCell ⟨b9, 1, none⟩ (.int .i64 y)) b8 b9 b12 c8 d8 x y y1 y2 :=
  ⟨h.q.set9 x y, (h.y.other (p := ⟨b9, 0, none⟩) h.n9 _).other (p := ⟨b9, 1, none⟩) h.n9 _, h.n9⟩
theorem inM_nat {x : Int} : inM x ↔ x.natAbs ≤ 1000000000000000000 := by unfold inM; omega
theorem cmpN_le {a b : Nat} : cmpN a b ≤ 0 ↔ a ≤ b := by unfold cmpN; split <;> (try split) <;> omega

/-- A list of one's own, apart from block b. -/
def OwnL (b : Nat) (oa : Option Addr) (l : List Int) (W : World) : Prop := l = [] ∨ ∃ g, oa = some ⟨g, 0, none⟩ ∧ Rw g 0 l W ∧ g ≠ b
theorem OwnL.is {b : Nat} {oa : Option Addr} {l : List Int} {W : World} (h : OwnL b oa l W) (oc : Nat) : IS W (.slice oa l.length oc) l := by
  rcases h with rfl | ⟨g, rfl, h1, _⟩
  · exact ⟨oa, 0, 0, oc, rfl, fun h => by simp at h, fun i hi => by simp at hi, fun h => by simp at h⟩
  · exact ⟨_, g, 0, oc, rfl, fun _ => rfl, h1.2, fun _ => h1.1⟩
theorem OwnL.below {b : Nat} {oa : Option Addr} {l : List Int} {W W' : World} (h : OwnL b oa l W) (k : Below W.heap.size W W') : OwnL b oa l W' := by
  rcases h with h | ⟨g, h1, h2, h3⟩
  · exact .inl h
  · exact .inr ⟨g, h1, h2.below k, h3⟩
theorem OwnL.set {b i : Nat} {oa : Option Addr} {l : List Int} {W : World} (h : OwnL b oa l W) (v : Value) : OwnL b oa l (W.setCell ⟨b, i, none⟩ v) := by
  rcases h with h | ⟨g, h1, h2, h3⟩
  · exact .inl h
  · refine .inr ⟨g, h1, ⟨by simpa [World.setCell] using h2.1, fun j hj => ?_⟩, h3⟩
    exact (World.cell?_of_block (Below.heap_setCell W ⟨b, i, none⟩ v g h3)).trans (h2.2 j hj)
theorem OwnL.of_row {b B n oc : Nat} {oa : Option Addr} {l : List Int} {W : World} (h : W.ownsRow B 3 1 (.slice oa n oc) n (ints l)) (hn : l.length = n) (hb : b < B) : OwnL b oa l W := by
  have hI := IS.ownC hn h
  rcases Nat.eq_zero_or_pos l.length with c | c
  · exact .inl (List.eq_nil_of_length_eq_zero c)
  · obtain ⟨h1, ⟨h3, h4⟩ | ⟨g, cap, cur, h3, h4, h5, h6⟩⟩ := id h
    · omega
    · injection h3 with e1 e2 e3
      subst e1
      obtain ⟨_, g', o', e, hR⟩ := hI.rw c
      injection e with e
      injection e with e4 e5
      subst e4 e5
      have := (h.lt g rfl).1
      exact .inr ⟨g, rfl, hR, by omega⟩

/-- What Fold answers, in numbers. -/
def FoR (l : List Int) (y1 y2 fc fa : Int) : Prop :=
  (lfault l ≠ (0, 0) ∧ y1 = 0 ∧ y2 = 0 ∧ lfault l = (fc, fa)) ∨ (lfault l = (0, 0) ∧ inM (CnQ.cf l).1 ∧ inM (CnQ.cf l).2 ∧ y1 = (CnQ.cf l).1 ∧ y2 = (CnQ.cf l).2 ∧ fc = 0 ∧ fa = 0) ∨
  (lfault l = (0, 0) ∧ ¬ (inM (CnQ.cf l).1 ∧ inM (CnQ.cf l).2) ∧ y1 = 0 ∧ y2 = 0 ∧ fc = 9 ∧ fa = 0)
theorem FoOut.open {l : List Int} {e : Ending} (h : FoOut l e) : ∃ y1 y2 fc fa, e = .returned (.tuple #[.agg #[.int .i64 y1, .int .i64 y2], .agg #[.int .i64 fc, .int .i64 fa]]) ∧ FoR l y1 y2 fc fa := by
  rcases h with ⟨h1, h2⟩ | ⟨h1, h2, h3, h4⟩ | ⟨h1, h2, h3⟩
  · exact ⟨_, _, _, _, h2, .inl ⟨h1, rfl, rfl, rfl⟩⟩
  · exact ⟨_, _, _, _, h4, .inr (.inl ⟨h1, h2, h3, rfl, rfl, rfl, rfl⟩)⟩
  · exact ⟨_, _, _, _, h3, .inr (.inr ⟨h1, h2, rfl, rfl, rfl, rfl⟩)⟩

end Go.Proofs.YtaflfbofkeppjaaGreatDoor
