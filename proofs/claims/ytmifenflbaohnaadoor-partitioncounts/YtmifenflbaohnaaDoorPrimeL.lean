/- prime.rising yields the primes up to 29; it writes into one block of its own. -/
import Derived.Test.YtmifenflbaohnaaDoorScopeIn
import Derived.Maps.AppendAt
import Derived.WalkSmall
set_option linter.unusedSimpArgs false
set_option linter.unusedVariables false
set_option maxRecDepth 100000
namespace Go.Proofs.YtmifenflbaohnaaDoor
open Go.RowKit
attribute [local go_sem] Oper.semAt_some

theorem Tryd.infoInt : (Tryd.prog.info? 3).map (fun i => (i.zero, i.size, i.bytes)) = some (some (.int .i64 0), 1, 8) := by kernel_rfl

def ints (l : List Int) : List Value := l.map (Value.int .i64)

def pr10 : List Int := [2, 3, 5, 7, 11, 13, 17, 19, 23, 29]
/-- The primes below m (up to 29). -/
def bef (m : Nat) : List Int := pr10.takeWhile (fun p => decide (p < (m : Int)))

/-- All ahead of place i leave something, and their squares are not above m. -/
def befPassed (m i : Nat) : Prop := ∀ j, j < i → (bef m).getD j 0 * (bef m).getD j 0 ≤ m ∧ (m : Int) % (bef m).getD j 0 ≠ 0
instance (m i : Nat) : Decidable (befPassed m i) := by unfold befPassed; infer_instance

theorem bef_len : ∀ m, m < 30 → (bef m).length ≤ 9 := by decide +kernel
theorem bef_el0 : ∀ m, m < 30 → ∀ i, i < 9 → i < (bef m).length → 2 ≤ (bef m).getD i 0 ∧ (bef m).getD i 0 ≤ 23 := by decide +kernel
theorem bef_yield0 : ∀ m, m < 30 → ∀ i, i < 10 → (2 ≤ m ∧ i ≤ (bef m).length ∧ befPassed m i ∧ (i = (bef m).length ∨ (m : Int) < (bef m).getD i 0 * (bef m).getD i 0)) → (bef m ++ [(m : Int)]).isPrefixOf pr10 = true ∧ (m = 29 ∨ bef (m + 1) = bef m ++ [(m : Int)]) := by decide +kernel
theorem bef_go0 : ∀ m, m < 30 → ∀ i, i < 10 → (2 ≤ m ∧ i < (bef m).length ∧ befPassed m i ∧ ¬ ((m : Int) < (bef m).getD i 0 * (bef m).getD i 0) ∧ (m : Int) % (bef m).getD i 0 = 0) → m < 29 ∧ bef (m + 1) = bef m := by decide +kernel

theorem row_kept {B e n : Nat} {v : Value} {W W' : World} {xs : List Value} (h : W.ownsRow B e 1 v n xs) (k : ∀ g, v.ownBlock = some g → W'.heap[g]? = W.heap[g]?) : W'.ownsRow B e 1 v n xs := by
  obtain ⟨h1, h2⟩ := h
  refine ⟨h1, ?_⟩
  rcases h2 with h3 | ⟨g, cap, cur, h3, h4, h5, h6⟩
  · exact .inl h3
  · exact .inr ⟨g, cap, cur, h3, h4, (k g (by rw [h3]; rfl)).trans h5, h6⟩

end Go.Proofs.YtmifenflbaohnaaDoor
