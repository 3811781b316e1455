/- Plain facts: partitions: how often a number stands in a list, how many are at least k, the first fault. -/
import Derived.Test.YtmifenflbaohnaaDoorRows
set_option linter.unusedSimpArgs false
set_option linter.unusedVariables false
set_option maxRecDepth 100000
namespace Go.Proofs.YtmifenflbaohnaaDoor
namespace PT

def cnt (l : List Int) (n : Int) : Nat := l.countP fun x => x == n
def tge (l : List Int) (k : Int) : Nat := l.countP fun x => decide (k ≤ x)
theorem take_s {l : List Int} {i : Nat} (h : i < l.length) : l.take (i + 1) = l.take i ++ [l.getD i 0] := by
  rw [List.take_succ_eq_append_getElem h, List.getD_eq_getElem?_getD, List.getElem?_eq_getElem h]; rfl
theorem cnt_take {l : List Int} {n : Int} {i : Nat} (h : i < l.length) : cnt (l.take (i + 1)) n = cnt (l.take i) n + (if l.getD i 0 = n then 1 else 0) := by
  unfold cnt
  rw [take_s h, List.countP_append, List.countP_singleton]
  congr 1
  by_cases e : l.getD i 0 = n <;> simp [e]
theorem cnt_le (l : List Int) (n : Int) (i : Nat) : cnt (l.take i) n ≤ i := by
  unfold cnt
  exact Nat.le_trans List.countP_le_length (by simp; omega)
theorem tge_take {l : List Int} {k : Int} {i : Nat} (h : i < l.length) : tge (l.take (i + 1)) k = tge (l.take i) k + (if k ≤ l.getD i 0 then 1 else 0) := by
  unfold tge
  rw [take_s h, List.countP_append, List.countP_singleton]
  congr 1
  by_cases e : k ≤ l.getD i 0 <;> simp [e]
theorem tge_le (l : List Int) (k : Int) (i : Nat) : tge (l.take i) k ≤ i := by
  unfold tge
  exact Nat.le_trans List.countP_le_length (by simp; omega)
theorem tge_mono (l : List Int) {k j : Int} (h : k ≤ j) : tge l j ≤ tge l k := by
  unfold tge
  exact List.countP_mono_left (fun x _ hx => by simp at hx ⊢; omega)
/-- The first fault from the i-th entry on: p is the entry ahead, s the sum so far. -/
def pfr : Nat → Int → Int → List Int → Int × Int
  | _, _, _, [] => (0, 0)
  | i, p, s, x :: r => if x < 1 ∨ 2000 < x then (3, i) else if 0 < i ∧ p < x then (6, i) else if 2000 < s + x then (9, i) else pfr (i + 1) x (s + x) r
def pf (l : List Int) : Int × Int := if 1000 < l.length then (2, 0) else pfr 0 0 0 l
/-- What stands ahead of the i-th entry. -/
def prv (l : List Int) (i : Nat) : Int := if i = 0 then 0 else l.getD (i - 1) 0
theorem drop_s {l : List Int} {i : Nat} (h : i < l.length) : l.drop i = l.getD i 0 :: l.drop (i + 1) := by
  rw [List.drop_eq_getElem_cons h, List.getD_eq_getElem?_getD, List.getElem?_eq_getElem h]; rfl
theorem prv_s (l : List Int) (i : Nat) : prv l (i + 1) = l.getD i 0 := by unfold prv; rw [if_neg (by omega)]; rfl
theorem sum_s {l : List Int} {i : Nat} (h : i < l.length) : (l.take (i + 1)).sum = (l.take i).sum + l.getD i 0 := by
  rw [take_s h]; simp
/-- No fault up to i. -/
def At (l : List Int) (i : Nat) : Prop := pfr 0 0 0 l = pfr i (prv l i) (l.take i).sum (l.drop i) ∧ 0 ≤ (l.take i).sum ∧ (l.take i).sum ≤ 2000
theorem At.zero (l : List Int) : At l 0 := ⟨rfl, by simp, by simp⟩
theorem At.step {l : List Int} {i : Nat} (h : At l i) (hi : i < l.length) (h1 : 1 ≤ l.getD i 0) (h2 : l.getD i 0 ≤ 2000) (h3 : ¬ (0 < i ∧ prv l i < l.getD i 0)) (h4 : (l.take i).sum + l.getD i 0 ≤ 2000) : At l (i + 1) := by
  obtain ⟨a, b, c⟩ := h
  refine ⟨?_, by rw [sum_s hi]; omega, by rw [sum_s hi]; exact h4⟩
  rw [a, drop_s hi, pfr, if_neg (by omega), if_neg h3, if_neg (by omega), prv_s, sum_s hi]
theorem At.fin {l : List Int} (h : At l l.length) : pfr 0 0 0 l = (0, 0) := by
  rw [h.1, List.drop_length]; rfl
theorem At.f3 {l : List Int} {i : Nat} (h : At l i) (hi : i < l.length) (hb : l.getD i 0 < 1 ∨ 2000 < l.getD i 0) : pfr 0 0 0 l = (3, (i : Int)) := by
  rw [h.1, drop_s hi, pfr, if_pos hb]
theorem At.f6 {l : List Int} {i : Nat} (h : At l i) (hi : i < l.length) (hb : ¬ (l.getD i 0 < 1 ∨ 2000 < l.getD i 0)) (h3 : 0 < i ∧ prv l i < l.getD i 0) : pfr 0 0 0 l = (6, (i : Int)) := by
  rw [h.1, drop_s hi, pfr, if_neg hb, if_pos h3]
theorem At.f9 {l : List Int} {i : Nat} (h : At l i) (hi : i < l.length) (hb : ¬ (l.getD i 0 < 1 ∨ 2000 < l.getD i 0)) (h3 : ¬ (0 < i ∧ prv l i < l.getD i 0)) (h4 : 2000 < (l.take i).sum + l.getD i 0) : pfr 0 0 0 l = (9, (i : Int)) := by
  rw [h.1, drop_s hi, pfr, if_neg hb, if_neg h3, if_pos h4]

end PT
end Go.Proofs.YtmifenflbaohnaaDoor
