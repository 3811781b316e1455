/- Plain facts: the likely points with one x, their orders, and the lists of both sides. -/
import Derived.Test.YtknnidbdgfimbaaTnT
set_option linter.unusedVariables false
set_option maxRecDepth 100000
namespace Go.Proofs.Ytknnidbdgfimbaa
namespace TN

/-- What is known of a likely point: its order; or none, and no multiple up to the thirteenth is far. -/
theorem ord_pos {a b x y : Int} (hc : Cu a b) (hy : 0 < y) (hl : Lk a b x y) :
    (∃ m, pOrd a b x y 11 1 x y = some (some m) ∧ m ≤ 12 ∧ tabB a b x y m = true) ∨ (pOrd a b x y 11 1 x y = some none ∧ ∀ n, n ≤ 11 → (zs a x y n).2.2 ≠ 0) := by
  rcases kO_ok 11 1 x y (good_all hc hy hl) with ⟨m, h1, h2, h3⟩ | ⟨h1, h2⟩
  · exact Or.inl ⟨m, h1, by omega, h3⟩
  · exact Or.inr ⟨h1, zc_ok (by omega) h2⟩
theorem Lk.neg {a b x y : Int} (h : Lk a b x y) : Lk a b x (-y) := by
  have e : -y * -y = y * y := by grind
  refine ⟨by rw [e]; exact h.on, ?_⟩
  rw [e]
  rcases h.dv with g | g
  · left; omega
  · right; exact g
theorem ord_neg {a b x y : Int} (hc : Cu a b) (hy : y < 0) (hl : Lk a b x y) :
    (∃ m, pOrd a b x y 11 1 x y = some (some m) ∧ m ≤ 12 ∧ tabB a b x (-y) m = true) ∨ (pOrd a b x y 11 1 x y = some none ∧ ∀ n, n ≤ 11 → (zs a x y n).2.2 ≠ 0) := by
  have e : pOrd a b x y 11 1 x y = pOrd a b x (-y) 11 1 x (-y) := (pOrd_neg a b x y 11 1 x y).symm
  rw [e]
  rcases ord_pos hc (show 0 < -y by omega) hl.neg with h | ⟨h1, h2⟩
  · exact Or.inl h
  · refine Or.inr ⟨h1, fun n hn => ?_⟩
    have := h2 n hn
    rw [zs_neg] at this
    intro e
    apply this
    show -(zs a x y n).2.2 = 0
    omega
theorem ord_zero (a b x : Int) : pOrd a b x 0 11 1 x 0 = some (some 2) := by
  have : pAdd a b x 0 x 0 = some none := by unfold pAdd; rw [if_pos ⟨rfl, by omega⟩]
  unfold pOrd
  rw [this]
/-- The order that the program finds. -/
def ordR (a b x y : Int) : Option Nat := (pOrd a b x y 11 1 x y).getD none
theorem ord_is {a b x y : Int} (hc : Cu a b) (hl : Lk a b x y) : pOrd a b x y 11 1 x y = some (ordR a b x y) := by
  unfold ordR
  rcases Int.lt_trichotomy y 0 with h | h | h
  · rcases ord_neg hc h hl with ⟨m, e, _⟩ | ⟨e, _⟩ <;> rw [e] <;> rfl
  · subst h; rw [ord_zero]; rfl
  · rcases ord_pos hc h hl with ⟨m, e, _⟩ | ⟨e, _⟩ <;> rw [e] <;> rfl
theorem pOrd_ge {a b x y : Int} : ∀ (F n : Nat) (X Y : Int) (m : Nat), pOrd a b x y F n X Y = some (some m) → n < m ∧ m ≤ n + F := by
  intro F
  induction F with
  | zero => intro n X Y m h; simp [pOrd] at h
  | succ F ih =>
    intro n X Y m h
    unfold pOrd at h
    cases e : pAdd a b x y X Y with
    | none => rw [e] at h; simp at h
    | some o =>
      cases o with
      | none => rw [e] at h; simp at h; omega
      | some q => rw [e] at h; have := ih (n + 1) q.1 q.2 m h; omega
theorem ordR_bd {a b x y : Int} (hc : Cu a b) (hl : Lk a b x y) {m : Nat} (h : ordR a b x y = some m) : 2 ≤ m ∧ m ≤ 12 := by
  have := ord_is hc hl
  rw [h] at this
  have := pOrd_ge 11 1 x y m this
  omega

/-! ### The likely points with one x -/
open Classical in
noncomputable def lkL (a b x : Int) : List (Int × Int) :=
  if h : ∃ y, 0 ≤ y ∧ Lk a b x y then (if 0 < Classical.choose h then [(x, -Classical.choose h), (x, Classical.choose h)] else [(x, Classical.choose h)]) else []
theorem root_uniq {y z s : Int} (hy : 0 ≤ y) (hz : 0 ≤ z) (h1 : y * y = s) (h2 : z * z = s) : y = z := by
  rcases eq_or_neg (h1.trans h2.symm) with h | h <;> omega
theorem lkL_pos {a b x y : Int} (hy : 0 < y) (h : Lk a b x y) : lkL a b x = [(x, -y), (x, y)] := by
  have hex : ∃ y, 0 ≤ y ∧ Lk a b x y := ⟨y, by omega, h⟩
  have e : Classical.choose hex = y := root_uniq (Classical.choose_spec hex).1 (by omega) (Classical.choose_spec hex).2.on h.on
  unfold lkL
  rw [dif_pos hex, e, if_pos hy]
theorem lkL_zero {a b x : Int} (h : Lk a b x 0) : lkL a b x = [(x, 0)] := by
  have hex : ∃ y, 0 ≤ y ∧ Lk a b x y := ⟨0, by omega, h⟩
  have e : Classical.choose hex = 0 := root_uniq (Classical.choose_spec hex).1 (by omega) (Classical.choose_spec hex).2.on h.on
  unfold lkL
  rw [dif_pos hex, e, if_neg (by omega)]
theorem lkL_none {a b x : Int} (h : ∀ y, ¬ Lk a b x y) : lkL a b x = [] := by
  unfold lkL
  rw [dif_neg]
  rintro ⟨y, _, hy⟩
  exact h y hy
theorem lkL_mem {a b x : Int} {q : Int × Int} (h : q ∈ lkL a b x) : q.1 = x ∧ Lk a b q.1 q.2 := by
  by_cases hex : ∃ y, 0 ≤ y ∧ Lk a b x y
  · obtain ⟨y, hy, hl⟩ := hex
    rcases Int.lt_or_le 0 y with g | g
    · rw [lkL_pos g hl] at h
      simp only [List.mem_cons, List.not_mem_nil, or_false] at h
      rcases h with rfl | rfl
      · exact ⟨rfl, hl.neg⟩
      · exact ⟨rfl, hl⟩
    · obtain rfl : y = 0 := by omega
      rw [lkL_zero hl] at h
      simp only [List.mem_cons, List.not_mem_nil, or_false] at h
      subst h
      exact ⟨rfl, hl⟩
  · unfold lkL at h
    rw [dif_neg hex] at h
    simp at h
/-- Those from lo on, n of them. -/
noncomputable def lkA (a b lo : Int) : Nat → List (Int × Int)
  | 0 => []
  | n + 1 => lkA a b lo n ++ lkL a b (lo + n)
theorem lkA_mem {a b lo : Int} {q : Int × Int} : ∀ n, q ∈ lkA a b lo n → Lk a b q.1 q.2 := by
  intro n
  induction n with
  | zero => intro h; simp [lkA] at h
  | succ n ih =>
    intro h
    rw [lkA, List.mem_append] at h
    rcases h with h | h
    · exact ih h
    · exact (lkL_mem h).2
theorem lkA_none {a b lo : Int} : ∀ n, (∀ i : Nat, i < n → lkL a b (lo + i) = []) → lkA a b lo n = [] := by
  intro n
  induction n with
  | zero => intro _; rfl
  | succ n ih => intro h; rw [lkA, ih fun i hi => h i (by omega), h n (by omega)]; rfl
theorem lkA_add {a b lo : Int} (m : Nat) : ∀ n, lkA a b lo (m + n) = lkA a b lo m ++ lkA a b (lo + m) n := by
  intro n
  induction n with
  | zero => simp [lkA]
  | succ n ih =>
    rw [← Nat.add_assoc, lkA, ih, lkA, List.append_assoc]
    congr 2
    rw [show lo + ((m + n : Nat) : Int) = lo + m + n by omega]
/-- Both sides go through the same. -/
theorem lkA_all {a b : Int} (hc : Cu a b) : lkA a b (-1700) 3401 = lkA a b (-32) 1632 := by
  have e1 : lkA a b (-1700) 1668 = [] := lkA_none _ fun i hi => lkL_none fun y h => by have := h.range hc; omega
  have e2 : lkA a b 1600 101 = [] := lkA_none _ fun i hi => lkL_none fun y h => by have := h.range hc; omega
  rw [show 3401 = 1668 + (1632 + 101) by omega, lkA_add, e1, List.nil_append, lkA_add]
  rw [show (-1700 : Int) + ((1668 : Nat) : Int) = -32 by omega, show (-32 : Int) + ((1632 : Nat) : Int) = 1600 by omega, e2, List.append_nil]
theorem lkL_len (a b x : Int) : (lkL a b x).length ≤ 2 := by
  unfold lkL
  split
  · split <;> simp
  · simp
theorem lkA_len (a b lo : Int) : ∀ n, (lkA a b lo n).length ≤ 2 * n := by
  intro n
  induction n with
  | zero => simp [lkA]
  | succ n ih => rw [lkA, List.length_append]; have := lkL_len a b (lo + n); omega
/-- A point with its order, if it has one. -/
def itm (a b : Int) (q : Int × Int) : List (Int × Int × Bool × Nat) :=
  match ordR a b q.1 q.2 with
  | some n => [(q.1, q.2, false, n)]
  | none => []
theorem itm_len (a b : Int) (q : Int × Int) : (itm a b q).length ≤ 1 := by unfold itm; split <;> simp
theorem itms_len (a b : Int) : ∀ l : List (Int × Int), (l.flatMap (itm a b)).length ≤ l.length := by
  intro l
  induction l with
  | nil => simp
  | cons q l ih => rw [List.flatMap_cons, List.length_append, List.length_cons]; have := itm_len a b q; omega
/-- All of them, with their orders. -/
noncomputable def lkI (a b : Int) : List (Int × Int × Bool × Nat) := (lkA a b (-32) 1632).flatMap (itm a b)
theorem lkI_len (a b : Int) : (lkI a b).length ≤ 3264 := by
  unfold lkI
  have h1 := itms_len a b (lkA a b (-32) 1632)
  have h2 := lkA_len a b (-32) 1632
  omega

end TN
end Go.Proofs.Ytknnidbdgfimbaa
