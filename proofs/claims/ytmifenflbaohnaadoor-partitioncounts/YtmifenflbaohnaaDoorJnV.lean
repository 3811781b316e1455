import Derived.Test.YtmifenflbaohnaaDoorJnM
import Derived.Test.YtmifenflbaohnaaDoorJnB
section
/- Plain facts: odd parts, powers of two, Glaisher's counts. -/
set_option linter.unusedSimpArgs false
set_option linter.unusedVariables false
set_option maxRecDepth 100000
namespace Go.Proofs.YtmifenflbaohnaaDoor
namespace PT

/-- The odd part. -/
def od (x : Nat) : Nat := if h : 0 < x ∧ x % 2 = 0 then od (x / 2) else x
termination_by x
decreasing_by omega
/-- The power of two. -/
def p2 (x : Nat) : Nat := if h : 0 < x ∧ x % 2 = 0 then 2 * p2 (x / 2) else 1
termination_by x
decreasing_by omega
theorem od_even {x : Nat} (h : 0 < x) (h2 : x % 2 = 0) : od x = od (x / 2) := by rw [od, dif_pos ⟨h, h2⟩]
theorem od_odd {x : Nat} (h2 : x % 2 = 1) : od x = x := by rw [od, dif_neg (by omega)]
theorem p2_even {x : Nat} (h : 0 < x) (h2 : x % 2 = 0) : p2 x = 2 * p2 (x / 2) := by rw [p2, dif_pos ⟨h, h2⟩]
theorem p2_odd {x : Nat} (h2 : x % 2 = 1) : p2 x = 1 := by rw [p2, dif_neg (by omega)]
theorem od_p2 : ∀ x : Nat, 0 < x → p2 x * od x = x ∧ od x % 2 = 1 ∧ 0 < p2 x ∧ 0 < od x := by
  intro x
  induction x using Nat.strongRecOn with
  | ind x ih =>
    intro h
    by_cases h2 : x % 2 = 0
    · obtain ⟨a, b, c, d⟩ := ih (x / 2) (by omega) (by omega)
      rw [od_even h h2, p2_even h h2]
      refine ⟨?_, b, by omega, d⟩
      rw [Nat.mul_assoc, a]; omega
    · rw [od_odd (by omega), p2_odd (by omega)]
      omega
theorem p2_le {x : Nat} (h : 0 < x) : p2 x ≤ x := by
  obtain ⟨a, b, c, d⟩ := od_p2 x h
  have := Nat.mul_le_mul_left (p2 x) d
  omega
/-- How often the odd number n comes up, where each entry stands for its odd part. -/
def wsum (l : List Int) (n : Int) : Nat := (l.map fun x => if (od x.toNat : Int) = n then p2 x.toNat else 0).sum
theorem wsum_take {l : List Int} {n : Int} {i : Nat} (h : i < l.length) : wsum (l.take (i + 1)) n = wsum (l.take i) n + (if (od (l.getD i 0).toNat : Int) = n then p2 (l.getD i 0).toNat else 0) := by
  unfold wsum
  rw [take_s h, List.map_append, List.sum_append]
  simp
theorem wsum_le {l : List Int} {n : Int} (hb : ∀ j, j < l.length → 1 ≤ l.getD j 0 ∧ l.getD j 0 ≤ 2000) : ∀ i, i ≤ l.length → wsum (l.take i) n ≤ 2000 * i
  | 0, _ => by simp [wsum]
  | i + 1, h => by
    rw [wsum_take (by omega)]
    have h1 := wsum_le (n := n) hb i (by omega)
    have h2 := hb i (by omega)
    have h3 : p2 (l.getD i 0).toNat ≤ 2000 := Nat.le_trans (p2_le (by omega)) (by omega)
    split <;> omega
/-- x is n times its power of two just if n is its odd part. -/
theorem od_iff {x n : Nat} (h : 0 < x) : x = n * p2 x ↔ od x = n := by
  obtain ⟨a, b, c, d⟩ := od_p2 x h
  constructor
  · intro e
    have : p2 x * od x = p2 x * n := by rw [a, Nat.mul_comm (p2 x) n]; exact e
    exact Nat.eq_of_mul_eq_mul_left c this
  · intro e
    rw [← e, Nat.mul_comm]; exact a.symm
/-- What is asked of the odd list. -/
structure Gl (l o : List Int) : Prop where
  lb : ∀ j, j < l.length → 1 ≤ l.getD j 0 ∧ l.getD j 0 ≤ 2000
  ob : ∀ j, j < o.length → 1 ≤ o.getD j 0 ∧ o.getD j 0 ≤ 2000 ∧ o.getD j 0 % 2 = 1
  od : ∀ j, j + 1 < o.length → o.getD (j + 1) 0 ≤ o.getD j 0
  ct : ∀ n : Nat, n ≤ 2000 → n % 2 = 1 → cnt o (n : Int) = wsum l (n : Int)

end PT
end Go.Proofs.YtmifenflbaohnaaDoor
end

section
/- Plain facts: lists by counts; Glaisher's pieces; sorted rows turned round. -/
set_option linter.unusedSimpArgs false
set_option linter.unusedVariables false
set_option maxRecDepth 100000
namespace Go.Proofs.YtmifenflbaohnaaDoor
namespace PT

/-- Lists by counts. -/
theorem len_le_of_cnt : ∀ (s b : List Int), (∀ x, cnt s x ≤ cnt b x) → s.length ≤ b.length
  | [], b, _ => by simp
  | x :: s, b, h => by
    have hx := h x
    have h1 : 1 ≤ cnt (x :: s) x := by unfold cnt; rw [List.countP_cons]; simp
    have hm : x ∈ b := by
      have : 0 < cnt b x := by omega
      unfold cnt at this
      obtain ⟨u, hu, e⟩ := List.countP_pos_iff.1 this
      simp at e; rw [← e]; exact hu
    have e1 : (b.erase x).length = b.length - 1 := List.length_erase_of_mem hm
    have e2 : 0 < b.length := List.length_pos_of_mem hm
    have e3 : ∀ y, cnt (b.erase x) y = cnt b y - if y = x then 1 else 0 := fun y => by
      show List.countP (fun z => z == y) _ = List.countP (fun z => z == y) b - _
      have := (List.count_erase : List.count y (b.erase x) = _)
      unfold List.count at this
      rw [this]
      by_cases e : y = x
      · subst e; simp
      · have : (x == y) = false := beq_eq_false_iff_ne.2 (fun h => e h.symm)
        rw [this, if_neg e]; simp
    have := len_le_of_cnt s (b.erase x) (fun y => by
      rw [e3 y]
      have := h y
      unfold cnt at this ⊢
      rw [List.countP_cons] at this
      by_cases e : y = x
      · subst e; simp at this ⊢; omega
      · have q : (x == y) = false := beq_eq_false_iff_ne.2 (fun h => e h.symm)
        rw [q] at this
        rw [if_neg e]; simp at this ⊢; exact this)
    simp only [List.length_cons]
    omega
theorem cnt_append (a b : List Int) (x : Int) : cnt (a ++ b) x = cnt a x + cnt b x := by unfold cnt; exact List.countP_append
theorem cnt_rep (n : Nat) (y x : Int) : cnt (List.replicate n y) x = if y = x then n else 0 := by
  unfold cnt
  rw [List.countP_replicate]
  by_cases e : y = x
  · rw [if_pos e, if_pos (by simpa using e)]
  · rw [if_neg e, if_neg (by simpa using e)]
theorem cnt_perm {a b : List Int} (h : a.Perm b) (x : Int) : cnt a x = cnt b x := h.countP_eq _
theorem wsum_append (a b : List Int) (n : Int) : wsum (a ++ b) n = wsum a n + wsum b n := by unfold wsum; rw [List.map_append, List.sum_append]
theorem wsum_one (x : Int) (n : Int) : wsum [x] n = if (od x.toNat : Int) = n then p2 x.toNat else 0 := by unfold wsum; simp
theorem wsum_perm {a b : List Int} (h : a.Perm b) (n : Int) : wsum a n = wsum b n := by unfold wsum; exact (h.map _).sum_nat
theorem mem_cnt {l : List Int} {x : Int} : x ∈ l ↔ 0 < cnt l x := by
  unfold cnt
  rw [List.countP_pos_iff]
  constructor
  · exact fun h => ⟨x, h, by simp⟩
  · rintro ⟨u, hu, e⟩; simp at e; rw [← e]; exact hu
/-- All odd parts, so often as they come. -/
def big : List Int → List Int
  | [] => []
  | x :: r => List.replicate (p2 x.toNat) (od x.toNat : Int) ++ big r
theorem cnt_big (n : Int) : ∀ l, cnt (big l) n = wsum l n
  | [] => rfl
  | x :: r => by
    rw [big, cnt_append, cnt_rep, cnt_big n r, show x :: r = [x] ++ r from rfl, wsum_append, wsum_one]
theorem big_len : ∀ l : List Int, (∀ x ∈ l, 1 ≤ x) → ((big l).length : Int) ≤ l.sum
  | [], _ => by simp [big]
  | x :: r, h => by
    have h1 := h x (by simp)
    have h2 := big_len r (fun y hy => h y (by simp [hy]))
    have h3 := p2_le (x := x.toNat) (by omega)
    simp only [big, List.length_append, List.length_replicate, List.sum_cons]
    omega
/-- No list by these counts is longer than the sum. -/
theorem len_w {l s : List Int} (hl : ∀ x ∈ l, 1 ≤ x) (h : ∀ n, cnt s n ≤ wsum l n) : (s.length : Int) ≤ l.sum := by
  have := len_le_of_cnt s (big l) (fun n => by rw [cnt_big]; exact h n)
  have := big_len l hl
  omega
theorem wsum_pos {l : List Int} {n : Int} (h : 0 < wsum l n) : ∃ x ∈ l, (od x.toNat : Int) = n := by
  rw [← cnt_big] at h
  have h := mem_cnt.2 h
  have key : ∀ l, n ∈ big l → ∃ x ∈ l, (od x.toNat : Int) = n := by
    intro l
    induction l with
    | nil => intro h; simp [big] at h
    | cons y r ih =>
      intro h
      rw [big, List.mem_append] at h
      rcases h with h | h
      · exact ⟨y, by simp, (List.mem_replicate.1 h).2.symm⟩
      · obtain ⟨x, hx, e⟩ := ih h
        exact ⟨x, by simp [hx], e⟩
  exact key l h
/-- n, so often as it stands there, is no more than the sum. -/
theorem wsum_sum {l : List Int} (hl : ∀ x ∈ l, 1 ≤ x) (n : Int) (hn : 0 ≤ n) : n * (wsum l n : Int) ≤ l.sum := by
  induction l with
  | nil => simp [wsum]
  | cons x r ih =>
    have h1 := hl x (by simp)
    have h2 := ih (fun y hy => hl y (by simp [hy]))
    obtain ⟨a, b, c, d⟩ := od_p2 x.toNat (by omega)
    rw [show x :: r = [x] ++ r from rfl, wsum_append, wsum_one]
    simp only [List.singleton_append, List.sum_cons]
    by_cases e : (od x.toNat : Int) = n
    · rw [if_pos e, Int.natCast_add, Int.mul_add]
      have : n * (p2 x.toNat : Int) = x := by
        rw [← e, ← Int.natCast_mul, Nat.mul_comm, a]; omega
      omega
    · rw [if_neg e, Nat.zero_add]; omega

/-- The least power of two, by reckoning. -/
def q2 : Nat → Nat → Nat
  | 0, _ => 1
  | f + 1, x => if x % 2 = 0 then 2 * q2 f (x / 2) else 1
theorem q2_p2 : ∀ f x, 0 < x → x < 2 ^ f → p2 x = q2 f x
  | 0, x, h, h2 => by simp at h2; omega
  | f + 1, x, h, h2 => by
    rw [q2]
    by_cases e : x % 2 = 0
    · rw [if_pos e, p2_even h e, q2_p2 f (x / 2) (by omega) (by rw [Nat.pow_succ] at h2; omega)]
    · rw [if_neg e, p2_odd (by omega)]
/-- The next power is greater. -/
theorem p2_next : ∀ t : Nat, 0 < t → p2 t < t → p2 t < p2 (t - p2 t) := by
  intro t
  induction t using Nat.strongRecOn with
  | ind t ih =>
    intro h0 h
    by_cases e : t % 2 = 0
    · have h1 := p2_even h0 e
      have h2 := ih (t / 2) (by omega) (by omega) (by omega)
      have h3 : (t - p2 t) / 2 = t / 2 - p2 (t / 2) := by omega
      rw [p2_even (x := t - p2 t) (by omega) (by omega), h3]
      omega
    · have h1 := p2_odd (x := t) (by omega)
      have h4 := (od_p2 ((t - 1) / 2) (by omega)).2.2.1
      rw [h1, p2_even (x := t - 1) (by omega) (by omega)]
      omega
/-- n times the least power: its parts. -/
theorem od_piece {n : Nat} (hn : n % 2 = 1) : ∀ t : Nat, 0 < t → od (n * p2 t) = n ∧ p2 (n * p2 t) = p2 t := by
  intro t
  induction t using Nat.strongRecOn with
  | ind t ih =>
    intro h0
    by_cases e : t % 2 = 0
    · obtain ⟨a, b⟩ := ih (t / 2) (by omega) (by omega)
      have c := (od_p2 (t / 2) (by omega)).2.2.1
      rw [p2_even h0 e]
      have e1 : n * (2 * p2 (t / 2)) = 2 * (n * p2 (t / 2)) := by rw [← Nat.mul_assoc, Nat.mul_comm n 2, Nat.mul_assoc]
      have e2 : 0 < n * p2 (t / 2) := Nat.mul_pos (by omega) c
      rw [e1, od_even (x := 2 * (n * p2 (t / 2))) (by omega) (by omega), p2_even (x := 2 * (n * p2 (t / 2))) (by omega) (by omega), show 2 * (n * p2 (t / 2)) / 2 = n * p2 (t / 2) by omega, a, b]
      exact ⟨rfl, rfl⟩
    · rw [p2_odd (by omega), Nat.mul_one]
      exact ⟨od_odd hn, by rw [p2_odd hn]⟩

/-- What is there while the pieces of n are put: t is left. -/
structure Pc (l s : List Int) (n : Nat) (t : Nat) : Prop where
  nd : s.Nodup
  rg : ∀ y ∈ s, 1 ≤ y ∧ y ≤ 2000
  le : t ≤ wsum l (n : Int)
  wn : wsum s (n : Int) + t = wsum l (n : Int)
  lt : ∀ y ∈ s, (od y.toNat : Int) = n → 0 < t → p2 y.toNat < p2 t
theorem Pc.step {l s : List Int} {n t : Nat} (h : Pc l s n t) (ht : 0 < t) (hn : n % 2 = 1) (hb : n * wsum l (n : Int) ≤ 2000) : Pc l (s ++ [((n * p2 t : Nat) : Int)]) n (t - p2 t) ∧ (∀ m : Int, m ≠ n → wsum (s ++ [((n * p2 t : Nat) : Int)]) m = wsum s m) ∧ 1 ≤ p2 t ∧ p2 t ≤ t ∧ n * p2 t ≤ 2000 := by
  obtain ⟨a, b⟩ := od_piece hn t ht
  have c := (od_p2 t ht).2.2.1
  have d := p2_le ht
  have e1 : n * p2 t ≤ 2000 := Nat.le_trans (Nat.mul_le_mul_left _ (Nat.le_trans d h.le)) hb
  have e2 : 0 < n * p2 t := Nat.mul_pos (by omega) c
  have e3 : ((n * p2 t : Nat) : Int).toNat = n * p2 t := by omega
  refine ⟨⟨?_, ?_, by have := h.le; omega, ?_, ?_⟩, ?_, c, d, e1⟩
  · rw [List.nodup_append]
    refine ⟨h.nd, by simp, fun y hy z hz => ?_⟩
    simp at hz
    intro e
    rw [e] at hy
    rw [hz, ← Int.natCast_mul] at hy
    have := h.lt _ hy (by rw [e3, a]) ht
    rw [e3, b] at this
    omega
  · intro y hy
    rcases List.mem_append.1 hy with hy | hy
    · exact h.rg y hy
    · simp only [List.mem_singleton] at hy; rw [hy]; omega
  · rw [wsum_append, wsum_one, e3, a, b, if_pos rfl]
    have := h.wn
    omega
  · intro y hy ho ht2
    rcases List.mem_append.1 hy with hy | hy
    · have := h.lt y hy ho ht
      have := p2_next t ht (by omega)
      omega
    · simp only [List.mem_singleton] at hy
      rw [hy, e3, b]
      exact p2_next t ht (by omega)
  · intro m hm
    rw [wsum_append, wsum_one, e3, a, if_neg (fun e => hm e.symm)]; omega
theorem nodup_len {s : List Int} (h : s.Nodup) (hr : ∀ y ∈ s, 1 ≤ y ∧ y ≤ 2000) : s.length ≤ 2001 := by
  have := len_le_of_cnt s ((List.range 2001).map fun i : Nat => (i : Int)) (fun x => by
    by_cases hx : x ∈ s
    · have h1 : cnt s x ≤ 1 := by
        unfold cnt
        have := List.nodup_iff_count.1 h x
        unfold List.count at this
        exact this
      have h2 : 0 < cnt ((List.range 2001).map fun i : Nat => (i : Int)) x := mem_cnt.1 (by
        have := hr x hx
        rw [List.mem_map]
        exact ⟨x.toNat, by rw [List.mem_range]; omega, by omega⟩)
      omega
    · have : cnt s x = 0 := by
        rcases Nat.eq_zero_or_pos (cnt s x) with q | q
        · exact q
        · exact absurd (mem_cnt.2 q) hx
      omega)
  simpa using this

/-- A sorted row, turned round. -/
theorem sort_dn (s : List Int) : (∀ j, j + 1 < ((s.mergeSort fun x y => decide (x ≤ y)).reverse).length → ((s.mergeSort fun x y => decide (x ≤ y)).reverse).getD (j + 1) 0 ≤ ((s.mergeSort fun x y => decide (x ≤ y)).reverse).getD j 0) ∧ ((s.mergeSort fun x y => decide (x ≤ y)).reverse).Perm s := by
  have h1 : (s.mergeSort fun x y => decide (x ≤ y)).Pairwise (fun x y => decide (x ≤ y) = true) := List.pairwise_mergeSort (fun a b c h1 h2 => by simp only [decide_eq_true_eq] at *; omega) (fun a b => by simp only [Bool.or_eq_true, decide_eq_true_eq]; omega) s
  have hp : (s.mergeSort fun x y => decide (x ≤ y)).Perm s := List.mergeSort_perm s _
  have h2 : ((s.mergeSort fun x y => decide (x ≤ y)).reverse).Pairwise (fun x y => y ≤ x) := by
    rw [List.pairwise_reverse]
    exact h1.imp (fun h => by simpa using h)
  refine ⟨fun j hj => ?_, (List.reverse_perm _).trans hp⟩
  have := List.pairwise_iff_getElem.1 h2 j (j + 1) (by omega) hj (by omega)
  rw [List.getD_eq_getElem?_getD, List.getElem?_eq_getElem hj, List.getD_eq_getElem?_getD, List.getElem?_eq_getElem (by omega)]
  exact this
theorem getD_of_mem {l : List Int} {P : Int → Prop} (h : ∀ y ∈ l, P y) : ∀ j, j < l.length → P (l.getD j 0) := fun j hj => by
  rw [List.getD_eq_getElem?_getD, List.getElem?_eq_getElem hj]; exact h _ (List.getElem_mem hj)
theorem mem_of_getD {l : List Int} {P : Int → Prop} (h : ∀ j, j < l.length → P (l.getD j 0)) : ∀ y ∈ l, P y := fun y hy => by
  obtain ⟨j, hj, e⟩ := List.getElem_of_mem hy
  have := h j hj
  rw [List.getD_eq_getElem?_getD, List.getElem?_eq_getElem hj] at this
  rw [← e]; exact this
/-- Odd's answer. -/
theorem gl_odd {l s : List Int} (hl : ∀ j, j < l.length → 1 ≤ l.getD j 0 ∧ l.getD j 0 ≤ 2000) (hs : ∀ n, cnt s n = wsum l n) : Gl l (s.mergeSort fun x y => decide (x ≤ y)).reverse := by
  obtain ⟨d, p⟩ := sort_dn s
  have hm := mem_of_getD (P := fun y => 1 ≤ y ∧ y ≤ 2000) hl
  refine ⟨hl, getD_of_mem (P := fun y => 1 ≤ y ∧ y ≤ 2000 ∧ y % 2 = 1) fun y hy => ?_, d, fun n _ _ => by rw [cnt_perm p, hs]⟩
  have h1 : 0 < wsum l y := by rw [← hs, ← cnt_perm p]; exact mem_cnt.1 hy
  obtain ⟨x, hx, e⟩ := wsum_pos h1
  have := hm x hx
  obtain ⟨a, b, c, dd⟩ := od_p2 x.toNat (by omega)
  have : od x.toNat ≤ x.toNat := by
    have := Nat.mul_le_mul_right (od x.toNat) c
    omega
  rw [← e]
  omega
theorem wsum_odd {l : List Int} (hl : ∀ x ∈ l, 1 ≤ x ∧ x % 2 = 1) (n : Int) : wsum l n = cnt l n := by
  induction l with
  | nil => rfl
  | cons x r ih =>
    have h1 := hl x (by simp)
    rw [show x :: r = [x] ++ r from rfl, wsum_append, wsum_one, cnt_append, ih (fun y hy => hl y (by simp [hy])), od_odd (by omega), p2_odd (by omega)]
    unfold cnt
    simp only [List.countP_cons, List.countP_nil]
    rw [show ((x.toNat : Nat) : Int) = x by omega]
    by_cases e : x = n <;> simp [e]
/-- Apart's answer. -/
theorem gl_apart {l s : List Int} (hl : ∀ j, j < l.length → 1 ≤ l.getD j 0 ∧ l.getD j 0 ≤ 2000 ∧ l.getD j 0 % 2 = 1) (hd : ∀ j, j + 1 < l.length → l.getD (j + 1) 0 ≤ l.getD j 0) (hn : s.Nodup) (hr : ∀ y ∈ s, 1 ≤ y ∧ y ≤ 2000) (hs : ∀ n, wsum s n = wsum l n) :
    Gl (s.mergeSort fun x y => decide (x ≤ y)).reverse l ∧ ∀ j, j + 1 < ((s.mergeSort fun x y => decide (x ≤ y)).reverse).length → ((s.mergeSort fun x y => decide (x ≤ y)).reverse).getD (j + 1) 0 < ((s.mergeSort fun x y => decide (x ≤ y)).reverse).getD j 0 := by
  obtain ⟨d, p⟩ := sort_dn s
  have hm := mem_of_getD (P := fun y => 1 ≤ y ∧ y ≤ 2000 ∧ y % 2 = 1) hl
  refine ⟨⟨getD_of_mem (P := fun y => 1 ≤ y ∧ y ≤ 2000) fun y hy => hr y (p.mem_iff.1 hy), hl, hd, fun n _ _ => ?_⟩, fun j hj => ?_⟩
  · rw [wsum_perm p, hs, wsum_odd (fun x hx => ⟨(hm x hx).1, (hm x hx).2.2⟩)]
  · have h1 := d j hj
    have h2 : ((s.mergeSort fun x y => decide (x ≤ y)).reverse).Nodup := p.nodup_iff.2 hn
    have h3 := List.pairwise_iff_getElem.1 h2 j (j + 1) (by omega) hj (by omega)
    rw [List.getD_eq_getElem?_getD, List.getElem?_eq_getElem hj, List.getD_eq_getElem?_getD, List.getElem?_eq_getElem (show j < _ by omega)] at h1 ⊢
    simp only [Option.getD_some] at h1 ⊢
    omega

end PT
end Go.Proofs.YtmifenflbaohnaaDoor
end
