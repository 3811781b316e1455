/- Points of a form: as many as its reduced form has; what the reference counts: plain facts. -/
import Derived.Test.YtijkanilpblogaeQfH
set_option linter.unusedSimpArgs false
set_option linter.unusedVariables false
set_option maxRecDepth 100000
namespace Go.Proofs.Ytijkanilpblogae

/-- Of two lists without repetition, of which the one lies in the other by a map that parts what is different, the one is no longer. -/
theorem nodup_len {α β : Type} [DecidableEq β] : ∀ (A : List α) (B : List β) (φ : α → β), A.Nodup → (∀ a ∈ A, φ a ∈ B) → (∀ a ∈ A, ∀ b ∈ A, φ a = φ b → a = b) → A.length ≤ B.length
  | [], _, _, _, _, _ => Nat.zero_le _
  | a :: A, B, φ, hn, hm, hi => by
    have hb := hm a (List.mem_cons_self ..)
    have hn' := List.nodup_cons.1 hn
    have ih := nodup_len A (B.erase (φ a)) φ hn'.2
      (fun x hx => by
        have hne : φ x ≠ φ a := fun e => by
          have := hi x (List.mem_cons_of_mem _ hx) a (List.mem_cons_self ..) e
          subst this
          exact hn'.1 hx
        exact (List.mem_erase_of_ne hne).2 (hm x (List.mem_cons_of_mem _ hx)))
      (fun x hx y hy e => hi x (List.mem_cons_of_mem _ hx) y (List.mem_cons_of_mem _ hy) e)
    rw [List.length_erase_of_mem hb] at ih
    have : 0 < B.length := List.length_pos_of_mem hb
    simp
    omega

theorem nodup_fm {α : Type} (F : Nat → List α) (key : α → Nat) (h1 : ∀ i, (F i).Nodup) (h2 : ∀ i a, a ∈ F i → key a = i) : ∀ k, ((List.range k).flatMap F).Nodup
  | 0 => by simp
  | k + 1 => by
    rw [List.range_succ, List.flatMap_append]
    refine List.nodup_append.2 ⟨nodup_fm F key h1 h2 k, by simpa using h1 k, ?_⟩
    intro a ha b hb e
    subst e
    obtain ⟨i, hi, hai⟩ := List.mem_flatMap.1 ha
    have e1 := h2 i a hai
    have e2 := h2 k a (by simpa using hb)
    have := List.mem_range.1 hi
    omega

/-- What PointsMany counts at x, y and s. -/
def pk (g : Qf) (n : Int) (x y s : Nat) : List (Int × Int) :=
  if (x = 0 ∧ s % 2 = 1) ∨ (y = 0 ∧ 1 < s) then []
  else if g.at (if s % 2 = 1 then -(x : Int) else x) (if 1 < s then -(y : Int) else y) = n then [((if s % 2 = 1 then -(x : Int) else x), (if 1 < s then -(y : Int) else y))] else []
def quad4 (g : Qf) (n : Int) (x y k : Nat) : List (Int × Int) := (List.range k).flatMap (pk g n x y)
def rowP (g : Qf) (n : Int) (y k : Nat) : List (Int × Int) := (List.range k).flatMap fun x => quad4 g n x y 4
def allP (g : Qf) (n : Int) (K : Nat → Nat) (k : Nat) : List (Int × Int) := (List.range k).flatMap fun y => rowP g n y (K y)

theorem pk_mem {g : Qf} {n : Int} {x y s : Nat} {a : Int × Int} (h : a ∈ pk g n x y s) : ¬((x = 0 ∧ s % 2 = 1) ∨ (y = 0 ∧ 1 < s)) ∧ g.at a.1 a.2 = n ∧ a = ((if s % 2 = 1 then -(x : Int) else x), (if 1 < s then -(y : Int) else y)) := by
  unfold pk at h
  by_cases h0 : (x = 0 ∧ s % 2 = 1) ∨ (y = 0 ∧ 1 < s)
  · rw [if_pos h0] at h; simp at h
  · rw [if_neg h0] at h
    by_cases h1 : g.at (if s % 2 = 1 then -(x : Int) else x) (if 1 < s then -(y : Int) else y) = n
    · rw [if_pos h1] at h
      simp only [List.mem_singleton] at h
      subst h
      exact ⟨h0, h1, rfl⟩
    · rw [if_neg h1] at h; simp at h
theorem pk_nodup (g : Qf) (n : Int) (x y s : Nat) : (pk g n x y s).Nodup := by
  unfold pk
  by_cases h0 : (x = 0 ∧ s % 2 = 1) ∨ (y = 0 ∧ 1 < s)
  · rw [if_pos h0]; simp
  · rw [if_neg h0]
    by_cases h1 : g.at (if s % 2 = 1 then -(x : Int) else x) (if 1 < s then -(y : Int) else y) = n
    · rw [if_pos h1]; simp
    · rw [if_neg h1]; simp
def key4 (a : Int × Int) : Nat := (if a.1 < 0 then 1 else 0) + (if a.2 < 0 then 2 else 0)
theorem pk_key {g : Qf} {n : Int} {x y s : Nat} (hs : s < 4) {a : Int × Int} (h : a ∈ pk g n x y s) : key4 a = s ∧ a.1.natAbs = x ∧ a.2.natAbs = y := by
  obtain ⟨h0, _, e⟩ := pk_mem h
  subst e
  have hs4 : s = 0 ∨ s = 1 ∨ s = 2 ∨ s = 3 := by omega
  rcases hs4 with rfl | rfl | rfl | rfl
  · refine ⟨?_, by simp, by simp⟩
    have : ¬ ((x : Int) < 0) := by omega
    have : ¬ ((y : Int) < 0) := by omega
    simp [key4, *]
  · have hx : (-(x : Int)) < 0 := by simp at h0; omega
    have hy : ¬ ((y : Int) < 0) := by omega
    refine ⟨?_, by simp, by simp⟩
    show (if (if 1 % 2 = 1 then -(x : Int) else x) < 0 then 1 else 0) + (if (if 1 < 1 then -(y : Int) else y) < 0 then 2 else 0) = 1
    rw [if_pos (show 1 % 2 = 1 from rfl), if_neg (show ¬ 1 < 1 by omega), if_pos hx, if_neg hy]
  · have hx : ¬ ((x : Int) < 0) := by omega
    have hy : (-(y : Int)) < 0 := by simp at h0; omega
    refine ⟨?_, by simp, by simp⟩
    show (if (if 2 % 2 = 1 then -(x : Int) else x) < 0 then 1 else 0) + (if (if 1 < 2 then -(y : Int) else y) < 0 then 2 else 0) = 2
    rw [if_neg (show ¬ 2 % 2 = 1 by decide), if_pos (show 1 < 2 by omega), if_neg hx, if_pos hy]
  · have hx : (-(x : Int)) < 0 := by simp at h0; omega
    have hy : (-(y : Int)) < 0 := by simp at h0; omega
    refine ⟨?_, by simp, by simp⟩
    show (if (if 3 % 2 = 1 then -(x : Int) else x) < 0 then 1 else 0) + (if (if 1 < 3 then -(y : Int) else y) < 0 then 2 else 0) = 3
    rw [if_pos (show 3 % 2 = 1 by decide), if_pos (show 1 < 3 by omega), if_pos hx, if_pos hy]
theorem quad4_mem {g : Qf} {n : Int} {x y k : Nat} (hk : k ≤ 4) {a : Int × Int} (h : a ∈ quad4 g n x y k) : a.1.natAbs = x ∧ a.2.natAbs = y ∧ g.at a.1 a.2 = n := by
  obtain ⟨s, hs, h⟩ := List.mem_flatMap.1 h
  have hs := List.mem_range.1 hs
  have := pk_key (by omega) h
  exact ⟨this.2.1, this.2.2, (pk_mem h).2.1⟩
theorem quad4_nodup (g : Qf) (n : Int) (x y : Nat) : (quad4 g n x y 4).Nodup := by
  have h : quad4 g n x y 4 = (List.range 4).flatMap (fun s => if s < 4 then pk g n x y s else []) := by
    unfold quad4
    simp [List.range, List.range.loop]
  rw [h]
  refine nodup_fm _ key4 (fun s => ?_) (fun s a ha => ?_) 4
  · split
    · exact pk_nodup ..
    · simp
  · split at ha
    · rename_i hs; exact (pk_key hs ha).1
    · simp at ha
theorem rowP_nodup (g : Qf) (n : Int) (y k : Nat) : (rowP g n y k).Nodup :=
  nodup_fm _ (fun a => a.1.natAbs) (fun x => quad4_nodup g n x y) (fun x a ha => (quad4_mem (by omega) ha).1) k
theorem rowP_mem {g : Qf} {n : Int} {y k : Nat} {a : Int × Int} (h : a ∈ rowP g n y k) : a.2.natAbs = y ∧ g.at a.1 a.2 = n := by
  obtain ⟨x, hx, h⟩ := List.mem_flatMap.1 h
  exact ⟨(quad4_mem (by omega) h).2.1, (quad4_mem (by omega) h).2.2⟩
theorem allP_nodup (g : Qf) (n : Int) (K : Nat → Nat) (k : Nat) : (allP g n K k).Nodup :=
  nodup_fm _ (fun a => a.2.natAbs) (fun y => rowP_nodup g n y (K y)) (fun y a ha => (rowP_mem ha).1) k
theorem allP_at {g : Qf} {n : Int} {K : Nat → Nat} {k : Nat} {a : Int × Int} (h : a ∈ allP g n K k) : g.at a.1 a.2 = n := by
  obtain ⟨y, hy, h⟩ := List.mem_flatMap.1 h
  exact (rowP_mem h).2
theorem mem_quad4 {g : Qf} {n p q : Int} (h : g.at p q = n) : (p, q) ∈ quad4 g n p.natAbs q.natAbs 4 := by
  unfold quad4
  rw [List.mem_flatMap]
  have hp : p < 0 ∨ 0 ≤ p := by omega
  have hq : q < 0 ∨ 0 ≤ q := by omega
  refine ⟨(if p < 0 then 1 else 0) + (if q < 0 then 2 else 0), List.mem_range.2 (by split <;> split <;> omega), ?_⟩
  unfold pk
  rcases hp with hp | hp <;> rcases hq with hq | hq
  · have e1 : -(p.natAbs : Int) = p := by omega
    have e2 : -(q.natAbs : Int) = q := by omega
    rw [if_pos hp, if_pos hq, if_neg (by omega)]
    simp [e1, e2, h]
  · have e1 : -(p.natAbs : Int) = p := by omega
    have e2 : (q.natAbs : Int) = q := by omega
    rw [if_pos hp, if_neg (show ¬ q < 0 by omega), if_neg (by omega)]
    simp [e1, e2, h]
  · have e1 : (p.natAbs : Int) = p := by omega
    have e2 : -(q.natAbs : Int) = q := by omega
    rw [if_neg (show ¬ p < 0 by omega), if_pos hq, if_neg (by omega)]
    simp [e1, e2, h]
  · have e1 : (p.natAbs : Int) = p := by omega
    have e2 : (q.natAbs : Int) = q := by omega
    rw [if_neg (show ¬ p < 0 by omega), if_neg (show ¬ q < 0 by omega), if_neg (by omega)]
    simp [e1, e2, h]
theorem mem_allP {g : Qf} {n : Int} {K : Nat → Nat} {k : Nat} {p q : Int} (h : g.at p q = n) (hq : q.natAbs < k) (hp : p.natAbs < K q.natAbs) : (p, q) ∈ allP g n K k :=
  List.mem_flatMap.2 ⟨q.natAbs, List.mem_range.2 hq, List.mem_flatMap.2 ⟨p.natAbs, List.mem_range.2 hp, mem_quad4 h⟩⟩

/-- At these sizes of p and q the value is at least so great. -/
theorem at_ge (g : Qf) (p q : Int) : g.a * ((p.natAbs : Int) * p.natAbs) - (g.b.natAbs : Int) * ((p.natAbs : Int) * q.natAbs) + g.c * ((q.natAbs : Int) * q.natAbs) ≤ g.at p q := by
  have e1 : (p.natAbs : Int) * p.natAbs = p * p := by rw [← Int.natCast_mul, ← Int.natAbs_mul]; exact Int.natAbs_of_nonneg (sq_nn p)
  have e2 : (q.natAbs : Int) * q.natAbs = q * q := by rw [← Int.natCast_mul, ← Int.natAbs_mul]; exact Int.natAbs_of_nonneg (sq_nn q)
  have e3 : (g.b.natAbs : Int) * ((p.natAbs : Int) * q.natAbs) = ((p * q * g.b).natAbs : Int) := by rw [Int.natAbs_mul, Int.natAbs_mul, Int.natCast_mul, Int.natCast_mul, Int.mul_comm]
  rw [e1, e2, e3]
  unfold Qf.at
  have e4 : g.a * (p * p) = p * p * g.a := Int.mul_comm ..
  have e5 : g.c * (q * q) = q * q * g.c := Int.mul_comm ..
  rw [e4, e5]
  omega

theorem row_none {g : Qf} {n : Int} {x y : Nat} (ha : 1 ≤ g.a) (h1 : n < g.a * ((x : Int) * x) - (g.b.natAbs : Int) * ((x : Int) * y) + g.c * ((y : Int) * y)) (h2 : (g.b.natAbs : Int) * y < 2 * g.a * x) {p q : Int} (hp : x ≤ p.natAbs) (hq : q.natAbs = y) : n < g.at p q := by
  have h := at_ge g p q
  rw [hq] at h
  obtain ⟨X, hX⟩ : ∃ X : Int, X = (p.natAbs : Int) := ⟨_, rfl⟩
  obtain ⟨z, hz⟩ : ∃ z : Int, z = (x : Int) := ⟨_, rfl⟩
  obtain ⟨Y, hY⟩ : ∃ Y : Int, Y = (y : Int) := ⟨_, rfl⟩
  obtain ⟨B, hB⟩ : ∃ B : Int, B = (g.b.natAbs : Int) := ⟨_, rfl⟩
  rw [← hX, ← hY, ← hB] at h
  rw [← hz, ← hY, ← hB] at h1 h2
  have hzX : z ≤ X := by omega
  have k1 : 0 ≤ (X - z) * (g.a * (X + z) - B * Y) := by
    refine Int.mul_nonneg (by omega) ?_
    have : g.a * (2 * z) ≤ g.a * (X + z) := Int.mul_le_mul_of_nonneg_left (by omega) (by omega)
    have e : g.a * (2 * z) = 2 * g.a * z := by grind
    omega
  have k2 : (X - z) * (g.a * (X + z) - B * Y) = (g.a * (X * X) - B * (X * Y)) - (g.a * (z * z) - B * (z * Y)) := by grind
  omega

theorem rows_none {g : Qf} {n : Int} {k : Nat} (ha : 1 ≤ g.a) (hd : g.disc < 0) (h : 4 * g.a * n < -g.disc * ((k : Int) * k)) {p q : Int} (hq : k ≤ q.natAbs) : n < g.at p q := by
  have e1 : 4 * g.a * g.at p q = (2 * g.a * p + g.b * q) * (2 * g.a * p + g.b * q) + (-g.disc) * (q * q) := by simp only [Qf.at, Qf.disc]; grind
  have s1 := sq_nn (2 * g.a * p + g.b * q)
  have e2 : (q.natAbs : Int) * q.natAbs = q * q := by rw [← Int.natCast_mul, ← Int.natAbs_mul]; exact Int.natAbs_of_nonneg (sq_nn q)
  have h2 : (k : Int) * k ≤ (q.natAbs : Int) * q.natAbs := Int.mul_le_mul (by omega) (by omega) (by omega) (by omega)
  have h3 := Int.mul_le_mul_of_nonneg_left h2 (show 0 ≤ -g.disc by omega)
  rw [e2] at h3
  rcases Int.lt_or_le n (g.at p q) with h4 | h4
  · exact h4
  · exfalso
    have := Int.mul_le_mul_of_nonneg_left h4 (show 0 ≤ 4 * g.a by omega)
    omega

theorem quad4_nil {g : Qf} {n : Int} {x y : Nat} (h : ∀ p q : Int, p.natAbs = x → q.natAbs = y → n < g.at p q) : quad4 g n x y 4 = [] := by
  cases e : quad4 g n x y 4 with
  | nil => rfl
  | cons a l =>
    exfalso
    have hm : a ∈ quad4 g n x y 4 := by rw [e]; simp
    obtain ⟨h1, h2, h3⟩ := quad4_mem (by omega) hm
    have := h a.1 a.2 h1 h2
    omega
theorem rowP_succ (g : Qf) (n : Int) (y k : Nat) : rowP g n y (k + 1) = rowP g n y k ++ quad4 g n k y 4 := by
  unfold rowP; rw [List.range_succ, List.flatMap_append]; simp
theorem allP_succ (g : Qf) (n : Int) (K : Nat → Nat) (k : Nat) : allP g n K (k + 1) = allP g n K k ++ rowP g n k (K k) := by
  unfold allP; rw [List.range_succ, List.flatMap_append]; simp
theorem quad4_succ (g : Qf) (n : Int) (x y k : Nat) : quad4 g n x y (k + 1) = quad4 g n x y k ++ pk g n x y k := by
  unfold quad4; rw [List.range_succ, List.flatMap_append]; simp
/-- Behind the break nothing comes. -/
theorem rowP_end {g : Qf} {n : Int} {x y : Nat} (ha : 1 ≤ g.a) (h1 : n < g.a * ((x : Int) * x) - (g.b.natAbs : Int) * ((x : Int) * y) + g.c * ((y : Int) * y)) (h2 : (g.b.natAbs : Int) * y < 2 * g.a * x) : ∀ k, x ≤ k → rowP g n y k = rowP g n y x := by
  intro k hk
  induction k with
  | zero => obtain rfl : x = 0 := by omega
            rfl
  | succ k ih =>
    by_cases e : x = k + 1
    · rw [e]
    · rw [rowP_succ, ih (by omega), quad4_nil (fun p q hp hq => row_none ha h1 h2 (by omega) hq)]; simp

/-- As many points as the reduced form has. -/
theorem points_len {f g : Qf} {m : Mt} {n : Int} (h : Rd f g m) (L P : List (Int × Int)) (hL : L.Nodup) (hP : P.Nodup) (l1 : ∀ a ∈ L, f.at a.1 a.2 = n) (l2 : ∀ x y, f.at x y = n → (x, y) ∈ L) (p1 : ∀ a ∈ P, g.at a.1 a.2 = n) (p2 : ∀ x y, g.at x y = n → (x, y) ∈ P) : L.length = P.length := by
  have hd := h.det
  apply Nat.le_antisymm
  · refine nodup_len L P (fun a => (m.s * a.1 - m.q * a.2, m.p * a.2 - m.r * a.1)) hL (fun a ha => p2 _ _ (by rw [← h.back]; exact l1 a ha)) ?_
    intro a ha b hb e
    simp only [Prod.mk.injEq] at e
    obtain ⟨e1, e2⟩ := e
    have x1 : m.p * (m.s * a.1 - m.q * a.2) + m.q * (m.p * a.2 - m.r * a.1) = (m.p * m.s - m.q * m.r) * a.1 := by grind
    have x2 : m.p * (m.s * b.1 - m.q * b.2) + m.q * (m.p * b.2 - m.r * b.1) = (m.p * m.s - m.q * m.r) * b.1 := by grind
    have y1 : m.r * (m.s * a.1 - m.q * a.2) + m.s * (m.p * a.2 - m.r * a.1) = (m.p * m.s - m.q * m.r) * a.2 := by grind
    have y2 : m.r * (m.s * b.1 - m.q * b.2) + m.s * (m.p * b.2 - m.r * b.1) = (m.p * m.s - m.q * m.r) * b.2 := by grind
    rw [e1, e2, x2, hd] at x1
    rw [e1, e2, y2, hd] at y1
    exact Prod.ext (by omega) (by omega)
  · refine nodup_len P L (fun a => (m.p * a.1 + m.q * a.2, m.r * a.1 + m.s * a.2)) hP (fun a ha => l2 _ _ (by rw [h.like]; exact p1 a ha)) ?_
    intro a ha b hb e
    simp only [Prod.mk.injEq] at e
    obtain ⟨e1, e2⟩ := e
    have x1 : m.s * (m.p * a.1 + m.q * a.2) - m.q * (m.r * a.1 + m.s * a.2) = (m.p * m.s - m.q * m.r) * a.1 := by grind
    have x2 : m.s * (m.p * b.1 + m.q * b.2) - m.q * (m.r * b.1 + m.s * b.2) = (m.p * m.s - m.q * m.r) * b.1 := by grind
    have y1 : m.p * (m.r * a.1 + m.s * a.2) - m.r * (m.p * a.1 + m.q * a.2) = (m.p * m.s - m.q * m.r) * a.2 := by grind
    have y2 : m.p * (m.r * b.1 + m.s * b.2) - m.r * (m.p * b.1 + m.q * b.2) = (m.p * m.s - m.q * m.r) * b.2 := by grind
    rw [e1, e2, x2, hd] at x1
    rw [e1, e2, y2, hd] at y1
    exact Prod.ext (by omega) (by omega)

end Go.Proofs.Ytijkanilpblogae
