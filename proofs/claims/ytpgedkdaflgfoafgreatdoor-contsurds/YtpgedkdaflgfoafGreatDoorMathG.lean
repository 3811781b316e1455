/- Plain facts: lists of small primes, in order, and their products. -/
import Derived.Test.YtpgedkdaflgfoafGreatDoorMathF
set_option linter.unusedVariables false
set_option maxRecDepth 100000
namespace Go.Proofs.YtpgedkdaflgfoafGreatDoor

def prd : List Int → Int
  | [] => 1
  | x :: t => x * prd t

/-- Primes up to 23, none ahead of a smaller one. -/
structure Sm (r : List Int) : Prop where
  mem : ∀ y ∈ r, y ∈ ([2, 3, 5, 7, 11, 13, 17, 19, 23] : List Int)
  sort : r.Pairwise (· ≤ ·)

theorem sm_pr : ∀ x ∈ ([2, 3, 5, 7, 11, 13, 17, 19, 23] : List Int), Pr x.natAbs := by
  have key : ∀ x ∈ ([2, 3, 5, 7, 11, 13, 17, 19, 23] : List Nat), ∀ d, d < 24 → d ∣ x → d = 1 ∨ d = x := by decide +kernel
  have key2 : ∀ x ∈ ([2, 3, 5, 7, 11, 13, 17, 19, 23] : List Nat), 2 ≤ x ∧ x < 24 := by decide +kernel
  have go : ∀ x ∈ ([2, 3, 5, 7, 11, 13, 17, 19, 23] : List Nat), Pr x := fun x hx =>
    ⟨(key2 x hx).1, fun d hd => key x hx d (by have := Nat.le_of_dvd (by have := key2 x hx; omega) hd; have := key2 x hx; omega) hd⟩
  intro x hx
  have h : x.natAbs ∈ ([2, 3, 5, 7, 11, 13, 17, 19, 23] : List Nat) := by
    revert x; decide +kernel
  exact go _ h

theorem sm_mul {x a b : Int} (hx : x ∈ ([2, 3, 5, 7, 11, 13, 17, 19, 23] : List Int)) (h : x ∣ a * b) : x ∣ a ∨ x ∣ b := by
  have h1 : x.natAbs ∣ a.natAbs * b.natAbs := by rw [← Int.natAbs_mul]; exact Int.natAbs_dvd_natAbs.2 h
  rcases pr_mul (sm_pr x hx) h1 with h2 | h2
  · exact .inl (Int.natAbs_dvd_natAbs.1 h2)
  · exact .inr (Int.natAbs_dvd_natAbs.1 h2)

theorem Sm.tail {x : Int} {r : List Int} (h : Sm (x :: r)) : Sm r := ⟨fun y hy => h.mem y (List.mem_cons_of_mem _ hy), (List.pairwise_cons.1 h.sort).2⟩
theorem Sm.right {d r : List Int} (h : Sm (d ++ r)) : Sm r := ⟨fun y hy => h.mem y (List.mem_append_right _ hy), (List.pairwise_append.1 h.sort).2.1⟩

theorem sm_size : ∀ x ∈ ([2, 3, 5, 7, 11, 13, 17, 19, 23] : List Int), 2 ≤ x ∧ x ≤ 23 := by decide +kernel
theorem sm_own : ∀ y ∈ ([2, 3, 5, 7, 11, 13, 17, 19, 23] : List Int), ∀ x ∈ ([2, 3, 5, 7, 11, 13, 17, 19, 23] : List Int), x ∣ y → x = y := by decide +kernel

theorem prd_pos {r : List Int} (h : Sm r) : 1 ≤ prd r := by
  induction r with
  | nil => decide
  | cons a t ih =>
    have h1 := (sm_size a (h.mem a (by simp))).1
    have h2 := ih h.tail
    show 1 ≤ a * prd t
    have := Int.mul_le_mul (show 1 ≤ a by omega) h2 (by omega) (by omega)
    omega

theorem prd_mem {r : List Int} (h : Sm r) {x : Int} (hx : x ∈ ([2, 3, 5, 7, 11, 13, 17, 19, 23] : List Int)) (hd : x ∣ prd r) : x ∈ r := by
  induction r with
  | nil =>
    have h1 := Int.le_of_dvd (by decide) hd
    have h2 := sm_size x hx
    simp only [prd] at h1
    omega
  | cons a t ih =>
    rcases sm_mul hx hd with h1 | h1
    · have := sm_own a (h.mem a (by simp)) x hx h1
      subst this; simp
    · exact List.mem_cons_of_mem _ (ih h.tail h1)

theorem prd_dvd {r : List Int} {x : Int} (hx : x ∈ r) : x ∣ prd r := by
  induction r with
  | nil => simp at hx
  | cons a t ih =>
    rcases List.mem_cons.1 hx with h | h
    · subst h; exact ⟨prd t, rfl⟩
    · exact Int.dvd_trans (ih h) ⟨a, by show a * prd t = _; rw [Int.mul_comm]⟩

/-- What x divides begins with it, if nothing below it is there. -/
theorem sm_head {r : List Int} (h : Sm r) {x : Int} (hx : x ∈ r) (hle : ∀ y ∈ r, x ≤ y) : ∃ t, r = x :: t := by
  cases r with
  | nil => simp at hx
  | cons a t =>
    have h1 := hle a (by simp)
    rcases List.mem_cons.1 hx with h2 | h2
    · exact ⟨t, by rw [h2]⟩
    · have h3 := (List.pairwise_cons.1 h.sort).1 x h2
      exact ⟨t, by rw [show a = x by omega]⟩

theorem sm_short {r : List Int} (h : Sm r) {x : Int} (hx : 2 ≤ x) (hle : ∀ y ∈ r, x ≤ y) (hp : prd r < x * x) : r = [] ∨ ∃ q, r = [q] := by
  match r, h, hle, hp with
  | [], _, _, _ => exact .inl rfl
  | [q], _, _, _ => exact .inr ⟨q, rfl⟩
  | a :: b :: t, h, hle, hp =>
    exfalso
    have h1 := hle a (by simp)
    have h2 := hle b (by simp)
    have h3 := prd_pos h.tail.tail
    have h4 : x * 1 ≤ b * prd t := Int.mul_le_mul h2 h3 (by omega) (by omega)
    have h5 : x * x ≤ a * (b * prd t) := Int.mul_le_mul h1 (by omega) (by omega) (by omega)
    have h6 : prd (a :: b :: t) = a * (b * prd t) := rfl
    omega

/-- Of what is not yet gone through nothing is smaller than the next one. -/
theorem sm_next {pre r : List Int} {x : Int} (h : Sm r) (hp : pre ++ [x] <+: ([2, 3, 5, 7, 11, 13, 17, 19, 23, 29] : List Int)) (hn : ∀ y ∈ r, y ∉ pre) : ∀ y ∈ r, x ≤ y := by
  intro y hy
  obtain ⟨t, ht⟩ := hp
  have hm : y ∈ ([2, 3, 5, 7, 11, 13, 17, 19, 23, 29] : List Int) := by
    have := h.mem y hy
    revert this
    simp only [List.mem_cons, List.not_mem_nil, or_false]
    omega
  have hs : (pre ++ [x] ++ t).Pairwise (· < ·) := by rw [ht]; decide
  rw [← ht, List.append_assoc] at hm
  rw [List.append_assoc] at hs
  have hs2 := (List.pairwise_append.1 hs).2.1
  rcases List.mem_append.1 hm with h1 | h1
  · exact absurd h1 (hn y hy)
  · rcases List.mem_cons.1 h1 with h2 | h2
    · omega
    · have := (List.pairwise_cons.1 hs2).1 y (by simpa using h2)
      omega

theorem sm_29 {pre r : List Int} {x : Int} (h : Sm r) (hp : pre ++ [x] <+: ([2, 3, 5, 7, 11, 13, 17, 19, 23, 29] : List Int)) (hn : ∀ y ∈ r, y ∉ pre) (hx : ¬ prd r < x * x) : x ∈ ([2, 3, 5, 7, 11, 13, 17, 19, 23] : List Int) := by
  have hm : x ∈ ([2, 3, 5, 7, 11, 13, 17, 19, 23, 29] : List Int) := hp.subset (by simp)
  by_cases h29 : x = 29
  · exfalso
    have h1 := sm_next h hp hn
    have h2 : r = [] := by
      cases r with
      | nil => rfl
      | cons a t =>
        have h3 := h1 a (by simp)
        have h4 := sm_size a (h.mem a (by simp))
        omega
    rw [h2, h29] at hx
    exact hx (by decide)
  · revert hm
    simp only [List.mem_cons, List.not_mem_nil, or_false]
    omega

end Go.Proofs.YtpgedkdaflgfoafGreatDoor
