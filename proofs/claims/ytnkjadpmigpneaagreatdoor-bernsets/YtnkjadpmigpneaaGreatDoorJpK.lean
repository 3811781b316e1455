import Derived.Test.YtnkjadpmigpneaaGreatDoorLgW
import Derived.Test.YtnkjadpmigpneaaGreatDoorJpB
section
set_option linter.unusedSimpArgs false
set_option linter.unusedVariables false
set_option maxRecDepth 100000
namespace Go.Proofs.YtnkjadpmigpneaaGreatDoor
open Go.RowKit LgM
theorem Tryz.infoSg : (Tryz.prog.info? 66).map (fun i => (i.zero, i.size, i.bytes)) = some (some (.agg #[.slice none 0 0, .bool false]), 2, 32) := by kernel_rfl
def NI (u : Value) : Prop := ∀ k n, u ≠ .int k n
theorem LN.setB {w : World} {v : Value} {n b i : Nat} {cells : List Value} {t : TypeId} (h : LN w v n) (hc : Cl b cells t w) (hn : ∀ u ∈ cells, NI u) (u : Value) : LN (w.setCell ⟨b, i, none⟩ u) v n := by
  obtain ⟨j, hj, ⟨aa, g, o, c', e, p, cell, lt⟩, hty⟩ := h
  refine ⟨j, hj, ⟨aa, g, o, c', e, p, fun t ht => ?_, fun hp => by have := lt hp; simp; omega⟩, hty.set _ _⟩
  have hne : g ≠ b := by
    intro e2
    subst e2
    have h1 := cell t ht
    rw [hc.cell] at h1
    exact hn _ (List.mem_of_getElem? h1) _ _ rfl
  rw [World.cell?, Below.heap_setCell _ _ _ g (by simpa using hne)]
  exact cell t ht
def VA (w : World) (v : Value) (N : Nat) (x : Nat → Int) : Prop :=
  ∃ a g o c, v = .slice a N c ∧ (0 < N → a = some ⟨g, o, none⟩ ∧ g < w.heap.size) ∧ (∀ j, j < N → ∃ sa sk sc, w.cell? ⟨g, o + j * 2, none⟩ = some (.slice sa sk sc) ∧ w.cell? ⟨g, o + j * 2 + 1, none⟩ = some (.bool (decide (x j < 0))) ∧ LN w (.slice sa sk sc) (x j).natAbs) ∧ (0 < N → ∃ arr fr, w.heap[g]? = some (.cells arr 66 fr))
theorem VA.open {w : World} {v : Value} {N : Nat} {x : Nat → Int} (h : VA w v N x) : ∃ a g o c, v = .slice a N c ∧ (0 < N → a = some ⟨g, o, none⟩ ∧ g < w.heap.size) ∧ ∀ j, j < N → ∃ sa sk sc, w.cell? ⟨g, o + j * 2, none⟩ = some (.slice sa sk sc) ∧ w.cell? ⟨g, o + j * 2 + 1, none⟩ = some (.bool (decide (x j < 0))) ∧ LN w (.slice sa sk sc) (x j).natAbs := by
  obtain ⟨a, g, o, c, e, h1, h2, _⟩ := h; exact ⟨a, g, o, c, e, h1, h2⟩
structure Wv (b N i : Nat) (f : Nat → Int) (w : World) : Prop where
  ex : ∃ cells : List Value, Cl b cells 66 w ∧ cells.length = N * 2 ∧ (∀ u ∈ cells, NI u) ∧ ∀ j, j < i → ∃ sa sk sc, cells[j * 2]? = some (.slice sa sk sc) ∧ cells[j * 2 + 1]? = some (.bool (decide (f j < 0))) ∧ LN w (.slice sa sk sc) (f j).natAbs
theorem ni_slice (a : Option Addr) (k c : Nat) : NI (.slice a k c) := fun _ _ h => by simp at h
end Go.Proofs.YtnkjadpmigpneaaGreatDoor
end

section
set_option linter.unusedSimpArgs false
set_option linter.unusedVariables false
set_option maxRecDepth 100000
namespace Go.Proofs.YtnkjadpmigpneaaGreatDoor
namespace BN
def ch : Nat → Nat → Nat
  | _, 0 => 1
  | 0, _ + 1 => 0
  | n + 1, k + 1 => ch n k + ch n (k + 1)
theorem ch_zero (n : Nat) : ch n 0 = 1 := by cases n <;> rfl
theorem ch_none (k : Nat) : ch 0 (k + 1) = 0 := rfl
theorem ch_succ (n k : Nat) : ch (n + 1) (k + 1) = ch n k + ch n (k + 1) := rfl
theorem ch_over : ∀ n k : Nat, n < k → ch n k = 0
  | 0, 0, h => by omega
  | 0, k + 1, _ => rfl
  | n + 1, 0, h => by omega
  | n + 1, k + 1, h => by rw [ch_succ, ch_over n k (by omega), ch_over n (k + 1) (by omega)]
theorem ch_all : ∀ n : Nat, ch n n = 1
  | 0 => rfl
  | n + 1 => by rw [ch_succ, ch_all n, ch_over n (n + 1) (by omega)]
theorem ch_mul : ∀ n k : Nat, (k + 1) * ch (n + 1) (k + 1) = (n + 1) * ch n k
  | 0, 0 => rfl
  | 0, k + 1 => by rw [ch_succ, ch_none, ch_none]; simp
  | n + 1, 0 => by
    have h := ch_mul n 0
    rw [ch_zero] at h
    rw [ch_succ (n + 1) 0, ch_zero]
    omega
  | n + 1, k + 1 => by
    have h1 := ch_mul n k
    have h2 := ch_mul n (k + 1)
    rw [ch_succ (n + 1) (k + 1)]
    have e : (k + 1 + 1) * (ch (n + 1) (k + 1) + ch (n + 1) (k + 1 + 1)) = ((k + 1) * ch (n + 1) (k + 1) + ch (n + 1) (k + 1)) + (k + 1 + 1) * ch (n + 1) (k + 1 + 1) := by
      rw [Nat.mul_add, Nat.add_mul (k + 1) 1, Nat.one_mul]
    rw [e, h1, h2, ch_succ n k]
    generalize ch n k = a
    generalize ch n (k + 1) = b
    grind
theorem ch_step (n k : Nat) (h : k ≤ n) : ch n k * (n - k) = ch n (k + 1) * (k + 1) := by
  have h1 := ch_mul n k
  rw [ch_succ] at h1
  obtain ⟨d, rfl⟩ : ∃ d, n = k + d := ⟨n - k, by omega⟩
  rw [show k + d - k = d by omega]
  generalize ch (k + d) k = a at *
  generalize ch (k + d) (k + 1) = b at *
  have e1 : (k + 1) * (a + b) = (k + 1) * a + b * (k + 1) := by rw [Nat.mul_add, Nat.mul_comm (k + 1) b]
  have e2 : (k + d + 1) * a = (k + 1) * a + a * d := by rw [show k + d + 1 = (k + 1) + d by omega, Nat.add_mul, Nat.mul_comm d a]
  omega
theorem ch_le : ∀ n k : Nat, ch n k ≤ 2 ^ n
  | 0, 0 => by decide
  | 0, k + 1 => by rw [ch_none]; omega
  | n + 1, 0 => by rw [ch_zero]; exact Nat.pow_pos (by decide)
  | n + 1, k + 1 => by
    have h1 := ch_le n k
    have h2 := ch_le n (k + 1)
    rw [ch_succ, Nat.pow_succ]
    omega
def sm (f : Nat → Int) : Nat → Int
  | 0 => 0
  | j + 1 => sm f j + f j
theorem sm_succ (f : Nat → Int) (j : Nat) : sm f (j + 1) = sm f j + f j := rfl
theorem sm_first (f : Nat → Int) : ∀ j, sm f (j + 1) = f 0 + sm (fun i => f (i + 1)) j
  | 0 => by simp [sm]
  | j + 1 => by rw [sm_succ, sm_first f j, sm_succ]; omega
theorem sm_congr {f g : Nat → Int} : ∀ j, (∀ i, i < j → f i = g i) → sm f j = sm g j
  | 0, _ => rfl
  | j + 1, h => by rw [sm_succ, sm_succ, sm_congr j (fun i hi => h i (by omega)), h j (by omega)]
theorem sm_add (f g : Nat → Int) : ∀ j, sm (fun i => f i + g i) j = sm f j + sm g j
  | 0 => rfl
  | j + 1 => by rw [sm_succ, sm_add f g j, sm_succ, sm_succ]; omega
theorem sm_mul (c : Int) (f : Nat → Int) : ∀ j, sm (fun i => c * f i) j = c * sm f j
  | 0 => by simp [sm]
  | j + 1 => by rw [sm_succ, sm_mul c f j, sm_succ, Int.mul_add]
theorem sm_neg (f : Nat → Int) : ∀ j, sm (fun i => -f i) j = -sm f j
  | 0 => rfl
  | j + 1 => by rw [sm_succ, sm_neg f j, sm_succ]; omega
theorem sm_abs {f : Nat → Int} {M : Nat} : ∀ j, (∀ i, i < j → (f i).natAbs ≤ M) → (sm f j).natAbs ≤ j * M
  | 0, _ => by simp [sm]
  | j + 1, h => by
    have h1 := sm_abs j (fun i hi => h i (by omega))
    have h2 := h j (by omega)
    rw [sm_succ, Nat.add_mul, Nat.one_mul]
    omega
def sgn : Nat → Int
  | 0 => 1
  | i + 1 => -sgn i
theorem sgn_even : ∀ i, sgn i = if i % 2 = 1 then -1 else 1
  | 0 => rfl
  | i + 1 => by
    show -sgn i = _
    rw [sgn_even i]
    by_cases h : i % 2 = 1
    · rw [if_pos h, if_neg (by omega)]; rfl
    · rw [if_neg h, if_pos (by omega)]
def tm (n k j : Nat) : Int := sgn j * ((ch k j : Int) * ((k : Int) - j) ^ n)
def al (n k : Nat) : Int := sm (tm n k) (k + 1)
def st : Nat → Nat → Nat
  | 0, 0 => 1
  | 0, _ + 1 => 0
  | _ + 1, 0 => 0
  | n + 1, k + 1 => (k + 1) * st n (k + 1) + st n k
def fac : Nat → Nat
  | 0 => 1
  | k + 1 => fac k * (k + 1)
theorem fac_pos : ∀ k, 0 < fac k
  | 0 => by decide
  | k + 1 => Nat.mul_pos (fac_pos k) (by omega)
theorem fac_le : ∀ k j, k ≤ 200 → k ≤ j → fac k ≤ 256 ^ j
  | 0, j, _, _ => Nat.pow_pos (by decide)
  | k + 1, j, h, hj => by
    obtain ⟨i, rfl⟩ : ∃ i, j = i + 1 := ⟨j - 1, by omega⟩
    have := fac_le k i (by omega) (by omega)
    rw [Nat.pow_succ]
    exact Nat.mul_le_mul this (by omega)
def md (n k i : Nat) : Int := sgn i * ((ch k i : Int) * ((k : Int) + 1 - i) ^ n)
theorem al_two (n k : Nat) : al n (k + 1) + al n k = sm (md n k) (k + 1) := by
  have h1 : al n (k + 1) = sm (md n k) (k + 2) + -al n k := by
    unfold al
    rw [sm_first, sm_first (md n k) (k + 1)]
    have e0 : tm n (k + 1) 0 = md n k 0 := by unfold tm md; rw [ch_zero, ch_zero]; simp
    have e1 : sm (fun i => tm n (k + 1) (i + 1)) (k + 1) = sm (fun i => md n k (i + 1) + -tm n k i) (k + 1) := by
      refine sm_congr _ fun i hi => ?_
      unfold tm md
      rw [ch_succ]
      show -sgn i * _ = -sgn i * _ + -(sgn i * _)
      have e2 : ((k + 1 : Nat) : Int) - ((i + 1 : Nat) : Int) = (k : Int) - i := by omega
      have e3 : (k : Int) + 1 - ((i + 1 : Nat) : Int) = (k : Int) - i := by omega
      rw [e2, e3]
      generalize ((k : Int) - i) ^ n = x
      have : ((ch k i + ch k (i + 1) : Nat) : Int) = (ch k i : Int) + (ch k (i + 1) : Int) := by omega
      rw [this]
      grind
    rw [e0, e1, sm_add, sm_neg]
    omega
  rw [h1, sm_succ]
  have : md n k (k + 1) = 0 := by unfold md; rw [ch_over k (k + 1) (by omega)]; simp
  rw [this]
  omega
theorem al_up (n k : Nat) : al (n + 1) (k + 1) = ((k : Int) + 1) * (al n (k + 1) + al n k) := by
  rw [al_two, ← sm_mul]
  have h : al (n + 1) (k + 1) = sm (fun i => ((k : Int) + 1) * md n k i) (k + 2) := by
    unfold al
    refine sm_congr _ fun i hi => ?_
    unfold tm md
    have e2 : ((k + 1 : Nat) : Int) - (i : Int) = (k : Int) + 1 - i := by omega
    rw [e2]
    have e3 : (ch (k + 1) i : Int) * ((k : Int) + 1 - i) = ((k : Int) + 1) * (ch k i : Int) := by
      cases i with
      | zero => rw [ch_zero, ch_zero]; simp
      | succ i =>
        have h1 := ch_step (k + 1) (i + 1)
        by_cases hk : i + 1 ≤ k
        · have h2 := ch_mul k (i + 1)
          have h3 := h1 (by omega)
          have h4 : ch (k + 1) (i + 1) * (k + 1 - (i + 1)) = (k + 1) * ch k (i + 1) := by rw [h3, Nat.mul_comm]; exact h2
          have h5 : ((ch (k + 1) (i + 1) * (k + 1 - (i + 1)) : Nat) : Int) = (((k + 1) * ch k (i + 1) : Nat) : Int) := by rw [h4]
          rw [Int.natCast_mul, Int.natCast_mul] at h5
          rw [show (((k + 1 - (i + 1) : Nat)) : Int) = (k : Int) + 1 - ((i + 1 : Nat) : Int) by omega] at h5
          rw [h5]
          rfl
        · obtain rfl : i = k := by omega
          rw [ch_over i (i + 1) (by omega), show (i : Int) + 1 - ((i + 1 : Nat) : Int) = 0 by omega]
          simp
    rw [Int.pow_succ]
    generalize ((k : Int) + 1 - i) ^ n = x
    generalize (k : Int) + 1 - i = y at *
    grind
  rw [h, sm_succ]
  have : md n k (k + 1) = 0 := by unfold md; rw [ch_over k (k + 1) (by omega)]; simp
  rw [this]
  omega
theorem al_null : ∀ k, al 0 (k + 1) = 0 := fun k => by
  have h := al_two 0 k
  have e : sm (md 0 k) (k + 1) = al 0 k := by
    unfold al
    refine sm_congr _ fun i hi => ?_
    unfold md tm
    rw [Int.pow_zero, Int.pow_zero]
  omega
theorem al_is : ∀ n k : Nat, al n k = ((fac k * st n k : Nat) : Int)
  | 0, 0 => by decide
  | 0, k + 1 => by rw [al_null]; show (0 : Int) = ((fac (k + 1) * 0 : Nat) : Int); simp
  | n + 1, 0 => by
    show sm (tm (n + 1) 0) 1 = ((fac 0 * 0 : Nat) : Int)
    simp [sm, tm, Int.pow_succ]
  | n + 1, k + 1 => by
    rw [al_up, al_is n (k + 1), al_is n k]
    show ((k : Int) + 1) * (((fac k * (k + 1) * st n (k + 1) : Nat) : Int) + _) = ((fac k * (k + 1) * ((k + 1) * st n (k + 1) + st n k) : Nat) : Int)
    generalize st n (k + 1) = a
    generalize st n k = b
    generalize fac k = c
    simp only [Int.natCast_mul, Int.natCast_add, Int.natCast_one]
    grind
theorem int_pow_abs (x : Int) : ∀ n : Nat, (x ^ n).natAbs = x.natAbs ^ n
  | 0 => by rw [Int.pow_zero]; rfl
  | n + 1 => by rw [Int.pow_succ, Int.natAbs_mul, int_pow_abs x n, Nat.pow_succ]
theorem sgn_abs (j : Nat) : (sgn j).natAbs = 1 := by rw [sgn_even]; split <;> rfl
theorem tm_le {n k j : Nat} (hn : n ≤ 200) (hk : k ≤ 200) (hj : j ≤ k) : (tm n k j).natAbs ≤ 2 ^ 200 * 256 ^ 200 := by
  unfold tm
  rw [Int.natAbs_mul, Int.natAbs_mul, sgn_abs, int_pow_abs, Nat.one_mul, Int.natAbs_natCast]
  refine Nat.mul_le_mul (Nat.le_trans (ch_le k j) (Nat.pow_le_pow_right (by decide) hk)) ?_
  exact Nat.le_trans (Nat.pow_le_pow_left (show ((k : Int) - j).natAbs ≤ 256 by omega) n) (Nat.pow_le_pow_right (by decide) hn)
theorem sm_pw {n k j : Nat} (hn : n ≤ 200) (hk : k ≤ 200) (hj : j ≤ k + 1) : (sm (tm n k) j).natAbs < pw 64 := by
  have h := sm_abs (f := tm n k) (M := 2 ^ 200 * 256 ^ 200) j (fun i hi => tm_le hn hk (by omega))
  have h2 : j * (2 ^ 200 * 256 ^ 200) ≤ 201 * (2 ^ 200 * 256 ^ 200) := Nat.mul_le_mul_right _ (by omega)
  have h3 : 201 * (2 ^ 200 * 256 ^ 200) < pw 64 := by decide +kernel
  omega
def pk (k : Nat) : Nat → Nat
  | 0 => 0
  | n + 1 => pk k n + (n + 1) ^ k
end BN
end Go.Proofs.YtnkjadpmigpneaaGreatDoor
end
