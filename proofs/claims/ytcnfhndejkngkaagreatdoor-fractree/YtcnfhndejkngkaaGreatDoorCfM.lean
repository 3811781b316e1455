/- The list of a root: Lagrange's complete quotients, norms, and Pell's solution; Bhaskara's cyclic way: plain facts. -/
import Derived.Test.YtcnfhndejkngkaaGreatDoorJtO
set_option linter.unusedSimpArgs false
set_option linter.unusedVariables false
set_option maxRecDepth 100000
namespace Go.Proofs.YtcnfhndejkngkaaGreatDoor.CfM
/-- What a complete quotient of the root of d is: (p + root) / q, behind the first; r is the root's whole part. -/
structure Cq (d r p q : Int) : Prop where
  dvd : q ∣ d - p * p
  qp : 1 ≤ q
  p1 : 1 ≤ p
  pr : p ≤ r
  lo : r + 1 ≤ p + q
  hi : q ≤ p + r
structure Rt (d r : Int) : Prop where
  r1 : 1 ≤ r
  lo : r * r < d
  hi : d < (r + 1) * (r + 1)
def kq (r p q : Int) : Int := (p + r) / q
def np (r p q : Int) : Int := kq r p q * q - p
def nq (d r p q : Int) : Int := (d - np r p q * np r p q) / q
theorem np_def (r p q : Int) : kq r p q * q = np r p q + p := by unfold np; omega
theorem Cq.k1 {d r p q : Int} (h : Cq d r p q) : 1 ≤ kq r p q := by
  unfold kq; exact (Int.le_ediv_iff_mul_le (by have := h.qp; omega)).2 (by have := h.hi; omega)
theorem Cq.kle {d r p q : Int} (h : Cq d r p q) : kq r p q ≤ p + r := by
  unfold kq; exact Int.ediv_le_self _ (by have := h.p1; have := h.pr; omega)
theorem Cq.np_bd {d r p q : Int} (h : Cq d r p q) : np r p q ≤ r ∧ r + 1 ≤ np r p q + q := by
  have e := np_def r p q
  have h1 := Int.mul_ediv_add_emod (p + r) q
  have h2 := Int.emod_nonneg (p + r) (show q ≠ 0 by have := h.qp; omega)
  have h3 := Int.emod_lt_of_pos (p + r) (show 0 < q by have := h.qp; omega)
  have h4 : q * ((p + r) / q) = kq r p q * q := by unfold kq; rw [Int.mul_comm]
  omega
theorem Cq.np1 {d r p q : Int} (h : Cq d r p q) : 1 ≤ np r p q := by
  have e := np_def r p q
  have h0 := h.np_bd
  have hk := h.k1
  have h1 : 1 * q ≤ kq r p q * q := Int.mul_le_mul_of_nonneg_right hk (by have := h.qp; omega)
  have := h.pr
  by_cases hq : q ≤ r
  · omega
  · omega
theorem Cq.nq_eq {d r p q : Int} (h : Cq d r p q) : nq d r p q * q = d - np r p q * np r p q := by
  unfold nq
  apply Int.ediv_mul_cancel
  have e := np_def r p q
  obtain ⟨c, hc⟩ := h.dvd
  refine ⟨c + (2 * p * kq r p q - kq r p q * kq r p q * q), ?_⟩
  have : np r p q = kq r p q * q - p := by omega
  rw [this]; clear e this
  generalize kq r p q = k at *
  grind
theorem Cq.next {d r p q : Int} (hr : Rt d r) (h : Cq d r p q) : Cq d r (np r p q) (nq d r p q) := by
  obtain ⟨hb1, hb2⟩ := h.np_bd
  have hp1 := h.np1
  have he := h.nq_eq
  have hk := h.k1
  have hn := np_def r p q
  have hq0 := h.qp
  have hpr := h.pr
  have hpp : np r p q * np r p q ≤ r * r := Int.mul_le_mul hb1 hb1 (by omega) (by have := hr.r1; omega)
  have hlo := hr.lo
  have hhi := hr.hi
  have hq1 : 1 * q ≤ kq r p q * q := Int.mul_le_mul_of_nonneg_right hk (by omega)
  generalize np r p q = P at *
  generalize nq d r p q = Q at *
  generalize kq r p q = k at *
  have hQ1 : 1 ≤ Q := by
    rcases Int.lt_or_le Q 1 with h1 | h1
    · have : Q * q ≤ 0 * q := Int.mul_le_mul_of_nonneg_right (by omega) (by omega)
      omega
    · exact h1
  refine ⟨⟨q, by omega⟩, hQ1, hp1, hb1, ?_, ?_⟩
  · rcases Int.lt_or_le (P + Q) (r + 1) with h1 | h1
    · have h2 : Q * q ≤ (r - P) * (r + P) := Int.mul_le_mul (by omega) (by omega) (by omega) (by omega)
      have h3 : (r - P) * (r + P) = r * r - P * P := by grind
      omega
    · exact h1
  · rcases Int.lt_or_le (P + r) Q with h1 | h1
    · have h2 : (P + r + 1) * (r + 1 - P) ≤ Q * q := Int.mul_le_mul (by omega) (by omega) (by omega) (by omega)
      have h3 : (P + r + 1) * (r + 1 - P) = (r + 1) * (r + 1) - P * P := by grind
      omega
    · exact h1
theorem Cq.start {d r : Int} (hr : Rt d r) : Cq d r r (d - r * r) := by
  have h1 := hr.r1
  have h2 := hr.lo
  have h3 := hr.hi
  have h4 : (r + 1) * (r + 1) = r * r + 2 * r + 1 := by grind
  exact ⟨⟨1, by omega⟩, by omega, by omega, by omega, by omega, by omega⟩
/-- The end: q is 1 just where the whole part is 2 r. -/
theorem Cq.end_iff {d r p q : Int} (hr : Rt d r) (h : Cq d r p q) : kq r p q = 2 * r ↔ q = 1 := by
  have h1 := hr.r1
  have h2 := h.lo
  have h3 := h.pr
  constructor
  · intro e
    rcases Int.lt_or_le 1 q with h5 | h5
    · have := np_def r p q
      have h6 := h.np_bd
      have h7 : 2 * (2 * r) ≤ q * (2 * r) := Int.mul_le_mul_of_nonneg_right (by omega) (by omega)
      rw [e, Int.mul_comm] at this
      omega
    · have := h.qp; omega
  · intro e; subst e
    have : p = r := by omega
    subst this; unfold kq; omega
theorem end_next (d r : Int) : np r r 1 = r ∧ nq d r r 1 = d - r * r := by
  have e : np r r 1 = r := by unfold np kq; omega
  exact ⟨e, by unfold nq; rw [e]; simp⟩
/-- The norms of two fractions that follow each other; s is 1 or -1. -/
structure Nr (d s P0 Q0 P1 Q1 p q : Int) : Prop where
  c : P1 * P1 - d * (Q1 * Q1) = -s * q
  m : P1 * P0 - d * (Q1 * Q0) = s * p
  b : (P0 * P0 - d * (Q0 * Q0)) * q = s * (d - p * p)
theorem Nr.start (d r : Int) : Nr d 1 1 0 r 1 r (d - r * r) := ⟨by grind, by grind, by grind⟩
theorem Nr.next {d s P0 Q0 P1 Q1 r p q : Int} (h : Nr d s P0 Q0 P1 Q1 p q) (hc : Cq d r p q) :
    Nr d (-s) P1 Q1 (P0 + kq r p q * P1) (Q0 + kq r p q * Q1) (np r p q) (nq d r p q) := by
  have he := hc.nq_eq
  have hn := np_def r p q
  obtain ⟨h1, h2, h3⟩ := h
  have hq := hc.qp
  generalize np r p q = P at *
  generalize nq d r p q = Q at *
  generalize kq r p q = k at *
  have hP : P = k * q - p := by omega
  refine ⟨?_, ?_, ?_⟩
  · apply Int.eq_of_mul_eq_mul_right (show q ≠ 0 by omega)
    subst hP
    grind
  · subst hP; grind
  · grind
/-- The complete quotients of the root, one after the other. -/
def cs (d r : Nat) : Nat → Nat × Nat
  | 0 => (r, d - r * r)
  | i + 1 => let k := ((cs d r i).1 + r) / (cs d r i).2
             let p := k * (cs d r i).2 - (cs d r i).1
             (p, (d - p * p) / (cs d r i).2)
def cl (d r i : Nat) : Nat := ((cs d r i).1 + r) / (cs d r i).2
/-- The fractions: the one ahead, and the last. -/
def st (d r : Nat) : Nat → (Nat × Nat) × (Nat × Nat)
  | 0 => ((1, 0), (r, 1))
  | i + 1 => ((st d r i).2, ((st d r i).1.1 + cl d r i * (st d r i).2.1, (st d r i).1.2 + cl d r i * (st d r i).2.2))
structure Rn (d r : Nat) : Prop where
  r1 : 1 ≤ r
  lo : r * r < d
  hi : d < (r + 1) * (r + 1)
theorem Rn.rt {d r : Nat} (h : Rn d r) : Rt (d : Int) r := by
  refine ⟨by have := h.r1; omega, ?_, ?_⟩
  · have := h.lo; rw [← Int.natCast_mul]; omega
  · have := h.hi
    have e : ((r : Int) + 1) * ((r : Int) + 1) = (((r + 1) * (r + 1) : Nat) : Int) := by rw [Int.natCast_mul, Int.natCast_add]; rfl
    rw [e]; omega
theorem cs_cq {d r : Nat} (h : Rn d r) (i : Nat) : Cq (d : Int) r ((cs d r i).1 : Nat) ((cs d r i).2 : Nat) ∧
    (((cs d r (i + 1)).1 : Nat) : Int) = np r ((cs d r i).1 : Nat) ((cs d r i).2 : Nat) ∧ (((cs d r (i + 1)).2 : Nat) : Int) = nq d r ((cs d r i).1 : Nat) ((cs d r i).2 : Nat) ∧ ((cl d r i : Nat) : Int) = kq r ((cs d r i).1 : Nat) ((cs d r i).2 : Nat) := by
  have key : ∀ i, Cq (d : Int) r ((cs d r i).1 : Nat) ((cs d r i).2 : Nat) → (((cs d r (i + 1)).1 : Nat) : Int) = np r ((cs d r i).1 : Nat) ((cs d r i).2 : Nat) ∧ (((cs d r (i + 1)).2 : Nat) : Int) = nq d r ((cs d r i).1 : Nat) ((cs d r i).2 : Nat) ∧ ((cl d r i : Nat) : Int) = kq r ((cs d r i).1 : Nat) ((cs d r i).2 : Nat) := by
    intro i hc
    have hp1 := hc.np1
    have hb := hc.np_bd
    have he := hc.nq_eq
    have hk : ((cl d r i : Nat) : Int) = kq r ((cs d r i).1 : Nat) ((cs d r i).2 : Nat) := by
      unfold cl kq; rw [Int.natCast_ediv, Int.natCast_add]
    have hn := np_def (r : Int) ((cs d r i).1 : Nat) ((cs d r i).2 : Nat)
    have h1 : (((cs d r (i + 1)).1 : Nat) : Int) = np r ((cs d r i).1 : Nat) ((cs d r i).2 : Nat) := by
      show ((cl d r i * (cs d r i).2 - (cs d r i).1 : Nat) : Int) = _
      have : (cl d r i : Int) * ((cs d r i).2 : Nat) = ((cl d r i * (cs d r i).2 : Nat) : Int) := by rw [Int.natCast_mul]
      rw [← hk, this] at hn
      omega
    refine ⟨h1, ?_, hk⟩
    show (((d - (cs d r (i + 1)).1 * (cs d r (i + 1)).1) / (cs d r i).2 : Nat) : Int) = _
    have hr1 := h.rt
    have hpp : np (r : Int) ((cs d r i).1 : Nat) ((cs d r i).2 : Nat) * np (r : Int) ((cs d r i).1 : Nat) ((cs d r i).2 : Nat) ≤ (r : Int) * r := Int.mul_le_mul hb.1 hb.1 (by omega) (by omega)
    have hlo := hr1.lo
    unfold nq
    rw [Int.natCast_ediv]
    congr 1
    rw [← h1] at hpp ⊢
    rw [← Int.natCast_mul] at hpp ⊢
    rw [← Int.natCast_mul] at hpp hlo
    omega
  have hall : ∀ i, Cq (d : Int) r ((cs d r i).1 : Nat) ((cs d r i).2 : Nat) := by
    intro i
    induction i with
    | zero =>
      have h1 := Cq.start h.rt
      have h2 := h.lo
      have e : ((d - r * r : Nat) : Int) = (d : Int) - r * r := by rw [← Int.natCast_mul]; omega
      show Cq (d : Int) r r ((d - r * r : Nat) : Int)
      rw [e]; exact h1
    | succ i ih =>
      obtain ⟨h1, h2, _⟩ := key i ih
      rw [h1, h2]; exact ih.next h.rt
  exact ⟨hall i, key i (hall i)⟩
theorem cs_bd {d r : Nat} (h : Rn d r) (i : Nat) : 1 ≤ (cs d r i).1 ∧ (cs d r i).1 ≤ r ∧ 1 ≤ (cs d r i).2 ∧ (cs d r i).2 ≤ 2 * r ∧ 1 ≤ cl d r i ∧ cl d r i ≤ 2 * r ∧ (cl d r i = 2 * r ↔ (cs d r i).2 = 1) := by
  obtain ⟨h1, h2, h3, h4⟩ := cs_cq h i
  have a1 := h1.p1; have a2 := h1.pr; have a3 := h1.qp; have a4 := h1.hi; have a5 := h1.k1; have a6 := h1.kle; have a7 := h1.end_iff h.rt
  rw [← h4] at a5 a6 a7
  refine ⟨by omega, by omega, by omega, by omega, by omega, by omega, ?_⟩
  constructor
  · intro e; have := a7.1 (by omega); omega
  · intro e; have := a7.2 (by omega); omega
/-- Behind the end it comes again. -/
theorem cs_again {d r n : Nat} (h : Rn d r) (hn : (cs d r n).2 = 1) (i : Nat) : cs d r (n + 1 + i) = cs d r i := by
  induction i with
  | zero =>
    obtain ⟨h1, h2, h3, h4⟩ := cs_cq h n
    have hp : (cs d r n).1 = r := by have a := h1.lo; have b := h1.pr; rw [hn] at a; omega
    show ((((cs d r n).1 + r) / (cs d r n).2 * (cs d r n).2 - (cs d r n).1, _) : Nat × Nat) = (r, d - r * r)
    simp only [hn, hp]
    simp
  | succ i ih =>
    show cs d r (n + 1 + i + 1) = cs d r (i + 1)
    rw [cs, cs, ih]
def sgn (i : Nat) : Int := if i % 2 = 0 then 1 else -1
theorem st_nr {d r : Nat} (h : Rn d r) (i : Nat) : Nr (d : Int) (sgn i) ((st d r i).1.1 : Nat) ((st d r i).1.2 : Nat) ((st d r i).2.1 : Nat) ((st d r i).2.2 : Nat) ((cs d r i).1 : Nat) ((cs d r i).2 : Nat) := by
  induction i with
  | zero =>
    have h2 := h.lo
    have e : ((d - r * r : Nat) : Int) = (d : Int) - r * r := by rw [← Int.natCast_mul]; omega
    show Nr (d : Int) 1 1 0 r 1 r ((d - r * r : Nat) : Int)
    rw [e]; exact Nr.start d r
  | succ i ih =>
    obtain ⟨h1, h2, h3, h4⟩ := cs_cq h i
    have h5 := ih.next h1
    have e : sgn (i + 1) = - sgn i := by unfold sgn; split <;> split <;> omega
    rw [e, h2, h3]
    rw [← h4] at h5
    simpa [st] using h5
theorem st_pell {d r n : Nat} (h : Rn d r) (ho : n % 2 = 1) (hq : (cs d r n).2 = 1) : (st d r n).2.1 * (st d r n).2.1 = d * ((st d r n).2.2 * (st d r n).2.2) + 1 := by
  have h1 := (st_nr h n).c
  rw [hq] at h1
  have e : sgn n = -1 := by unfold sgn; rw [if_neg (by omega)]
  rw [e, ← Int.natCast_mul, ← Int.natCast_mul, ← Int.natCast_mul] at h1
  omega
theorem st_pos {d r : Nat} (h : Rn d r) (i : Nat) : 1 ≤ (st d r i).2.2 := by
  have : ∀ i, 1 ≤ (st d r i).2.2 := by
    intro i
    induction i with
    | zero => exact Nat.le_refl _
    | succ i ih =>
      have := (cs_bd h i).2.2.2.2.1
      have := Nat.mul_le_mul this ih
      simp only [st]; omega
  exact this i
/-- How great they grow. -/
theorem st_lt {d r : Nat} (h : Rn d r) (hr : 2 * r + 1 < 1000000000) (i : Nat) : (st d r i).1.1 < 1000000000 ^ (i + 1) ∧ (st d r i).1.2 < 1000000000 ^ (i + 1) ∧ (st d r i).2.1 < 1000000000 ^ (i + 1) ∧ (st d r i).2.2 < 1000000000 ^ (i + 1) := by
  induction i with
  | zero => simp [st]; have := h.r1; omega
  | succ i ih =>
    obtain ⟨h1, h2, h3, h4⟩ := ih
    have hc := (cs_bd h i).2.2.2.2.2.1
    have hp : 1000000000 ^ (i + 1 + 1) = 1000000000 ^ (i + 1) * 1000000000 := Nat.pow_succ ..
    rw [hp]
    generalize 1000000000 ^ (i + 1) = B at *
    have g : ∀ x y, x < B → y < B → x + cl d r i * y < B * 1000000000 := by
      intro x y hx hy
      have e1 : cl d r i * y ≤ (2 * r) * B := Nat.mul_le_mul hc (by omega)
      have e2 : (2 * r + 1) * B ≤ 999999999 * B := Nat.mul_le_mul_right _ (by omega)
      rw [Nat.add_mul] at e2
      omega
    refine ⟨by simp only [st]; omega, by simp only [st]; omega, g _ _ h1 h3, g _ _ h2 h4⟩
/-- Pell's solution by the list of the root. -/
def pel (d r : Nat) : Nat → Nat → Nat → Nat → Nat → Nat → Nat → Bool → Option (Nat × Nat)
  | 0, _, _, _, _, _, _, _ => none
  | n + 1, p, q, P0, Q0, P1, Q1, s =>
    if q == 1 && s then some (P1, Q1) else
      let k := (p + r) / q
      let p' := k * q - p
      pel d r n p' ((d - p' * p') / q) P1 Q1 (P0 + k * P1) (Q0 + k * Q1) (!s)
theorem pel_st {d r : Nat} (n i : Nat) (X : Nat × Nat) (h : pel d r n (cs d r i).1 (cs d r i).2 (st d r i).1.1 (st d r i).1.2 (st d r i).2.1 (st d r i).2.2 (decide (i % 2 = 1)) = some X) :
    ∃ j, i ≤ j ∧ (cs d r j).2 = 1 ∧ j % 2 = 1 ∧ X = (st d r j).2 ∧ ∀ k, i ≤ k → k < j → ¬ ((cs d r k).2 = 1 ∧ k % 2 = 1) := by
  induction n generalizing i with
  | zero => simp [pel] at h
  | succ n ih =>
    unfold pel at h
    split at h
    · rename_i h1
      simp at h1 h
      exact ⟨i, Nat.le_refl _, h1.1, h1.2, h.symm, fun k a b => by omega⟩
    · rename_i h1
      simp at h1
      simp only at h
      have e : (!decide (i % 2 = 1)) = decide ((i + 1) % 2 = 1) := by
        rcases Nat.mod_two_eq_zero_or_one i with h2 | h2
        · have : (i + 1) % 2 = 1 := by omega
          simp [h2, this]
        · have : (i + 1) % 2 = 0 := by omega
          simp [h2, this]
      rw [e] at h
      obtain ⟨j, a1, a2, a3, a4, a5⟩ := ih (i + 1) h
      refine ⟨j, by omega, a2, a3, a4, fun k b1 b2 => ?_⟩
      by_cases hk : k = i
      · subst hk; rintro ⟨c1, c2⟩; have := h1 c1; omega
      · exact a5 k (by omega) b2
/-- The length of the list that Pell goes through. -/
def NN (n : Nat) : Nat := if n % 2 = 0 then n else 2 * n
theorem pel_is {d r n fuel : Nat} (h : Rn d r) (hn : 1 ≤ n) (hq : (cs d r (n - 1)).2 = 1) (hl : ∀ i, i < n - 1 → (cs d r i).2 ≠ 1) {X : Nat × Nat}
    (hp : pel d r fuel r (d - r * r) 1 0 r 1 false = some X) : X = (st d r (NN n - 1)).2 ∧ (cs d r (NN n - 1)).2 = 1 ∧ (NN n - 1) % 2 = 1 := by
  obtain ⟨j, _, h2, h3, h4, h5⟩ := pel_st (d := d) (r := r) fuel 0 X hp
  have hN : (cs d r (NN n - 1)).2 = 1 ∧ (NN n - 1) % 2 = 1 := by
    unfold NN
    split
    · exact ⟨hq, by omega⟩
    · have := cs_again h hq (n - 1)
      rw [show n - 1 + 1 + (n - 1) = 2 * n - 1 by omega] at this
      exact ⟨by rw [this]; exact hq, by omega⟩
  refine ⟨?_, hN⟩
  have : j = NN n - 1 := by
    rcases Nat.lt_trichotomy j (NN n - 1) with g | g | g
    · exfalso
      unfold NN at g
      split at g
      · exact hl j g h2
      · by_cases g1 : j < n - 1
        · exact hl j g1 h2
        · by_cases g2 : j = n - 1
          · omega
          · have := cs_again h hq (j - n)
            rw [show n - 1 + 1 + (j - n) = j by omega] at this
            exact hl (j - n) (by omega) (by rw [← this]; exact h2)
    · exact g
    · exact (h5 _ (Nat.zero_le _) g hN).elim
  rw [h4, this]
def pickm (d r K m : Nat) : Nat :=
  let t0 := (K - m % K) % K
  if t0 ≤ r then
    let lo := r - (r - t0) % K
    if lo ≥ 1 ∧ d - lo * lo ≤ (lo + K) * (lo + K) - d then lo else lo + K
  else t0
/-- How far a square lies from d. -/
def di (d t : Nat) : Nat := ((t : Int) * t - d).natAbs
/-- The first of the nearest. -/
structure Bst (d : Nat) (C : Nat → Prop) (m : Nat) : Prop where
  c : C m
  le : ∀ t, C t → di d m ≤ di d t
  lt : ∀ t, C t → t < m → di d m < di d t
theorem Bst.uniq {d m n : Nat} {C : Nat → Prop} (h : Bst d C m) (k : Bst d C n) : m = n := by
  rcases Nat.lt_trichotomy m n with h1 | h1 | h1
  · have := k.lt m h.c h1; have := h.le n k.c; omega
  · exact h1
  · have := h.lt n k.c h1; have := k.le m h.c; omega
theorem sq_le {a b : Nat} (h : a ≤ b) : a * a ≤ b * b := Nat.mul_le_mul h h
theorem sq_lt {a b : Nat} (h : a < b) : a * a < b * b := Nat.mul_lt_mul_of_le_of_lt (Nat.le_of_lt h) h (by omega)
theorem di_lo {d t : Nat} (h : t * t ≤ d) : di d t = d - t * t := by
  unfold di; rw [← Int.natCast_mul]; omega
theorem di_hi {d t : Nat} (h : d ≤ t * t) : di d t = t * t - d := by
  unfold di; rw [← Int.natCast_mul]; omega
theorem pick_cong (d r K m : Nat) (hK : 1 ≤ K) : pickm d r K m % K = (K - m % K) % K := by
  have ht := Nat.mod_lt (K - m % K) hK
  unfold pickm
  simp only
  generalize (K - m % K) % K = t0 at *
  split
  · rename_i h
    have h2 := Nat.div_add_mod (r - t0) K
    have h1 : (r - (r - t0) % K) % K = t0 := by
      have e : r - (r - t0) % K = t0 + K * ((r - t0) / K) := by omega
      rw [e, Nat.add_mul_mod_self_left, Nat.mod_eq_of_lt ht]
    split
    · exact h1
    · rw [Nat.add_mod_right]; exact h1
  · exact Nat.mod_eq_of_lt ht
/-- The nearest among all from 1 on that leave the same by K. -/
theorem pick_best (d r K m : Nat) (hK : 1 ≤ K) (hr : r * r < d) (hr2 : d < (r + 1) * (r + 1)) (h1 : 1 ≤ pickm d r K m) :
    Bst d (fun t => 1 ≤ t ∧ t % K = (K - m % K) % K) (pickm d r K m) := by
  have hc := pick_cong d r K m hK
  have ht := Nat.mod_lt (K - m % K) hK
  refine ⟨⟨h1, hc⟩, ?_, ?_⟩
  all_goals
    rintro t ⟨ht1, ht2⟩
    clear hc
    unfold pickm at *
    simp only at *
    generalize (K - m % K) % K = t0 at *
    have lows : ∀ t, t * t ≤ d → t ≤ r := fun t h => by
      rcases Nat.lt_or_ge r t with h2 | h2
      · have := sq_le (show r + 1 ≤ t by omega); omega
      · exact h2
    have lo2 : ∀ t, t ≤ r → t * t < d := fun t h => by have := sq_le h; omega
    have hi2 : ∀ t, r < t → d < t * t := fun t h => by have := sq_le (show r + 1 ≤ t by omega); omega
    have hdt := Nat.div_add_mod t K
    rw [ht2] at hdt
    by_cases h : t0 ≤ r
    · rw [if_pos h] at *
      have h2 := Nat.div_add_mod (r - t0) K
      have h3 := Nat.mod_lt (r - t0) hK
      generalize hlo : r - (r - t0) % K = lo at *
      have hle : lo ≤ r := by omega
      have hhi : r < lo + K := by omega
      have e : lo = t0 + K * ((r - t0) / K) := by omega
      have below : t ≤ r → t ≤ lo := fun h5 => by
        have : t / K ≤ (r - t0) / K := by
          rcases Nat.lt_or_ge ((r - t0) / K) (t / K) with h6 | h6
          · have := Nat.mul_le_mul_left K (show (r - t0) / K + 1 ≤ t / K by omega)
            rw [Nat.mul_add] at this; omega
          · exact h6
        have := Nat.mul_le_mul_left K this
        omega
      have above : r < t → lo + K ≤ t := fun h5 => by
        have : (r - t0) / K + 1 ≤ t / K := by
          rcases Nat.lt_or_ge (t / K) ((r - t0) / K + 1) with h6 | h6
          · have := Nat.mul_le_mul_left K (show t / K ≤ (r - t0) / K by omega)
            omega
          · exact h6
        have := Nat.mul_le_mul_left K this
        rw [Nat.mul_add] at this
        omega
      have dl := di_lo (Nat.le_of_lt (lo2 lo hle))
      have dh := di_hi (Nat.le_of_lt (hi2 (lo + K) hhi))
      by_cases h7 : lo ≥ 1 ∧ d - lo * lo ≤ (lo + K) * (lo + K) - d
      · rw [if_pos h7] at *
        by_cases h8 : t ≤ r
        · have h9 := below h8
          have d1 := di_lo (Nat.le_of_lt (lo2 t h8))
          have h10 := sq_le h9
          have := lo2 lo hle
          first
          | (intro h11; have h12 := sq_lt h11; omega)
          | omega
        · have h9 := above (by omega)
          have d1 := di_hi (Nat.le_of_lt (hi2 t (by omega)))
          have h10 := sq_le h9
          first
          | (intro h11; omega)
          | omega
      · rw [if_neg h7] at *
        by_cases h8 : t ≤ r
        · have h9 := below h8
          have d1 := di_lo (Nat.le_of_lt (lo2 t h8))
          have h10 := sq_le h9
          have := lo2 lo hle
          have := hi2 (lo + K) hhi
          first
          | (intro h11; omega)
          | omega
        · have h9 := above (by omega)
          have d1 := di_hi (Nat.le_of_lt (hi2 t (by omega)))
          have h10 := sq_le h9
          first
          | (intro h11; omega)
          | omega
    · rw [if_neg h] at *
      have h9 : t0 ≤ t := by omega
      have d0 := di_hi (Nat.le_of_lt (hi2 t0 (by omega)))
      have d1 := di_hi (Nat.le_of_lt (hi2 t (by omega)))
      have h10 := sq_le h9
      first
      | (intro h11; omega)
      | omega
/-- What is divided is told by the rest. -/
theorem cand_iff (a b K t0 t : Nat) (hg : Nat.gcd b K = 1) (h0 : (a + b * t0) % K = 0) (hK : 1 ≤ K) : (a + b * t) % K = 0 ↔ t % K = t0 % K := by
  have hz : ((a + b * t : Nat) : Int) - ((a + b * t0 : Nat) : Int) = (b : Int) * ((t : Int) - t0) := by
    rw [Int.natCast_add, Int.natCast_add, Int.natCast_mul, Int.natCast_mul, Int.mul_sub]; omega
  constructor
  · intro h
    have h1 : (K : Int) ∣ (b : Int) * ((t : Int) - t0) := by
      rw [← hz]
      exact Int.dvd_sub (Int.natCast_dvd_natCast.2 (Nat.dvd_of_mod_eq_zero h)) (Int.natCast_dvd_natCast.2 (Nat.dvd_of_mod_eq_zero h0))
    have h2 : (K : Int) ∣ (t : Int) - t0 := by
      rw [Int.ofNat_dvd_left] at h1 ⊢
      rw [Int.natAbs_mul, Int.natAbs_natCast] at h1
      exact Nat.Coprime.dvd_of_dvd_mul_left (by rw [Nat.Coprime, Nat.gcd_comm]; exact hg) h1
    have h4 : (t : Int) % K = (t0 : Int) % K := Int.emod_eq_emod_iff_emod_sub_eq_zero.2 (Int.emod_eq_zero_of_dvd h2)
    omega
  · intro h
    have h2 : (K : Int) ∣ (t : Int) - t0 := by
      apply Int.dvd_of_emod_eq_zero
      have h4 : (t : Int) % K = (t0 : Int) % K := by omega
      rw [Int.sub_emod, h4]; simp
    have h1 : (K : Int) ∣ (b : Int) * ((t : Int) - t0) := Int.dvd_mul_of_dvd_right h2
    have h5 : (K : Int) ∣ ((a + b * t : Nat) : Int) := by
      have := Int.dvd_add h1 (Int.natCast_dvd_natCast.2 (Nat.dvd_of_mod_eq_zero h0))
      rw [← hz] at this
      simpa using this
    exact Nat.mod_eq_zero_of_dvd (Int.natCast_dvd_natCast.1 h5)
/-- Bhaskara's way, each step looked at. -/
def cyc (d r : Nat) : Nat → Nat → Nat → Nat → Bool → Nat → Option (Nat × Nat)
  | 0, _, _, _, _, _ => none
  | n + 1, a, b, K, neg, m =>
    if K == 1 && !neg then some (a, b) else
      let m' := pickm d r K m
      if Nat.gcd b K == 1 && (a + b * m') % K == 0 && decide (m' * m' < 4 * d + 4) && decide (1 ≤ m') && decide (1 ≤ K) then
        let up := decide (d < m' * m')
        let D := if up then m' * m' - d else d - m' * m'
        cyc d r n ((a * m' + d * b) / K) ((a + b * m') / K) (D / K) (if up then neg else !neg) m'
      else none
/-- What is tried for m. -/
def Cd (d a b K t : Nat) : Prop := (1 ≤ t ∧ t * t < 4 * d + 4) ∧ (a + b * t) % K = 0
def sg (neg : Bool) (K : Nat) : Int := if neg then -(K : Int) else K
theorem cyc_step {d r n a b K m : Nat} {neg : Bool} {R : Nat × Nat} (hr : r * r < d) (hr2 : d < (r + 1) * (r + 1)) (h : cyc d r (n + 1) a b K neg m = some R) :
    (sg neg K = 1 ∧ R = (a, b)) ∨ (sg neg K ≠ 1 ∧ 1 ≤ K ∧ ∃ m' K' neg', Bst d (Cd d a b K) m' ∧ sg neg' K' = Int.tdiv ((m' : Int) * m' - d) (sg neg K) ∧ cyc d r n ((a * m' + d * b) / K) ((a + b * m') / K) K' neg' m' = some R) := by
  unfold cyc at h
  split at h
  · rename_i h1
    simp at h1
    obtain ⟨rfl, rfl⟩ := h1
    left
    simp at h
    exact ⟨rfl, h.symm⟩
  · rename_i h1
    simp at h1
    simp only at h
    split at h
    · rename_i h2
      simp only [Bool.and_eq_true, beq_iff_eq, decide_eq_true_eq] at h2
      obtain ⟨⟨⟨⟨hg, h0⟩, hs⟩, hm1⟩, hK⟩ := h2
      right
      refine ⟨?_, hK, pickm d r K m, _, _, ?_, ?_, h⟩
      · unfold sg; cases neg
        · simp; intro e; have := h1 (by omega); simp at this
        · simp; omega
      · have hb := pick_best d r K m hK hr hr2 hm1
        have hc := pick_cong d r K m hK
        have hi := fun t => cand_iff a b K _ t hg h0 hK
        refine ⟨⟨⟨hm1, hs⟩, h0⟩, fun t ht => hb.le t ⟨ht.1.1, ?_⟩, fun t ht => hb.lt t ⟨ht.1.1, ?_⟩⟩
        · rw [← hc]; exact (hi t).1 ht.2
        · rw [← hc]; exact (hi t).1 ht.2
      · generalize pickm d r K m = M
        by_cases hu : d < M * M
        · simp only [hu, decide_true, if_true]
          have e : (M : Int) * M - d = ((M * M - d : Nat) : Int) := by rw [← Int.natCast_mul]; omega
          rw [e]
          unfold sg; cases neg
          · simp [Int.ofNat_tdiv]
          · simp [Int.tdiv_neg, Int.ofNat_tdiv]
        · simp only [hu, decide_false, Bool.false_eq_true, if_false]
          have e : (M : Int) * M - d = -((d - M * M : Nat) : Int) := by rw [← Int.natCast_mul]; omega
          rw [e]
          unfold sg; cases neg
          · simp [Int.neg_tdiv, Int.ofNat_tdiv]
          · simp [Int.neg_tdiv, Int.tdiv_neg, Int.ofNat_tdiv]
    · cases h
end Go.Proofs.YtcnfhndejkngkaaGreatDoor.CfM
