import Derived.Lib.ItoaNum
import Derived.Test.YtfbgblidlabipaaGreatDoorRows
import Derived.WalkKit
import Derived.WalkSpells
import Derived.WalkLawsBesides
import Derived.Deep.QuietTactic
import Derived.BigQuiet
section
/- Numbers by limbs of nine decimal digits, and their texts: plain facts. -/
set_option linter.unusedSimpArgs false
set_option linter.unusedVariables false
set_option maxRecDepth 100000
namespace Go.Proofs.YtfbgblidlabipaaGreatDoor.LgM
/-- What one limb is below. -/
abbrev Bs : Nat := 1000000000
/-- The lowest k limbs of n. -/
def dgl (k n : Nat) : List Nat := (List.range k).map (fun j => n / Bs ^ j % Bs)
theorem dgl_len (k n : Nat) : (dgl k n).length = k := by simp [dgl]
theorem dgl_succ (k n : Nat) : dgl (k + 1) n = dgl k n ++ [n / Bs ^ k % Bs] := by simp [dgl, List.range_succ]
theorem dgl_get (k n i : Nat) (h : i < k) : (dgl k n)[i]? = some (n / Bs ^ i % Bs) := by simp [dgl, h]
theorem dgl_lt (k n x : Nat) (h : x ∈ dgl k n) : x < Bs := by
  simp [dgl] at h; obtain ⟨j, _, rfl⟩ := h; exact Nat.mod_lt _ (by decide)
theorem bs_pos (k : Nat) : 0 < Bs ^ k := Nat.pow_pos (by decide)
theorem pow_s (k : Nat) : Bs ^ (k + 1) = Bs ^ k * Bs := Nat.pow_succ ..
theorem div_s (n k : Nat) : n / Bs ^ (k + 1) = n / Bs ^ k / Bs := by rw [pow_s, Nat.div_div_eq_div_mul]
/-- n mod B^(k+1) -/
theorem mod_s (n k : Nat) : n % Bs ^ (k + 1) = n % Bs ^ k + Bs ^ k * (n / Bs ^ k % Bs) := by rw [pow_s, Nat.mod_mul]
theorem plus_step (x y k : Nat) : (x % Bs ^ k + y % Bs ^ k) / Bs ^ k + (x / Bs ^ k % Bs + y / Bs ^ k % Bs) = (x % Bs ^ (k+1) + y % Bs ^ (k+1)) / Bs ^ k := by
  rw [mod_s, mod_s]
  have e : x % Bs ^ k + Bs ^ k * (x / Bs ^ k % Bs) + (y % Bs ^ k + Bs ^ k * (y / Bs ^ k % Bs)) = (x % Bs ^ k + y % Bs ^ k) + Bs ^ k * (x / Bs ^ k % Bs + y / Bs ^ k % Bs) := by rw [Nat.mul_add]; omega
  rw [e, Nat.add_mul_div_left _ _ (bs_pos k)]
theorem add_div_mod (x y k : Nat) : (x + y) / Bs ^ k % Bs = (x % Bs ^ (k+1) + y % Bs ^ (k+1)) / Bs ^ k % Bs := by
  have h1 : ∀ z, z / Bs ^ k % Bs = z % Bs ^ (k + 1) / Bs ^ k := fun z => by rw [pow_s, Nat.mod_mul_right_div_self]
  rw [h1, h1 (x % Bs ^ (k+1) + y % Bs ^ (k+1)), ← Nat.add_mod]
theorem plus_carry (x y k : Nat) : (x % Bs ^ k + y % Bs ^ k) / Bs ^ k ≤ 1 := by
  have h1 := Nat.mod_lt x (bs_pos k)
  have h2 := Nat.mod_lt y (bs_pos k)
  have : (x % Bs ^ k + y % Bs ^ k) / Bs ^ k < 2 := by rw [Nat.div_lt_iff_lt_mul (bs_pos k)]; omega
  omega
theorem times_step (x t k : Nat) : x % Bs ^ k * t / Bs ^ k + x / Bs ^ k % Bs * t = x % Bs ^ (k+1) * t / Bs ^ k := by
  rw [mod_s, Nat.add_mul, Nat.mul_assoc, Nat.add_mul_div_left _ _ (bs_pos k)]
theorem mul_div_mod (x t k : Nat) : x * t / Bs ^ k % Bs = x % Bs ^ (k+1) * t / Bs ^ k % Bs := by
  have h1 : ∀ z, z / Bs ^ k % Bs = z % Bs ^ (k + 1) / Bs ^ k := fun z => by rw [pow_s, Nat.mod_mul_right_div_self]
  rw [h1, h1 (x % Bs ^ (k+1) * t), Nat.mod_mul_mod]
theorem times_carry (x t k : Nat) (ht : 0 < t) : x % Bs ^ k * t / Bs ^ k < t := by
  rw [Nat.div_lt_iff_lt_mul (bs_pos k), Nat.mul_comm]
  exact Nat.mul_lt_mul_of_pos_left (Nat.mod_lt x (bs_pos k)) ht
/-- k limbs are just those of n. -/
structure Nd (k n : Nat) : Prop where
  lt : n < Bs ^ k
  ge : k = 0 ∨ Bs ^ (k - 1) ≤ n
theorem Nd.limb {k n : Nat} (h : Nd k n) (i : Nat) (hi : k ≤ i) : n / Bs ^ i % Bs = 0 := by
  have := Nat.pow_le_pow_right (show 0 < Bs by decide) hi
  rw [Nat.div_eq_of_lt (Nat.lt_of_lt_of_le h.lt this)]; rfl
theorem Nd.le {k n m : Nat} (h : Nd k n) (hm : n < Bs ^ m) : k ≤ m := by
  rcases h.ge with h1 | h1
  · omega
  · rcases Nat.lt_or_ge m k with h2 | h2
    · have := Nat.pow_le_pow_right (show 0 < Bs by decide) (show m ≤ k - 1 by omega)
      omega
    · exact h2
theorem Nd.mod {k n i : Nat} (h : Nd k n) (hi : k ≤ i) : n % Bs ^ i = n :=
  Nat.mod_eq_of_lt (Nat.lt_of_lt_of_le h.lt (Nat.pow_le_pow_right (by decide) hi))
theorem Nd.zero : Nd 0 0 := ⟨by decide, .inl rfl⟩
theorem Nd.mono {k n m : Nat} (h : Nd k n) (hm : n ≤ m) : k = 0 ∨ Bs ^ (k - 1) ≤ m := by
  rcases h.ge with h1 | h1
  · exact .inl h1
  · exact .inr (by omega)
theorem lim_le {a : Nat} (h : a < Bs) : a ≤ 999999999 := by unfold Bs at h; omega
open Go
/-- The lowest k decimal digits of r. -/
def pk : Nat → Nat → List UInt8
  | 0, _ => []
  | k + 1, r => pk k (r / 10) ++ [UInt8.ofNat (48 + r % 10)]
theorem pk_len (k r : Nat) : (pk k r).length = k := by
  induction k generalizing r with
  | zero => rfl
  | succ k ih => simp [pk, ih]
theorem dec_ge {u : Nat} (h : ¬ u < 10) : Lib.decDigits u = Lib.decDigits (u / 10) ++ [UInt8.ofNat (48 + u % 10)] := by
  rw [Lib.decDigits, dif_neg h]
theorem dec_lt {u : Nat} (h : u < 10) : Lib.decDigits u = [UInt8.ofNat (48 + u)] := by
  rw [Lib.decDigits, dif_pos h]
theorem dec_join (k q r : Nat) (hq : 0 < q) (hr : r < 10 ^ k) : Lib.decDigits (q * 10 ^ k + r) = Lib.decDigits q ++ pk k r := by
  induction k generalizing r with
  | zero => have : r = 0 := by simpa using hr
            subst this; simp [pk]
  | succ k ih =>
    have h1 : 10 ≤ q * 10 ^ (k + 1) + r := by
      have h2 : 1 * 10 ≤ q * 10 ^ (k + 1) := Nat.mul_le_mul hq (by rw [Nat.pow_succ]; have := Nat.pow_pos (n := k) (show 0 < 10 by decide); omega)
      omega
    have e : q * 10 ^ (k + 1) + r = (q * 10 ^ k) * 10 + r := by rw [Nat.pow_succ, Nat.mul_assoc]
    have e1 : (q * 10 ^ (k + 1) + r) / 10 = q * 10 ^ k + r / 10 := by rw [e]; omega
    have e2 : (q * 10 ^ (k + 1) + r) % 10 = r % 10 := by rw [e]; omega
    rw [dec_ge (by omega), e1, e2, ih (r / 10) (by rw [Nat.pow_succ] at hr; omega)]
    simp [pk]
theorem pk_zero (k : Nat) : pk k 0 = List.replicate k 48 := by
  induction k with
  | zero => rfl
  | succ k ih => simp only [pk]; rw [show (0 : Nat) / 10 = 0 from rfl, ih]; rw [List.replicate_succ']; rfl
theorem pk_pad (k r : Nat) (hk : 1 ≤ k) (hr : r < 10 ^ k) : pk k r = List.replicate (k - (Lib.decDigits r).length) 48 ++ Lib.decDigits r ∧ (Lib.decDigits r).length ≤ k := by
  induction k generalizing r with
  | zero => omega
  | succ k ih =>
    by_cases h : r < 10
    · rw [dec_lt h]
      have e : r / 10 = 0 := by omega
      refine ⟨?_, by simp⟩
      simp only [pk, e, pk_zero]
      rw [Nat.mod_eq_of_lt h]; simp
    · have hk1 : 1 ≤ k := by
        rcases k with _ | k
        · simp at hr; omega
        · omega
      obtain ⟨h1, h2⟩ := ih (r / 10) hk1 (by rw [Nat.pow_succ] at hr; omega)
      rw [dec_ge h]
      refine ⟨?_, by simp; omega⟩
      simp only [pk, h1, List.length_append, List.length_cons, List.length_nil]
      rw [show k + 1 - ((Lib.decDigits (r / 10)).length + (0 + 1)) = k - (Lib.decDigits (r / 10)).length by omega]
      simp
/-- The text of the highest limbs, from the i-th on. -/
theorem dec_limb (n i : Nat) (h : Bs ^ (i + 1) ≤ n) : Lib.decDigits (n / Bs ^ i) = Lib.decDigits (n / Bs ^ (i + 1)) ++ (List.replicate (9 - (Lib.decDigits (n / Bs ^ i % Bs)).length) 48 ++ Lib.decDigits (n / Bs ^ i % Bs)) := by
  have hp : 0 < Bs ^ i := Nat.pow_pos (by decide)
  have e : n / Bs ^ (i + 1) = n / Bs ^ i / Bs := by rw [Nat.pow_succ, Nat.div_div_eq_div_mul]
  have hm : n / Bs ^ i % Bs < Bs := Nat.mod_lt _ (by decide)
  have h9 : Bs = 10 ^ 9 := by decide
  rw [← (pk_pad 9 (n / Bs ^ i % Bs) (by decide) (by rw [← h9]; exact hm)).1, ← dec_join 9 _ _ ?_ (by rw [← h9]; exact hm), ← h9, e, Nat.mul_comm, Nat.div_add_mod]
  exact Nat.div_pos h (Nat.pow_pos (by decide))
/-- What a text of digits stands for, behind a. -/
def rd (a : Nat) (l : List UInt8) : Nat := l.foldl (fun a c => a * 10 + (c.toNat - 48)) a
theorem rd_dec (n : Nat) : rd 0 (Lib.decDigits n) = n := by
  induction n using Nat.strongRecOn with
  | _ n ih =>
    have hc : ∀ x, x < 10 → (UInt8.ofNat (48 + x)).toNat - 48 = x := fun x hx => by simp [UInt8.toNat_ofNat']; omega
    by_cases h : n < 10
    · rw [dec_lt h]; simp only [rd, List.foldl_cons, List.foldl_nil]; rw [hc n h]; omega
    · rw [dec_ge h, rd, List.foldl_append]
      show (rd 0 (Lib.decDigits (n / 10))) * 10 + ((UInt8.ofNat (48 + n % 10)).toNat - 48) = n
      rw [ih (n / 10) (by omega), hc _ (by omega)]; omega
theorem dec_digit (n : Nat) : ∀ c ∈ Lib.decDigits n, 48 ≤ c.toNat ∧ c.toNat ≤ 57 := by
  induction n using Nat.strongRecOn with
  | _ n ih =>
    have hc : ∀ x, x < 10 → 48 ≤ (UInt8.ofNat (48 + x)).toNat ∧ (UInt8.ofNat (48 + x)).toNat ≤ 57 := fun x hx => by simp [UInt8.toNat_ofNat']; omega
    by_cases h : n < 10
    · rw [dec_lt h]; intro c hm; rw [List.mem_singleton] at hm; subst hm; exact hc n h
    · rw [dec_ge h]
      intro c hm
      rcases List.mem_append.1 hm with h1 | h1
      · exact ih _ (by omega) c h1
      · rw [List.mem_singleton] at h1; subst h1; exact hc _ (by omega)
theorem dec_head (n : Nat) (hn : 0 < n) : ∃ c r, Lib.decDigits n = c :: r ∧ 49 ≤ c.toNat := by
  induction n using Nat.strongRecOn with
  | _ n ih =>
    by_cases h : n < 10
    · rw [dec_lt h]; exact ⟨_, [], rfl, by simp [UInt8.toNat_ofNat']; omega⟩
    · obtain ⟨c, r, h1, h2⟩ := ih (n / 10) (by omega) (by omega)
      rw [dec_ge h, h1]; exact ⟨c, _, rfl, h2⟩
theorem dec_len (n k : Nat) (hk : 1 ≤ k) (h : n < 10 ^ k) : (Lib.decDigits n).length ≤ k := (pk_pad k n hk h).2
end Go.Proofs.YtfbgblidlabipaaGreatDoor.LgM
end

section
/- The list of a root: Lagrange's complete quotients, norms, and Pell's solution; Bhaskara's cyclic way: plain facts. -/
set_option linter.unusedSimpArgs false
set_option linter.unusedVariables false
set_option maxRecDepth 100000
namespace Go.Proofs.YtfbgblidlabipaaGreatDoor.CfM
/-- What a complete quotient of the root of d is: (p + root) / q, behind the first; r is the root's whole part. -/
structure Cq (d r p q : Int) : Prop where
  dvd : q ∣ d - p * p
  qp : 1 ≤ q
  p1 : 1 ≤ p
  pr : p ≤ r
  lo : r + 1 ≤ p + q
  hi : q ≤ p + r
structure Rt (d r : Int) : Prop where
  r1 : 1 ≤ r
  lo : r * r < d
  hi : d < (r + 1) * (r + 1)
def kq (r p q : Int) : Int := (p + r) / q
def np (r p q : Int) : Int := kq r p q * q - p
def nq (d r p q : Int) : Int := (d - np r p q * np r p q) / q
theorem np_def (r p q : Int) : kq r p q * q = np r p q + p := by unfold np; omega
theorem Cq.k1 {d r p q : Int} (h : Cq d r p q) : 1 ≤ kq r p q := by
  unfold kq; exact (Int.le_ediv_iff_mul_le (by have := h.qp; omega)).2 (by have := h.hi; omega)
theorem Cq.kle {d r p q : Int} (h : Cq d r p q) : kq r p q ≤ p + r := by
  unfold kq; exact Int.ediv_le_self _ (by have := h.p1; have := h.pr; omega)
theorem Cq.np_bd {d r p q : Int} (h : Cq d r p q) : np r p q ≤ r ∧ r + 1 ≤ np r p q + q := by
  have e := np_def r p q
  have h1 := Int.mul_ediv_add_emod (p + r) q
  have h2 := Int.emod_nonneg (p + r) (show q ≠ 0 by have := h.qp; omega)
  have h3 := Int.emod_lt_of_pos (p + r) (show 0 < q by have := h.qp; omega)
  have h4 : q * ((p + r) / q) = kq r p q * q := by unfold kq; rw [Int.mul_comm]
  omega
theorem Cq.np1 {d r p q : Int} (h : Cq d r p q) : 1 ≤ np r p q := by
  have e := np_def r p q
  have h0 := h.np_bd
  have hk := h.k1
  have h1 : 1 * q ≤ kq r p q * q := Int.mul_le_mul_of_nonneg_right hk (by have := h.qp; omega)
  have := h.pr
  by_cases hq : q ≤ r
  · omega
  · omega
theorem Cq.nq_eq {d r p q : Int} (h : Cq d r p q) : nq d r p q * q = d - np r p q * np r p q := by
  unfold nq
  apply Int.ediv_mul_cancel
  have e := np_def r p q
  obtain ⟨c, hc⟩ := h.dvd
  refine ⟨c + (2 * p * kq r p q - kq r p q * kq r p q * q), ?_⟩
  have : np r p q = kq r p q * q - p := by omega
  rw [this]; clear e this
  generalize kq r p q = k at *
  grind
theorem Cq.next {d r p q : Int} (hr : Rt d r) (h : Cq d r p q) : Cq d r (np r p q) (nq d r p q) := by
  obtain ⟨hb1, hb2⟩ := h.np_bd
  have hp1 := h.np1
  have he := h.nq_eq
  have hk := h.k1
  have hn := np_def r p q
  have hq0 := h.qp
  have hpr := h.pr
  have hpp : np r p q * np r p q ≤ r * r := Int.mul_le_mul hb1 hb1 (by omega) (by have := hr.r1; omega)
  have hlo := hr.lo
  have hhi := hr.hi
  have hq1 : 1 * q ≤ kq r p q * q := Int.mul_le_mul_of_nonneg_right hk (by omega)
  generalize np r p q = P at *
  generalize nq d r p q = Q at *
  generalize kq r p q = k at *
  have hQ1 : 1 ≤ Q := by
    rcases Int.lt_or_le Q 1 with h1 | h1
    · have : Q * q ≤ 0 * q := Int.mul_le_mul_of_nonneg_right (by omega) (by omega)
      omega
    · exact h1
  refine ⟨⟨q, by omega⟩, hQ1, hp1, hb1, ?_, ?_⟩
  · rcases Int.lt_or_le (P + Q) (r + 1) with h1 | h1
    · have h2 : Q * q ≤ (r - P) * (r + P) := Int.mul_le_mul (by omega) (by omega) (by omega) (by omega)
      have h3 : (r - P) * (r + P) = r * r - P * P := by grind
      omega
    · exact h1
  · rcases Int.lt_or_le (P + r) Q with h1 | h1
    · have h2 : (P + r + 1) * (r + 1 - P) ≤ Q * q := Int.mul_le_mul (by omega) (by omega) (by omega) (by omega)
      have h3 : (P + r + 1) * (r + 1 - P) = (r + 1) * (r + 1) - P * P := by grind
      omega
    · exact h1
theorem Cq.start {d r : Int} (hr : Rt d r) : Cq d r r (d - r * r) := by
  have h1 := hr.r1
  have h2 := hr.lo
  have h3 := hr.hi
  have h4 : (r + 1) * (r + 1) = r * r + 2 * r + 1 := by grind
  exact ⟨⟨1, by omega⟩, by omega, by omega, by omega, by omega, by omega⟩
/-- The end: q is 1 just where the whole part is 2 r. -/
theorem Cq.end_iff {d r p q : Int} (hr : Rt d r) (h : Cq d r p q) : kq r p q = 2 * r ↔ q = 1 := by
  have h1 := hr.r1
  have h2 := h.lo
  have h3 := h.pr
  constructor
  · intro e
    rcases Int.lt_or_le 1 q with h5 | h5
    · have := np_def r p q
      have h6 := h.np_bd
      have h7 : 2 * (2 * r) ≤ q * (2 * r) := Int.mul_le_mul_of_nonneg_right (by omega) (by omega)
      rw [e, Int.mul_comm] at this
      omega
    · have := h.qp; omega
  · intro e; subst e
    have : p = r := by omega
    subst this; unfold kq; omega
theorem end_next (d r : Int) : np r r 1 = r ∧ nq d r r 1 = d - r * r := by
  have e : np r r 1 = r := by unfold np kq; omega
  exact ⟨e, by unfold nq; rw [e]; simp⟩
/-- The norms of two fractions that follow each other; s is 1 or -1. -/
structure Nr (d s P0 Q0 P1 Q1 p q : Int) : Prop where
  c : P1 * P1 - d * (Q1 * Q1) = -s * q
  m : P1 * P0 - d * (Q1 * Q0) = s * p
  b : (P0 * P0 - d * (Q0 * Q0)) * q = s * (d - p * p)
theorem Nr.start (d r : Int) : Nr d 1 1 0 r 1 r (d - r * r) := ⟨by grind, by grind, by grind⟩
theorem Nr.next {d s P0 Q0 P1 Q1 r p q : Int} (h : Nr d s P0 Q0 P1 Q1 p q) (hc : Cq d r p q) :
    Nr d (-s) P1 Q1 (P0 + kq r p q * P1) (Q0 + kq r p q * Q1) (np r p q) (nq d r p q) := by
  have he := hc.nq_eq
  have hn := np_def r p q
  obtain ⟨h1, h2, h3⟩ := h
  have hq := hc.qp
  generalize np r p q = P at *
  generalize nq d r p q = Q at *
  generalize kq r p q = k at *
  have hP : P = k * q - p := by omega
  refine ⟨?_, ?_, ?_⟩
  · apply Int.eq_of_mul_eq_mul_right (show q ≠ 0 by omega)
    subst hP
    grind
  · subst hP; grind
  · grind
/-- The complete quotients of the root, one after the other. -/
def cs (d r : Nat) : Nat → Nat × Nat
  | 0 => (r, d - r * r)
  | i + 1 => let k := ((cs d r i).1 + r) / (cs d r i).2
             let p := k * (cs d r i).2 - (cs d r i).1
             (p, (d - p * p) / (cs d r i).2)
def cl (d r i : Nat) : Nat := ((cs d r i).1 + r) / (cs d r i).2
/-- The fractions: the one ahead, and the last. -/
def st (d r : Nat) : Nat → (Nat × Nat) × (Nat × Nat)
  | 0 => ((1, 0), (r, 1))
  | i + 1 => ((st d r i).2, ((st d r i).1.1 + cl d r i * (st d r i).2.1, (st d r i).1.2 + cl d r i * (st d r i).2.2))
structure Rn (d r : Nat) : Prop where
  r1 : 1 ≤ r
  lo : r * r < d
  hi : d < (r + 1) * (r + 1)
theorem Rn.rt {d r : Nat} (h : Rn d r) : Rt (d : Int) r := by
  refine ⟨by have := h.r1; omega, ?_, ?_⟩
  · have := h.lo; rw [← Int.natCast_mul]; omega
  · have := h.hi
    have e : ((r : Int) + 1) * ((r : Int) + 1) = (((r + 1) * (r + 1) : Nat) : Int) := by rw [Int.natCast_mul, Int.natCast_add]; rfl
    rw [e]; omega
theorem cs_cq {d r : Nat} (h : Rn d r) (i : Nat) : Cq (d : Int) r ((cs d r i).1 : Nat) ((cs d r i).2 : Nat) ∧
    (((cs d r (i + 1)).1 : Nat) : Int) = np r ((cs d r i).1 : Nat) ((cs d r i).2 : Nat) ∧ (((cs d r (i + 1)).2 : Nat) : Int) = nq d r ((cs d r i).1 : Nat) ((cs d r i).2 : Nat) ∧ ((cl d r i : Nat) : Int) = kq r ((cs d r i).1 : Nat) ((cs d r i).2 : Nat) := by
  have key : ∀ i, Cq (d : Int) r ((cs d r i).1 : Nat) ((cs d r i).2 : Nat) → (((cs d r (i + 1)).1 : Nat) : Int) = np r ((cs d r i).1 : Nat) ((cs d r i).2 : Nat) ∧ (((cs d r (i + 1)).2 : Nat) : Int) = nq d r ((cs d r i).1 : Nat) ((cs d r i).2 : Nat) ∧ ((cl d r i : Nat) : Int) = kq r ((cs d r i).1 : Nat) ((cs d r i).2 : Nat) := by
    intro i hc
    have hp1 := hc.np1
    have hb := hc.np_bd
    have he := hc.nq_eq
    have hk : ((cl d r i : Nat) : Int) = kq r ((cs d r i).1 : Nat) ((cs d r i).2 : Nat) := by
      unfold cl kq; rw [Int.natCast_ediv, Int.natCast_add]
    have hn := np_def (r : Int) ((cs d r i).1 : Nat) ((cs d r i).2 : Nat)
    have h1 : (((cs d r (i + 1)).1 : Nat) : Int) = np r ((cs d r i).1 : Nat) ((cs d r i).2 : Nat) := by
      show ((cl d r i * (cs d r i).2 - (cs d r i).1 : Nat) : Int) = _
      have : (cl d r i : Int) * ((cs d r i).2 : Nat) = ((cl d r i * (cs d r i).2 : Nat) : Int) := by rw [Int.natCast_mul]
      rw [← hk, this] at hn
      omega
    refine ⟨h1, ?_, hk⟩
    show (((d - (cs d r (i + 1)).1 * (cs d r (i + 1)).1) / (cs d r i).2 : Nat) : Int) = _
    have hr1 := h.rt
    have hpp : np (r : Int) ((cs d r i).1 : Nat) ((cs d r i).2 : Nat) * np (r : Int) ((cs d r i).1 : Nat) ((cs d r i).2 : Nat) ≤ (r : Int) * r := Int.mul_le_mul hb.1 hb.1 (by omega) (by omega)
    have hlo := hr1.lo
    unfold nq
    rw [Int.natCast_ediv]
    congr 1
    rw [← h1] at hpp ⊢
    rw [← Int.natCast_mul] at hpp ⊢
    rw [← Int.natCast_mul] at hpp hlo
    omega
  have hall : ∀ i, Cq (d : Int) r ((cs d r i).1 : Nat) ((cs d r i).2 : Nat) := by
    intro i
    induction i with
    | zero =>
      have h1 := Cq.start h.rt
      have h2 := h.lo
      have e : ((d - r * r : Nat) : Int) = (d : Int) - r * r := by rw [← Int.natCast_mul]; omega
      show Cq (d : Int) r r ((d - r * r : Nat) : Int)
      rw [e]; exact h1
    | succ i ih =>
      obtain ⟨h1, h2, _⟩ := key i ih
      rw [h1, h2]; exact ih.next h.rt
  exact ⟨hall i, key i (hall i)⟩
theorem cs_bd {d r : Nat} (h : Rn d r) (i : Nat) : 1 ≤ (cs d r i).1 ∧ (cs d r i).1 ≤ r ∧ 1 ≤ (cs d r i).2 ∧ (cs d r i).2 ≤ 2 * r ∧ 1 ≤ cl d r i ∧ cl d r i ≤ 2 * r ∧ (cl d r i = 2 * r ↔ (cs d r i).2 = 1) := by
  obtain ⟨h1, h2, h3, h4⟩ := cs_cq h i
  have a1 := h1.p1; have a2 := h1.pr; have a3 := h1.qp; have a4 := h1.hi; have a5 := h1.k1; have a6 := h1.kle; have a7 := h1.end_iff h.rt
  rw [← h4] at a5 a6 a7
  refine ⟨by omega, by omega, by omega, by omega, by omega, by omega, ?_⟩
  constructor
  · intro e; have := a7.1 (by omega); omega
  · intro e; have := a7.2 (by omega); omega
/-- Behind the end it comes again. -/
theorem cs_again {d r n : Nat} (h : Rn d r) (hn : (cs d r n).2 = 1) (i : Nat) : cs d r (n + 1 + i) = cs d r i := by
  induction i with
  | zero =>
    obtain ⟨h1, h2, h3, h4⟩ := cs_cq h n
    have hp : (cs d r n).1 = r := by have a := h1.lo; have b := h1.pr; rw [hn] at a; omega
    show ((((cs d r n).1 + r) / (cs d r n).2 * (cs d r n).2 - (cs d r n).1, _) : Nat × Nat) = (r, d - r * r)
    simp only [hn, hp]
    simp
  | succ i ih =>
    show cs d r (n + 1 + i + 1) = cs d r (i + 1)
    rw [cs, cs, ih]
def sgn (i : Nat) : Int := if i % 2 = 0 then 1 else -1
theorem st_nr {d r : Nat} (h : Rn d r) (i : Nat) : Nr (d : Int) (sgn i) ((st d r i).1.1 : Nat) ((st d r i).1.2 : Nat) ((st d r i).2.1 : Nat) ((st d r i).2.2 : Nat) ((cs d r i).1 : Nat) ((cs d r i).2 : Nat) := by
  induction i with
  | zero =>
    have h2 := h.lo
    have e : ((d - r * r : Nat) : Int) = (d : Int) - r * r := by rw [← Int.natCast_mul]; omega
    show Nr (d : Int) 1 1 0 r 1 r ((d - r * r : Nat) : Int)
    rw [e]; exact Nr.start d r
  | succ i ih =>
    obtain ⟨h1, h2, h3, h4⟩ := cs_cq h i
    have h5 := ih.next h1
    have e : sgn (i + 1) = - sgn i := by unfold sgn; split <;> split <;> omega
    rw [e, h2, h3]
    rw [← h4] at h5
    simpa [st] using h5
theorem st_pell {d r n : Nat} (h : Rn d r) (ho : n % 2 = 1) (hq : (cs d r n).2 = 1) : (st d r n).2.1 * (st d r n).2.1 = d * ((st d r n).2.2 * (st d r n).2.2) + 1 := by
  have h1 := (st_nr h n).c
  rw [hq] at h1
  have e : sgn n = -1 := by unfold sgn; rw [if_neg (by omega)]
  rw [e, ← Int.natCast_mul, ← Int.natCast_mul, ← Int.natCast_mul] at h1
  omega
theorem st_pos {d r : Nat} (h : Rn d r) (i : Nat) : 1 ≤ (st d r i).2.2 := by
  have : ∀ i, 1 ≤ (st d r i).2.2 := by
    intro i
    induction i with
    | zero => exact Nat.le_refl _
    | succ i ih =>
      have := (cs_bd h i).2.2.2.2.1
      have := Nat.mul_le_mul this ih
      simp only [st]; omega
  exact this i
/-- How great they grow. -/
theorem st_lt {d r : Nat} (h : Rn d r) (hr : 2 * r + 1 < 1000000000) (i : Nat) : (st d r i).1.1 < 1000000000 ^ (i + 1) ∧ (st d r i).1.2 < 1000000000 ^ (i + 1) ∧ (st d r i).2.1 < 1000000000 ^ (i + 1) ∧ (st d r i).2.2 < 1000000000 ^ (i + 1) := by
  induction i with
  | zero => simp [st]; have := h.r1; omega
  | succ i ih =>
    obtain ⟨h1, h2, h3, h4⟩ := ih
    have hc := (cs_bd h i).2.2.2.2.2.1
    have hp : 1000000000 ^ (i + 1 + 1) = 1000000000 ^ (i + 1) * 1000000000 := Nat.pow_succ ..
    rw [hp]
    generalize 1000000000 ^ (i + 1) = B at *
    have g : ∀ x y, x < B → y < B → x + cl d r i * y < B * 1000000000 := by
      intro x y hx hy
      have e1 : cl d r i * y ≤ (2 * r) * B := Nat.mul_le_mul hc (by omega)
      have e2 : (2 * r + 1) * B ≤ 999999999 * B := Nat.mul_le_mul_right _ (by omega)
      rw [Nat.add_mul] at e2
      omega
    refine ⟨by simp only [st]; omega, by simp only [st]; omega, g _ _ h1 h3, g _ _ h2 h4⟩
/-- Pell's solution by the list of the root. -/
def pel (d r : Nat) : Nat → Nat → Nat → Nat → Nat → Nat → Nat → Bool → Option (Nat × Nat)
  | 0, _, _, _, _, _, _, _ => none
  | n + 1, p, q, P0, Q0, P1, Q1, s =>
    if q == 1 && s then some (P1, Q1) else
      let k := (p + r) / q
      let p' := k * q - p
      pel d r n p' ((d - p' * p') / q) P1 Q1 (P0 + k * P1) (Q0 + k * Q1) (!s)
theorem pel_st {d r : Nat} (n i : Nat) (X : Nat × Nat) (h : pel d r n (cs d r i).1 (cs d r i).2 (st d r i).1.1 (st d r i).1.2 (st d r i).2.1 (st d r i).2.2 (decide (i % 2 = 1)) = some X) :
    ∃ j, i ≤ j ∧ (cs d r j).2 = 1 ∧ j % 2 = 1 ∧ X = (st d r j).2 ∧ ∀ k, i ≤ k → k < j → ¬ ((cs d r k).2 = 1 ∧ k % 2 = 1) := by
  induction n generalizing i with
  | zero => simp [pel] at h
  | succ n ih =>
    unfold pel at h
    split at h
    · rename_i h1
      simp at h1 h
      exact ⟨i, Nat.le_refl _, h1.1, h1.2, h.symm, fun k a b => by omega⟩
    · rename_i h1
      simp at h1
      simp only at h
      have e : (!decide (i % 2 = 1)) = decide ((i + 1) % 2 = 1) := by
        rcases Nat.mod_two_eq_zero_or_one i with h2 | h2
        · have : (i + 1) % 2 = 1 := by omega
          simp [h2, this]
        · have : (i + 1) % 2 = 0 := by omega
          simp [h2, this]
      rw [e] at h
      obtain ⟨j, a1, a2, a3, a4, a5⟩ := ih (i + 1) h
      refine ⟨j, by omega, a2, a3, a4, fun k b1 b2 => ?_⟩
      by_cases hk : k = i
      · subst hk; rintro ⟨c1, c2⟩; have := h1 c1; omega
      · exact a5 k (by omega) b2
/-- The length of the list that Pell goes through. -/
def NN (n : Nat) : Nat := if n % 2 = 0 then n else 2 * n
theorem pel_is {d r n fuel : Nat} (h : Rn d r) (hn : 1 ≤ n) (hq : (cs d r (n - 1)).2 = 1) (hl : ∀ i, i < n - 1 → (cs d r i).2 ≠ 1) {X : Nat × Nat}
    (hp : pel d r fuel r (d - r * r) 1 0 r 1 false = some X) : X = (st d r (NN n - 1)).2 ∧ (cs d r (NN n - 1)).2 = 1 ∧ (NN n - 1) % 2 = 1 := by
  obtain ⟨j, _, h2, h3, h4, h5⟩ := pel_st (d := d) (r := r) fuel 0 X hp
  have hN : (cs d r (NN n - 1)).2 = 1 ∧ (NN n - 1) % 2 = 1 := by
    unfold NN
    split
    · exact ⟨hq, by omega⟩
    · have := cs_again h hq (n - 1)
      rw [show n - 1 + 1 + (n - 1) = 2 * n - 1 by omega] at this
      exact ⟨by rw [this]; exact hq, by omega⟩
  refine ⟨?_, hN⟩
  have : j = NN n - 1 := by
    rcases Nat.lt_trichotomy j (NN n - 1) with g | g | g
    · exfalso
      unfold NN at g
      split at g
      · exact hl j g h2
      · by_cases g1 : j < n - 1
        · exact hl j g1 h2
        · by_cases g2 : j = n - 1
          · omega
          · have := cs_again h hq (j - n)
            rw [show n - 1 + 1 + (j - n) = j by omega] at this
            exact hl (j - n) (by omega) (by rw [← this]; exact h2)
    · exact g
    · exact (h5 _ (Nat.zero_le _) g hN).elim
  rw [h4, this]
def pickm (d r K m : Nat) : Nat :=
  let t0 := (K - m % K) % K
  if t0 ≤ r then
    let lo := r - (r - t0) % K
    if lo ≥ 1 ∧ d - lo * lo ≤ (lo + K) * (lo + K) - d then lo else lo + K
  else t0
/-- How far a square lies from d. -/
def di (d t : Nat) : Nat := ((t : Int) * t - d).natAbs
/-- The first of the nearest. -/
structure Bst (d : Nat) (C : Nat → Prop) (m : Nat) : Prop where
  c : C m
  le : ∀ t, C t → di d m ≤ di d t
  lt : ∀ t, C t → t < m → di d m < di d t
theorem Bst.uniq {d m n : Nat} {C : Nat → Prop} (h : Bst d C m) (k : Bst d C n) : m = n := by
  rcases Nat.lt_trichotomy m n with h1 | h1 | h1
  · have := k.lt m h.c h1; have := h.le n k.c; omega
  · exact h1
  · have := h.lt n k.c h1; have := k.le m h.c; omega
theorem sq_le {a b : Nat} (h : a ≤ b) : a * a ≤ b * b := Nat.mul_le_mul h h
theorem sq_lt {a b : Nat} (h : a < b) : a * a < b * b := Nat.mul_lt_mul_of_le_of_lt (Nat.le_of_lt h) h (by omega)
theorem di_lo {d t : Nat} (h : t * t ≤ d) : di d t = d - t * t := by
  unfold di; rw [← Int.natCast_mul]; omega
theorem di_hi {d t : Nat} (h : d ≤ t * t) : di d t = t * t - d := by
  unfold di; rw [← Int.natCast_mul]; omega
theorem pick_cong (d r K m : Nat) (hK : 1 ≤ K) : pickm d r K m % K = (K - m % K) % K := by
  have ht := Nat.mod_lt (K - m % K) hK
  unfold pickm
  simp only
  generalize (K - m % K) % K = t0 at *
  split
  · rename_i h
    have h2 := Nat.div_add_mod (r - t0) K
    have h1 : (r - (r - t0) % K) % K = t0 := by
      have e : r - (r - t0) % K = t0 + K * ((r - t0) / K) := by omega
      rw [e, Nat.add_mul_mod_self_left, Nat.mod_eq_of_lt ht]
    split
    · exact h1
    · rw [Nat.add_mod_right]; exact h1
  · exact Nat.mod_eq_of_lt ht
/-- The nearest among all from 1 on that leave the same by K. -/
theorem pick_best (d r K m : Nat) (hK : 1 ≤ K) (hr : r * r < d) (hr2 : d < (r + 1) * (r + 1)) (h1 : 1 ≤ pickm d r K m) :
    Bst d (fun t => 1 ≤ t ∧ t % K = (K - m % K) % K) (pickm d r K m) := by
  have hc := pick_cong d r K m hK
  have ht := Nat.mod_lt (K - m % K) hK
  refine ⟨⟨h1, hc⟩, ?_, ?_⟩
  all_goals
    rintro t ⟨ht1, ht2⟩
    clear hc
    unfold pickm at *
    simp only at *
    generalize (K - m % K) % K = t0 at *
    have lows : ∀ t, t * t ≤ d → t ≤ r := fun t h => by
      rcases Nat.lt_or_ge r t with h2 | h2
      · have := sq_le (show r + 1 ≤ t by omega); omega
      · exact h2
    have lo2 : ∀ t, t ≤ r → t * t < d := fun t h => by have := sq_le h; omega
    have hi2 : ∀ t, r < t → d < t * t := fun t h => by have := sq_le (show r + 1 ≤ t by omega); omega
    have hdt := Nat.div_add_mod t K
    rw [ht2] at hdt
    by_cases h : t0 ≤ r
    · rw [if_pos h] at *
      have h2 := Nat.div_add_mod (r - t0) K
      have h3 := Nat.mod_lt (r - t0) hK
      generalize hlo : r - (r - t0) % K = lo at *
      have hle : lo ≤ r := by omega
      have hhi : r < lo + K := by omega
      have e : lo = t0 + K * ((r - t0) / K) := by omega
      have below : t ≤ r → t ≤ lo := fun h5 => by
        have : t / K ≤ (r - t0) / K := by
          rcases Nat.lt_or_ge ((r - t0) / K) (t / K) with h6 | h6
          · have := Nat.mul_le_mul_left K (show (r - t0) / K + 1 ≤ t / K by omega)
            rw [Nat.mul_add] at this; omega
          · exact h6
        have := Nat.mul_le_mul_left K this
        omega
      have above : r < t → lo + K ≤ t := fun h5 => by
        have : (r - t0) / K + 1 ≤ t / K := by
          rcases Nat.lt_or_ge (t / K) ((r - t0) / K + 1) with h6 | h6
          · have := Nat.mul_le_mul_left K (show t / K ≤ (r - t0) / K by omega)
            omega
          · exact h6
        have := Nat.mul_le_mul_left K this
        rw [Nat.mul_add] at this
        omega
      have dl := di_lo (Nat.le_of_lt (lo2 lo hle))
      have dh := di_hi (Nat.le_of_lt (hi2 (lo + K) hhi))
      by_cases h7 : lo ≥ 1 ∧ d - lo * lo ≤ (lo + K) * (lo + K) - d
      · rw [if_pos h7] at *
        by_cases h8 : t ≤ r
        · have h9 := below h8
          have d1 := di_lo (Nat.le_of_lt (lo2 t h8))
          have h10 := sq_le h9
          have := lo2 lo hle
          first
          | (intro h11; have h12 := sq_lt h11; omega)
          | omega
        · have h9 := above (by omega)
          have d1 := di_hi (Nat.le_of_lt (hi2 t (by omega)))
          have h10 := sq_le h9
          first
          | (intro h11; omega)
          | omega
      · rw [if_neg h7] at *
        by_cases h8 : t ≤ r
        · have h9 := below h8
          have d1 := di_lo (Nat.le_of_lt (lo2 t h8))
          have h10 := sq_le h9
          have := lo2 lo hle
          have := hi2 (lo + K) hhi
          first
          | (intro h11; omega)
          | omega
        · have h9 := above (by omega)
          have d1 := di_hi (Nat.le_of_lt (hi2 t (by omega)))
          have h10 := sq_le h9
          first
          | (intro h11; omega)
          | omega
    · rw [if_neg h] at *
      have h9 : t0 ≤ t := by omega
      have d0 := di_hi (Nat.le_of_lt (hi2 t0 (by omega)))
      have d1 := di_hi (Nat.le_of_lt (hi2 t (by omega)))
      have h10 := sq_le h9
      first
      | (intro h11; omega)
      | omega
/-- What is divided is told by the rest. -/
theorem cand_iff (a b K t0 t : Nat) (hg : Nat.gcd b K = 1) (h0 : (a + b * t0) % K = 0) (hK : 1 ≤ K) : (a + b * t) % K = 0 ↔ t % K = t0 % K := by
  have hz : ((a + b * t : Nat) : Int) - ((a + b * t0 : Nat) : Int) = (b : Int) * ((t : Int) - t0) := by
    rw [Int.natCast_add, Int.natCast_add, Int.natCast_mul, Int.natCast_mul, Int.mul_sub]; omega
  constructor
  · intro h
    have h1 : (K : Int) ∣ (b : Int) * ((t : Int) - t0) := by
      rw [← hz]
      exact Int.dvd_sub (Int.natCast_dvd_natCast.2 (Nat.dvd_of_mod_eq_zero h)) (Int.natCast_dvd_natCast.2 (Nat.dvd_of_mod_eq_zero h0))
    have h2 : (K : Int) ∣ (t : Int) - t0 := by
      rw [Int.ofNat_dvd_left] at h1 ⊢
      rw [Int.natAbs_mul, Int.natAbs_natCast] at h1
      exact Nat.Coprime.dvd_of_dvd_mul_left (by rw [Nat.Coprime, Nat.gcd_comm]; exact hg) h1
    have h4 : (t : Int) % K = (t0 : Int) % K := Int.emod_eq_emod_iff_emod_sub_eq_zero.2 (Int.emod_eq_zero_of_dvd h2)
    omega
  · intro h
    have h2 : (K : Int) ∣ (t : Int) - t0 := by
      apply Int.dvd_of_emod_eq_zero
      have h4 : (t : Int) % K = (t0 : Int) % K := by omega
      rw [Int.sub_emod, h4]; simp
    have h1 : (K : Int) ∣ (b : Int) * ((t : Int) - t0) := Int.dvd_mul_of_dvd_right h2
    have h5 : (K : Int) ∣ ((a + b * t : Nat) : Int) := by
      have := Int.dvd_add h1 (Int.natCast_dvd_natCast.2 (Nat.dvd_of_mod_eq_zero h0))
      rw [← hz] at this
      simpa using this
    exact Nat.mod_eq_zero_of_dvd (Int.natCast_dvd_natCast.1 h5)
/-- Bhaskara's way, each step looked at. -/
def cyc (d r : Nat) : Nat → Nat → Nat → Nat → Bool → Nat → Option (Nat × Nat)
  | 0, _, _, _, _, _ => none
  | n + 1, a, b, K, neg, m =>
    if K == 1 && !neg then some (a, b) else
      let m' := pickm d r K m
      if Nat.gcd b K == 1 && (a + b * m') % K == 0 && decide (m' * m' < 4 * d + 4) && decide (1 ≤ m') && decide (1 ≤ K) then
        let up := decide (d < m' * m')
        let D := if up then m' * m' - d else d - m' * m'
        cyc d r n ((a * m' + d * b) / K) ((a + b * m') / K) (D / K) (if up then neg else !neg) m'
      else none
/-- What is tried for m. -/
def Cd (d a b K t : Nat) : Prop := (1 ≤ t ∧ t * t < 4 * d + 4) ∧ (a + b * t) % K = 0
def sg (neg : Bool) (K : Nat) : Int := if neg then -(K : Int) else K
theorem cyc_step {d r n a b K m : Nat} {neg : Bool} {R : Nat × Nat} (hr : r * r < d) (hr2 : d < (r + 1) * (r + 1)) (h : cyc d r (n + 1) a b K neg m = some R) :
    (sg neg K = 1 ∧ R = (a, b)) ∨ (sg neg K ≠ 1 ∧ 1 ≤ K ∧ ∃ m' K' neg', Bst d (Cd d a b K) m' ∧ sg neg' K' = Int.tdiv ((m' : Int) * m' - d) (sg neg K) ∧ cyc d r n ((a * m' + d * b) / K) ((a + b * m') / K) K' neg' m' = some R) := by
  unfold cyc at h
  split at h
  · rename_i h1
    simp at h1
    obtain ⟨rfl, rfl⟩ := h1
    left
    simp at h
    exact ⟨rfl, h.symm⟩
  · rename_i h1
    simp at h1
    simp only at h
    split at h
    · rename_i h2
      simp only [Bool.and_eq_true, beq_iff_eq, decide_eq_true_eq] at h2
      obtain ⟨⟨⟨⟨hg, h0⟩, hs⟩, hm1⟩, hK⟩ := h2
      right
      refine ⟨?_, hK, pickm d r K m, _, _, ?_, ?_, h⟩
      · unfold sg; cases neg
        · simp; intro e; have := h1 (by omega); simp at this
        · simp; omega
      · have hb := pick_best d r K m hK hr hr2 hm1
        have hc := pick_cong d r K m hK
        have hi := fun t => cand_iff a b K _ t hg h0 hK
        refine ⟨⟨⟨hm1, hs⟩, h0⟩, fun t ht => hb.le t ⟨ht.1.1, ?_⟩, fun t ht => hb.lt t ⟨ht.1.1, ?_⟩⟩
        · rw [← hc]; exact (hi t).1 ht.2
        · rw [← hc]; exact (hi t).1 ht.2
      · generalize pickm d r K m = M
        by_cases hu : d < M * M
        · simp only [hu, decide_true, if_true]
          have e : (M : Int) * M - d = ((M * M - d : Nat) : Int) := by rw [← Int.natCast_mul]; omega
          rw [e]
          unfold sg; cases neg
          · simp [Int.ofNat_tdiv]
          · simp [Int.tdiv_neg, Int.ofNat_tdiv]
        · simp only [hu, decide_false, Bool.false_eq_true, if_false]
          have e : (M : Int) * M - d = -((d - M * M : Nat) : Int) := by rw [← Int.natCast_mul]; omega
          rw [e]
          unfold sg; cases neg
          · simp [Int.neg_tdiv, Int.ofNat_tdiv]
          · simp [Int.neg_tdiv, Int.tdiv_neg, Int.ofNat_tdiv]
    · cases h
end Go.Proofs.YtfbgblidlabipaaGreatDoor.CfM
end

section
/- Plain facts on whole numbers: Euclid's way with its cofactors, signs and bounds. Nothing of the program. -/
set_option linter.unusedSimpArgs false
set_option maxRecDepth 100000
namespace Go.Proofs.YtfbgblidlabipaaGreatDoor.MathA

theorem gcd_step (a b : Int) : Int.gcd b (a.tmod b) = Int.gcd a b := by
  unfold Int.gcd
  rw [Int.natAbs_tmod, Nat.gcd_comm b.natAbs, ← Nat.gcd_rec, Nat.gcd_comm]

theorem natAbs_tmod_lt (a b : Int) (hb : b ≠ 0) : (a.tmod b).natAbs < b.natAbs := by
  rw [Int.natAbs_tmod]; exact Nat.mod_lt _ (by omega)

/-- The state of the loop: what it started from, and the signs. -/
structure Eu (A B a b u v nu nv : Int) : Prop where
  lin : a = u * A + v * B
  lin2 : b = nu * A + nv * B
  st : ∃ (p r t s : Int) (α β U N V M : Nat), (p = 1 ∨ p = -1) ∧ (r = 1 ∨ r = -1) ∧ (t = 1 ∨ t = -1) ∧ (s = 1 ∨ s = -1) ∧
    a = p * α ∧ b = r * β ∧ u = -(p * r * t) * U ∧ nu = t * N ∧ v = -(p * r * s) * V ∧ nv = s * M ∧
    α * N + β * U = B.natAbs ∧ α * M + β * V = A.natAbs ∧ Nat.gcd α β = Int.gcd A B ∧
    U ≤ 1000000000000000000 ∧ N ≤ 1000000000000000000 ∧ V ≤ 1000000000000000000 ∧ M ≤ 1000000000000000000 ∧
    α ≤ 1000000000000000000 ∧ β ≤ 1000000000000000000 ∧ ((N = 0 ∧ U = 1 ∧ 0 < β) ∨ (β < α ∧ 1 ≤ N ∧ (β = 0 → U < N)))

theorem sgn_form (x : Int) : ∃ p : Int, (p = 1 ∨ p = -1) ∧ x = p * (x.natAbs : Nat) := by
  by_cases h : 0 ≤ x
  · exact ⟨1, Or.inl rfl, by omega⟩
  · exact ⟨-1, Or.inr rfl, by omega⟩

theorem eu_start (A B : Int) (hA : A.natAbs ≤ 1000000000000000000) (hB : B.natAbs ≤ 1000000000000000000) (hb : B ≠ 0) : Eu A B A B 1 0 0 1 := by
  refine ⟨by omega, by omega, ?_⟩
  obtain ⟨p, hp, ep⟩ := sgn_form A
  obtain ⟨r, hr, er⟩ := sgn_form B
  refine ⟨p, r, -(p * r), 1, A.natAbs, B.natAbs, 1, 0, 0, 1, hp, hr, ?_, Or.inl rfl, ep, er, ?_, by simp, by simp, by simp, by omega, by omega, rfl, by omega, by omega, by omega, by omega, hA, hB, Or.inl ⟨rfl, rfl, by omega⟩⟩
  · rcases hp with rfl | rfl <;> rcases hr with rfl | rfl <;> decide
  · rcases hp with rfl | rfl <;> rcases hr with rfl | rfl <;> decide

theorem tdiv_sgn (p r : Int) (α β : Nat) (hp : p = 1 ∨ p = -1) (hr : r = 1 ∨ r = -1) : (p * α).tdiv (r * β) = p * r * ((α / β : Nat) : Int) := by
  have e : (α : Int).tdiv (β : Int) = ((α / β : Nat) : Int) := (Int.ofNat_tdiv α β).symm
  rcases hp with rfl | rfl <;> rcases hr with rfl | rfl <;> simp [Int.neg_tdiv, Int.tdiv_neg, -Int.natCast_ediv, e]

theorem div_bound (α β K : Nat) (h : α ≤ K) : α / β * β ≤ K := Nat.le_trans (Nat.div_mul_le_self α β) h

/-- One round. -/
theorem eu_step {A B a b u v nu nv : Int} (hA : A.natAbs ≤ 1000000000000000000) (hB : B.natAbs ≤ 1000000000000000000) (h : Eu A B a b u v nu nv) (hb : b ≠ 0) :
    Eu A B b (a - a.tdiv b * b) nu nv (u - a.tdiv b * nu) (v - a.tdiv b * nv) ∧
    (a - a.tdiv b * b).natAbs < b.natAbs ∧
    (a.tdiv b).natAbs ≤ 1000000000000000000 ∧ (a.tdiv b * b).natAbs ≤ 1000000000000000000 ∧ (a.tdiv b * nu).natAbs ≤ 1000000000000000000 ∧ (a.tdiv b * nv).natAbs ≤ 1000000000000000000 := by
  obtain ⟨l1, l2, p, r, t, s, α, β, U, N, V, M, hp, hr, ht, hs, ea, eb, eu, enu, ev, env, i1, i2, ig, bU, bN, bV, bM, bα, bβ, hd⟩ := h
  have hβ : 0 < β := by
    rcases Nat.eq_zero_or_pos β with h0 | h0
    · subst h0; simp at eb; exact absurd eb hb
    · exact h0
  have q1 : a.tdiv b = p * r * ((α / β : Nat) : Int) := by rw [ea, eb]; exact tdiv_sgn p r α β hp hr
  have hmod : α % β < β := Nat.mod_lt _ hβ
  have hdm : β * (α / β) + α % β = α := Nat.div_add_mod α β
  generalize hq : α / β = q at *
  generalize hρ : α % β = ρ at *
  -- the new cofactors
  have j1 : β * (U + q * N) + ρ * N = B.natAbs := by
    rw [← i1, ← hdm]; simp only [Nat.mul_add, Nat.add_mul, Nat.mul_assoc, Nat.mul_comm, Nat.mul_left_comm]; omega
  have j2 : β * (V + q * M) + ρ * M = A.natAbs := by
    rw [← i2, ← hdm]; simp only [Nat.mul_add, Nat.add_mul, Nat.mul_assoc, Nat.mul_comm, Nat.mul_left_comm]; omega
  have k1 : U + q * N ≤ B.natAbs := by
    have : 1 * (U + q * N) ≤ β * (U + q * N) := Nat.mul_le_mul_right _ hβ
    omega
  have k2 : V + q * M ≤ A.natAbs := by
    have : 1 * (V + q * M) ≤ β * (V + q * M) := Nat.mul_le_mul_right _ hβ
    omega
  have kq : q ≤ α := by
    have : 1 * q ≤ β * q := Nat.mul_le_mul_right _ hβ
    omega
  have e1 : a.tdiv b * b = p * ((q * β : Nat) : Int) := by
    rw [q1, eb]; rcases hp with rfl | rfl <;> rcases hr with rfl | rfl <;> simp [Int.neg_mul, Int.mul_neg]
  have e2 : a.tdiv b * nu = p * r * t * ((q * N : Nat) : Int) := by
    rw [q1, enu]; rcases hp with rfl | rfl <;> rcases hr with rfl | rfl <;> rcases ht with rfl | rfl <;> simp [Int.neg_mul, Int.mul_neg]
  have e3 : a.tdiv b * nv = p * r * s * ((q * M : Nat) : Int) := by
    rw [q1, env]; rcases hp with rfl | rfl <;> rcases hr with rfl | rfl <;> rcases hs with rfl | rfl <;> simp [Int.neg_mul, Int.mul_neg]
  have e4 : a - a.tdiv b * b = p * (ρ : Int) := by
    rw [e1, ea]; have : (α : Int) = ((q * β : Nat) : Int) + ρ := by rw [← hdm, Nat.mul_comm β q]; omega
    rw [this]; rcases hp with rfl | rfl <;> omega
  refine ⟨⟨l2, ?_, r, p, -(p * r * t), -(p * r * s), β, ρ, N, U + q * N, M, V + q * M, hr, hp, ?_, ?_, eb, e4, ?_, ?_, ?_, ?_, j1, j2, ?_, bN, by omega, bM, by omega, bβ, by omega, ?_⟩, ?_, ?_, ?_, ?_, ?_⟩
  · have x1 : (u - a.tdiv b * nu) * A + (v - a.tdiv b * nv) * B = (u * A + v * B) - a.tdiv b * (nu * A + nv * B) := by
      simp only [Int.sub_mul, Int.mul_add, Int.mul_assoc]; omega
    rw [x1, ← l1, ← l2]
  · rcases hp with rfl | rfl <;> rcases hr with rfl | rfl <;> rcases ht with rfl | rfl <;> decide
  · rcases hp with rfl | rfl <;> rcases hr with rfl | rfl <;> rcases hs with rfl | rfl <;> decide
  · rw [enu]; rcases hp with rfl | rfl <;> rcases hr with rfl | rfl <;> rcases ht with rfl | rfl <;> simp [Int.neg_mul, Int.mul_neg]
  · rw [e2, eu]; rcases hp with rfl | rfl <;> rcases hr with rfl | rfl <;> rcases ht with rfl | rfl <;> omega
  · rw [env]; rcases hp with rfl | rfl <;> rcases hr with rfl | rfl <;> rcases hs with rfl | rfl <;> simp [Int.neg_mul, Int.mul_neg]
  · rw [e3, ev]; rcases hp with rfl | rfl <;> rcases hr with rfl | rfl <;> rcases hs with rfl | rfl <;> omega
  · rw [← ig, ← hρ, Nat.gcd_comm β, ← Nat.gcd_rec, Nat.gcd_comm]
  · right
    rcases hd with ⟨h1, h2, h3⟩ | ⟨h1, h2, h3⟩
    · subst h1 h2
      exact ⟨hmod, by omega, fun _ => by omega⟩
    · refine ⟨hmod, ?_, fun h0 => ?_⟩
      · have : 1 ≤ q := by
          rcases Nat.eq_zero_or_pos q with hz | hz
          · subst hz; omega
          · exact hz
        have : 1 * N ≤ q * N := Nat.mul_le_mul_right _ this
        omega
      · have : 2 ≤ q := by
          rcases Nat.lt_or_ge q 2 with hz | hz
          · have : q = 0 ∨ q = 1 := by omega
            rcases this with h | h <;> subst h <;> omega
          · exact hz
        have : 2 * N ≤ q * N := Nat.mul_le_mul_right _ this
        omega
  · rw [e4, eb]; rcases hp with rfl | rfl <;> rcases hr with rfl | rfl <;> omega
  · rw [q1]; rcases hp with rfl | rfl <;> rcases hr with rfl | rfl <;> omega
  · have : q * β ≤ α := by rw [Nat.mul_comm]; omega
    rw [e1]; rcases hp with rfl | rfl <;> omega
  · rw [e2]; rcases hp with rfl | rfl <;> rcases hr with rfl | rfl <;> rcases ht with rfl | rfl <;> omega
  · rw [e3]; rcases hp with rfl | rfl <;> rcases hr with rfl | rfl <;> rcases hs with rfl | rfl <;> omega

theorem eu_bounds {A B a b u v nu nv : Int} (h : Eu A B a b u v nu nv) :
    a.natAbs ≤ 1000000000000000000 ∧ b.natAbs ≤ 1000000000000000000 ∧ u.natAbs ≤ 1000000000000000000 ∧ v.natAbs ≤ 1000000000000000000 ∧ nu.natAbs ≤ 1000000000000000000 ∧ nv.natAbs ≤ 1000000000000000000 := by
  obtain ⟨_, _, p, r, t, s, α, β, U, N, V, M, hp, hr, ht, hs, ea, eb, eu, enu, ev, env, _, _, _, bU, bN, bV, bM, bα, bβ, _⟩ := h
  rw [ea, eb, eu, enu, ev, env]
  rcases hp with rfl | rfl <;> rcases hr with rfl | rfl <;> rcases ht with rfl | rfl <;> rcases hs with rfl | rfl <;> omega

/-- At the end: the greatest divisor, and a cofactor that is small. -/
theorem eu_end {A B a u v nu nv : Int} (hB : B ≠ 0) (h : Eu A B a 0 u v nu nv) :
    a.natAbs = Int.gcd A B ∧ u.natAbs < B.natAbs / Int.gcd A B ∧ a = u * A + v * B ∧ 0 < Int.gcd A B := by
  have hg : 0 < Int.gcd A B := Int.gcd_pos_of_ne_zero_right _ hB
  obtain ⟨l1, _, p, r, t, s, α, β, U, N, V, M, hp, hr, ht, hs, ea, eb, eu, enu, ev, env, i1, i2, ig, bU, bN, bV, bM, bα, bβ, hd⟩ := h
  have hβ : β = 0 := by rcases hr with rfl | rfl <;> omega
  subst hβ
  simp only [Nat.gcd_zero_right] at ig
  have hd' : U < N := by
    rcases hd with ⟨_, _, h3⟩ | ⟨_, _, h3⟩
    · omega
    · exact h3 rfl
  refine ⟨?_, ?_, l1, hg⟩
  · rw [ea, ← ig]; rcases hp with rfl | rfl <;> omega
  · have : B.natAbs / Int.gcd A B = N := by
      rw [← ig, ← i1]; simp only [Nat.zero_mul, Nat.add_zero]
      exact Nat.mul_div_cancel_left _ (by omega)
    rw [this, eu]; rcases hp with rfl | rfl <;> rcases hr with rfl | rfl <;> rcases ht with rfl | rfl <;> omega

end Go.Proofs.YtfbgblidlabipaaGreatDoor.MathA
end

section
/- Contracts of package whole's plain functions (isNumber, size, sign, gcd, euclid, bezout, left) over this translation. -/
set_option linter.unusedSimpArgs false
set_option linter.unusedVariables false
set_option maxRecDepth 100000
namespace Go.Proofs.YtfbgblidlabipaaGreatDoor
open Go.RowKit

theorem ret_int {k : IntKind} {a b : Int} (h : a = b) : Ending.returned (.int k a) = .returned (.int k b) := by rw [h]
theorem ret3 {k1 k2 k3 : IntKind} {a b c a' b' c' : Int} (h1 : a = a') (h2 : b = b') (h3 : c = c') : Ending.returned (.tuple #[.int k1 a, .int k2 b, .int k3 c]) = .returned (.tuple #[.int k1 a', .int k2 b', .int k3 c']) := by rw [h1, h2, h3]
theorem ret_bool {a b : Bool} (h : a = b) : Ending.returned (.bool a) = .returned (.bool b) := by rw [h]

def numB (n : Int) : Bool := decide (-1000000000000000000 ≤ n) && decide (n ≤ 1000000000000000000)
theorem numB_true {n : Int} (h : numB n = true) : -1000000000000000000 ≤ n ∧ n ≤ 1000000000000000000 := by
  simpa [numB] using h
theorem numB_mk {n : Int} (h1 : -1000000000000000000 ≤ n) (h2 : n ≤ 1000000000000000000) : numB n = true := by
  simp [numB, h1, h2]
theorem numB_false {n : Int} (h : numB n = false) : n < -1000000000000000000 ∨ 1000000000000000000 < n := by
  simp [numB] at h; omega

theorem isNumber_any (n : Int) (w : World) :
    Calls Tryz.prog 120 #[.int .i64 n] w fun e w' => e = .returned (.bool (numB n)) ∧ w' = w := by
  by_cases h1 : -1000000000000000000 ≤ n <;> by_cases h2 : n ≤ 1000000000000000000
  all_goals
    go_enter Tryz.func120, Tryz.ntmps120
    go_wp2
    go_ret
    exact ⟨ret_bool (by simp [numB, *] <;> omega), rfl⟩

theorem size_any (n : Int) (w : World) (h1 : -9223372036854775807 ≤ n) (h2 : n ≤ 9223372036854775807) :
    Calls Tryz.prog 308 #[.int .i64 n] w fun e w' => e = .returned (.int .i64 (n.natAbs : Int)) ∧ w' = w := by
  by_cases h : n < 0
  all_goals
    go_enter Tryz.func308, Tryz.ntmps308
    go_wp2
    go_ret
    exact ⟨ret_int (by omega), rfl⟩

theorem sign_any (n : Int) (w : World) :
    Calls Tryz.prog 320 #[.int .i64 n] w fun e w' => e = .returned (.int .i64 n.sign) ∧ w' = w := by
  rcases Int.lt_trichotomy n 0 with h | h | h
  all_goals
    go_enter Tryz.func320, Tryz.ntmps320
    go_wp2
    go_ret
    refine ⟨ret_int ?_, rfl⟩
  · exact (Int.sign_eq_neg_one_of_neg h).symm
  · subst h; rfl
  · exact (Int.sign_eq_one_of_pos h).symm

theorem gcd_any (a b : Int) (w : World) (ha : a.natAbs ≤ 1000000000000000000) (hb : b.natAbs ≤ 1000000000000000000) :
    Calls Tryz.prog 298 #[.int .i64 a, .int .i64 b] w fun e w' => e = .returned (.int .i64 (Int.gcd a b : Int)) ∧ ∃ n, w' = w.drewN n := by
  go_enter Tryz.func298, Tryz.ntmps298
  go_wp2
  go_loopw [0, 1] (fun x y wr => ∃ p q : Int, x = .int .i64 p ∧ y = .int .i64 q ∧ p.natAbs ≤ 1000000000000000000 ∧ q.natAbs ≤ 1000000000000000000 ∧ Int.gcd p q = Int.gcd a b ∧ ∃ n, wr = w.drewN n) (fun _ y _ => (intOf y).natAbs)
  case atStart => exact ⟨a, b, rfl, rfl, ha, hb, rfl, 0, rfl⟩
  case round =>
    obtain ⟨p, q, rfl, rfl, hp, hq, hg, n, rfl⟩ := hrel
    have HG : Hid (Int.gcd p q = Int.gcd a b) := hg
    clear hg
    by_cases h0 : q = 0
    · subst h0
      go_wp2_with (go_at_call 308; refine (size_any _ _ (by omega) (by omega)).mono ?_; rintro e w' ⟨rfl, rfl⟩)
      go_ret
      refine ⟨ret_int ?_, n, rfl⟩
      rw [← HG.out, Int.gcd_zero_right]
    · have hs := MathA.natAbs_tmod_lt p q h0
      have hs2 := MathA.gcd_step p q
      have HS : Hid (Int.gcd q (p.tmod q) = Int.gcd p q) := hs2
      clear hs2
      go_wp2
      go_region
      all_goals
        go_wp2
        go_roundw
        case rel => exact ⟨q, p.tmod q, rfl, rfl, hq, by omega, HS.out.trans HG.out, n + 1, rfl⟩
        case measure => simpa [intOf] using hs

set_option maxHeartbeats 1000000 in
theorem euclid_any (a b : Int) (w : World) (ha : a.natAbs ≤ 1000000000000000000) (hb : b.natAbs ≤ 1000000000000000000) (h0 : b ≠ 0) :
    Calls Tryz.prog 321 #[.int .i64 a, .int .i64 b] w fun e w' => ∃ u v : Int, e = .returned (.tuple #[.int .i64 (Int.gcd a b : Int), .int .i64 u, .int .i64 v]) ∧
      u * a + v * b = (Int.gcd a b : Int) ∧ u.natAbs < b.natAbs / Int.gcd a b ∧ v.natAbs ≤ 1000000000000000000 ∧ ∃ n, w' = w.drewN n := by
  have HE : Hid (MathA.Eu a b a b 1 0 0 1) := MathA.eu_start a b ha hb h0
  go_enter Tryz.func321, Tryz.ntmps321
  go_wp2
  go_loopw [0, 1, 5, 6, 7, 8] (fun x y s t s2 t2 wr => ∃ p q u v nu nv : Int, x = .int .i64 p ∧ y = .int .i64 q ∧ s = .int .i64 u ∧ t = .int .i64 v ∧ s2 = .int .i64 nu ∧ t2 = .int .i64 nv ∧ MathA.Eu a b p q u v nu nv ∧ ∃ n, wr = w.drewN n) (fun _ y _ _ _ _ _ => (intOf y).natAbs)
  case atStart => exact ⟨a, b, 1, 0, 0, 1, rfl, rfl, rfl, rfl, rfl, rfl, HE.out, 0, rfl⟩
  case round =>
    obtain ⟨p, q, u, v, nu, nv, rfl, rfl, rfl, rfl, rfl, rfl, hE, n, rfl⟩ := hrel
    obtain ⟨b1, b2, b3, b4, b5, b6⟩ := MathA.eu_bounds hE
    by_cases hq : q = 0
    · subst hq
      obtain ⟨c1, c2, c3, c4⟩ := MathA.eu_end h0 hE
      have C1 : Hid (p.natAbs = Int.gcd a b) := c1
      have C3 : Hid (p = u * a + v * b) := c3
      clear c1 c3 hE HE
      by_cases hp : p < 0
      all_goals
        go_wp2
        go_ret3
      · refine ⟨-u, -v, ?_, ?_, by omega, by omega, n, rfl⟩
        · rw [← C1.out]; exact ret3 (by omega) rfl rfl
        · rw [← C1.out, Int.neg_mul, Int.neg_mul]; have := C3.out; omega
      · refine ⟨u, v, ?_, ?_, by omega, by omega, n, rfl⟩
        · rw [← C1.out]; exact ret3 (by omega) rfl rfl
        · rw [← C1.out]; have := C3.out; omega
    · obtain ⟨d1, d2, d3, d4, d5, d6⟩ := MathA.eu_step ha hb hE hq
      have D1 : Hid (MathA.Eu a b q (p - p.tdiv q * q) nu nv (u - p.tdiv q * nu) (v - p.tdiv q * nv)) := d1
      have D2 : Hid ((p - p.tdiv q * q).natAbs < q.natAbs) := d2
      clear d1 d2 hE HE
      go_wp2
      go_roundw
      case rel => exact ⟨q, _, nu, nv, _, _, rfl, rfl, rfl, rfl, rfl, rfl, D1.out, n, rfl⟩
      case measure => exact D2.out

end Go.Proofs.YtfbgblidlabipaaGreatDoor
end

section
/- Contracts of package whole's bezout, left, Gcd, Bezout and what they call. -/
set_option linter.unusedSimpArgs false
set_option linter.unusedVariables false
set_option maxRecDepth 100000
namespace Go.Proofs.YtfbgblidlabipaaGreatDoor
open Go.RowKit

theorem sign_self (x : Int) : x.sign * x = (x.natAbs : Int) := by
  rcases Int.lt_trichotomy x 0 with h | h | h
  · rw [Int.sign_eq_neg_one_of_neg h]; omega
  · subst h; rfl
  · rw [Int.sign_eq_one_of_pos h]; omega

theorem bez_fix (a b g u v : Int) (hg : 0 < g) (h : u * a + v * b = g) (ha : ∃ k, a = g * k) (hb : ∃ k, b = g * k) :
    (u + (b.natAbs : Int).tdiv g) * a + (v - b.sign * a.tdiv g) * b = g := by
  obtain ⟨x, rfl⟩ := ha
  obtain ⟨y, rfl⟩ := hb
  have e1 : (g * x).tdiv g = x := Int.mul_tdiv_cancel_left _ (by omega)
  have e2 : ((g * y).natAbs : Int).tdiv g = (y.natAbs : Int) := by
    rw [Int.natAbs_mul, Int.natCast_mul, Int.natAbs_of_nonneg (by omega)]; exact Int.mul_tdiv_cancel_left _ (by omega)
  have e3 : (g * y).sign = y.sign := by rw [Int.sign_mul, Int.sign_eq_one_of_pos hg, Int.one_mul]
  have e4 : (y.natAbs : Int) = y.sign * y := (sign_self y).symm
  rw [e1, e2, e3, e4, Int.add_mul, Int.sub_mul]
  have e5 : y.sign * y * (g * x) = y.sign * x * (g * y) := by simp only [Int.mul_assoc, Int.mul_comm, Int.mul_left_comm]
  omega

/-- What Bezout promises. -/
structure Bez (a b u v : Int) : Prop where
  lin : u * a + v * b = (Int.gcd a b : Int)
  nul : b = 0 → v = 0 ∧ u = a.sign
  low : b ≠ 0 → 0 ≤ u
  high : b ≠ 0 → u < (b.natAbs / Int.gcd a b : Nat)
  vb : v.natAbs ≤ 2000000000000000000

set_option maxHeartbeats 1000000 in
theorem bezout_any (a b : Int) (w : World) (ha : a.natAbs ≤ 1000000000000000000) (hb : b.natAbs ≤ 1000000000000000000) :
    Calls Tryz.prog 316 #[.int .i64 a, .int .i64 b] w fun e w' => ∃ u v : Int, e = .returned (.tuple #[.int .i64 (Int.gcd a b : Int), .int .i64 u, .int .i64 v]) ∧
      Bez a b u v ∧ ∃ n, w' = w.drewN n := by
  by_cases h0 : b = 0
  · subst h0
    have hq : (a.sign * a = (a.natAbs : Int)) := sign_self a
    have HQ : Hid (a.sign * a = (a.natAbs : Int)) := hq
    clear hq
    go_enter Tryz.func316, Tryz.ntmps316
    go_wp2_with (first | (go_at_call 308; refine (size_any _ _ (by omega) (by omega)).mono ?_; rintro e w' ⟨rfl, rfl⟩) | (go_at_call 320; refine (sign_any _ _).mono ?_; rintro e w' ⟨rfl, rfl⟩))
    go_ret3
    refine ⟨a.sign, 0, ret3 (by rw [Int.gcd_zero_right]) rfl rfl, ⟨?_, fun _ => ⟨rfl, rfl⟩, fun h => absurd rfl h, fun h => absurd rfl h, by decide⟩, 0, rfl⟩
    rw [Int.gcd_zero_right, HQ.out]; omega
  · have hgp : 0 < Int.gcd a b := Int.gcd_pos_of_ne_zero_right _ h0
    have hgb : (Int.gcd a b : Int) ∣ b := Int.gcd_dvd_right ..
    have hga : (Int.gcd a b : Int) ∣ a := Int.gcd_dvd_left ..
    have hdb : (b.natAbs : Int) / (Int.gcd a b : Int) ≤ 1000000000000000000 ∧ 0 ≤ (b.natAbs : Int) / (Int.gcd a b : Int) := by
      rw [← Int.natCast_ediv]; have := Nat.div_le_self b.natAbs (Int.gcd a b); generalize b.natAbs / Int.gcd a b = z at *; omega
    have hda : -1000000000000000000 ≤ b.sign * a.tdiv (Int.gcd a b : Int) ∧ b.sign * a.tdiv (Int.gcd a b : Int) ≤ 1000000000000000000 := by
      have h1 : (a.tdiv (Int.gcd a b : Int)).natAbs ≤ 1000000000000000000 := by
        rw [Int.natAbs_tdiv]; exact Nat.le_trans (Nat.div_le_self ..) ha
      rcases Int.lt_trichotomy b 0 with h | h | h
      · rw [Int.sign_eq_neg_one_of_neg h]; omega
      · exact absurd h h0
      · rw [Int.sign_eq_one_of_pos h]; omega
    go_enter Tryz.func316, Tryz.ntmps316
    go_wp2_with fail
    refine (euclid_any a b _ ha hb h0).mono ?_
    rintro e w1 ⟨u, v, rfl, hl, hu, hv, hw1⟩
    have HW : Hid (∃ n, w1 = w.drewN n) := hw1
    clear hw1
    have HL : Hid (u * a + v * b = (Int.gcd a b : Int)) := hl
    have HU : Hid (u.natAbs < b.natAbs / Int.gcd a b) := hu
    have hu2 : -1000000000000000000 ≤ u ∧ u ≤ 1000000000000000000 := by
      have := Nat.div_le_self b.natAbs (Int.gcd a b); omega
    clear hl hu
    by_cases hneg : u < 0
    · go_wp2_with (go_at_call 308; refine (size_any _ _ (by omega) (by omega)).mono ?_; rintro e w' ⟨rfl, rfl⟩)
      go_quiet ((go_at_call 320; exact Calls.quiet_of_same (sign_any _ _)))
      go_wp2
      go_ret3
      refine ⟨_, _, rfl, ⟨?_, fun h => absurd h h0, fun _ => ?_, fun _ => ?_, by omega⟩, ?_⟩
      · have := bez_fix a b (Int.gcd a b) u v (by omega) HL.out hga hgb
        rwa [Int.tdiv_eq_ediv_of_nonneg (by omega)] at this
      · have := HU.out; rw [← Int.natCast_ediv]; omega
      · rw [← Int.natCast_ediv]; omega
      · obtain ⟨n, rfl⟩ := HW.out; exact ⟨_, World.drewN_drewN ..⟩
    · go_wp2
      go_ret3
      exact ⟨u, v, rfl, ⟨HL.out, fun h => absurd h h0, fun _ => by omega, fun _ => by have := HU.out; omega, by omega⟩, HW.out⟩

end Go.Proofs.YtfbgblidlabipaaGreatDoor
end

section
/- Contracts: the faults of numbers, and the calls Gcd and Bezout. -/
set_option linter.unusedSimpArgs false
set_option linter.unusedVariables false
set_option maxRecDepth 100000
namespace Go.Proofs.YtfbgblidlabipaaGreatDoor
open Go.RowKit

/-- The fault of the first that is no number: its code and place. -/
def nf : Nat → List Int → Int × Int
  | _, [] => (0, 0)
  | i, x :: r => if numB x = true then nf (i + 1) r else (3, i)

theorem nf_skip (xs : List Int) (k : Nat) (hk : k ≤ xs.length) (h : ∀ j, j < k → numB (xs.getD j 0) = true) : nf 0 xs = nf k (xs.drop k) := by
  induction k with
  | zero => rfl
  | succ n ih =>
    rw [ih (by omega) (fun j hj => h j (by omega)), List.drop_eq_getElem_cons (by omega), nf]
    have := h n (by omega)
    rw [List.getD_eq_getElem?_getD, List.getElem?_eq_getElem (by omega), Option.getD_some] at this
    rw [if_pos this]
theorem nf_none (xs : List Int) (h : ∀ j, j < xs.length → numB (xs.getD j 0) = true) : nf 0 xs = (0, 0) := by
  rw [nf_skip xs xs.length (Nat.le_refl _) h, List.drop_length]; rfl
theorem nf_hit (xs : List Int) (k : Nat) (hk : k < xs.length) (h : ∀ j, j < k → numB (xs.getD j 0) = true) (hb : numB (xs.getD k 0) = false) : nf 0 xs = (3, (k : Int)) := by
  rw [nf_skip xs k (by omega) h, List.drop_eq_getElem_cons hk, nf]
  rw [List.getD_eq_getElem?_getD, List.getElem?_eq_getElem hk, Option.getD_some] at hb
  rw [if_neg (by simp [hb])]

theorem number_any (n : Int) (w : World) :
    Calls Tryz.prog 59 #[.int .i64 n] w fun e w' => e = .returned (.bool (numB n)) ∧ w' = w := by
  by_cases h1 : -1000000000000000000 ≤ n <;> by_cases h2 : n ≤ 1000000000000000000
  all_goals
    go_enter Tryz.func59, Tryz.ntmps59
    go_wp2
    go_ret
    exact ⟨ret_bool (by simp [numB, *] <;> omega), rfl⟩

set_option maxHeartbeats 400000 in
theorem numbersFault_any (xs : List Int) (b o cap : Nat) (w : World) (hl : xs.length ≤ 1000000000) (hb : b < w.heap.size)
    (hc : ∀ j, j < xs.length → w.cell? ⟨b, o + j, none⟩ = some (.int .i64 (xs.getD j 0))) :
    Calls Tryz.prog 57 #[.slice (some ⟨b, o, none⟩) xs.length cap] w fun e w' => e = .returned (.agg #[.int .i64 (nf 0 xs).1, .int .i64 (nf 0 xs).2]) ∧ Below w.heap.size w w' := by
  go_enter Tryz.func57, Tryz.ntmps57
  go_wp2
  go_loop [7] (fun i => ∃ k : Nat, k ≤ xs.length ∧ i = .int .i64 k ∧ ∀ j, j < k → numB (xs.getD j 0) = true) (fun i => xs.length - (intOf i).toNat)
  case atStart => exact ⟨0, Nat.zero_le _, rfl, fun j hj => absurd hj (Nat.not_lt_zero _)⟩
  case round =>
    obtain ⟨k, hk, rfl, hok⟩ := hrel
    have HOK : Hid (∀ j, j < k → numB (xs.getD j 0) = true) := hok
    have HC := hc
    clear hok hc
    by_cases hlt : k < xs.length
    · have hck := HC k hlt
      obtain ⟨x, hx⟩ : ∃ x, x = xs.getD k 0 := ⟨_, rfl⟩
      rw [← hx] at hck
      have HX : Hid (x = xs.getD k 0) := hx
      clear HC hx
      cases hn : numB x
      · go_wp2_with (go_at_call 120; refine (isNumber_any _ _).mono ?_; rintro e w' ⟨rfl, rfl⟩)
        refine bodyPost_ret (v := .agg #[.int .i64 3, .int .i64 k]) (by simp [results, Tryz.results57, go_sem]) rfl ⟨?_, ?_⟩
        · rw [nf_hit xs k hlt HOK.out (by rw [← HX.out]; exact hn)]
        · exact Below.alloc (Below.refl _ _) (Nat.le_refl _) _
      · go_wp2_with (go_at_call 120; refine (isNumber_any _ _).mono ?_; rintro e w' ⟨rfl, rfl⟩)
        go_round
        case rel =>
          refine ⟨k + 1, by omega, by go_num, fun j hj => ?_⟩
          by_cases hjk : j = k
          · subst hjk; rw [← HX.out]; exact hn
          · exact HOK.out j (by omega)
        case measure => simp [intOf]; omega
    · go_wp2
      refine bodyPost_ret (v := .agg #[.int .i64 0, .int .i64 0]) (by simp [results, Tryz.results57, go_sem]) rfl ⟨?_, ?_⟩
      · rw [nf_none xs (fun j hj => HOK.out j (by omega))]
      · exact Below.alloc (Below.refl _ _) (Nat.le_refl _) _

theorem bcell {W w1 : World} (hb : Below W.heap.size W w1) : (∀ b o, b < W.heap.size → w1.cell? ⟨b, o, none⟩ = W.cell? ⟨b, o, none⟩) ∧ (∀ b o, b < W.heap.size → w1.frozen? ⟨b, o, none⟩ = W.frozen? ⟨b, o, none⟩) :=
  ⟨fun b o h => hb.cell (p := ⟨b, o, none⟩) h, fun b o h => hb.frozen (p := ⟨b, o, none⟩) h⟩

theorem below_drewN' {B n : Nat} {a w : World} (h : Below B a w) : Below B a (w.drewN n) := ⟨h.os, h.tape, h.output, h.size, h.block⟩

theorem two_cells (a b : Int) (W : World) (B : Nat) (h0 : W.cell? ⟨B, 0, none⟩ = some (.int .i64 a)) (h1 : W.cell? ⟨B, 1, none⟩ = some (.int .i64 b)) :
    ∀ j, j < [a, b].length → W.cell? ⟨B, 0 + j, none⟩ = some (.int .i64 ([a, b].getD j 0)) := by
  intro j hj
  match j, hj with
  | 0, _ => exact h0
  | 1, _ => exact h1

def okB (a b : Int) : Bool := numB a && numB b

set_option maxHeartbeats 400000 in
theorem Gcd_bad (a b : Int) (w : World) (h : okB a b = false) :
    Calls Tryz.prog 288 #[.int .i64 a, .int .i64 b] w fun e w' => e = .returned (.tuple #[.int .i64 0, .agg #[.int .i64 (nf 0 [a, b]).1, .int .i64 (nf 0 [a, b]).2]]) ∧ Below w.heap.size w w' := by
  have hne : ((nf 0 [a, b]).1 != 0) = true := by
    unfold okB at h; unfold nf nf nf; cases h1 : numB a <;> cases h2 : numB b <;> simp_all
  obtain ⟨c, d, hcd⟩ : ∃ c d, nf 0 [a, b] = (c, d) := ⟨_, _, rfl⟩
  rw [hcd] at hne ⊢
  have HCD : Hid (nf 0 [a, b] = (c, d)) := hcd
  clear hcd h
  simp only at hne ⊢
  go_enter Tryz.func288, Tryz.ntmps288
  go_wp2_with fail
  refine (numbersFault_any [a, b] _ 0 _ _ (by simp) ?_ ?_).mono ?_
  · simp
  · exact two_cells a b _ _ (by simp) (by simp)
  rw [HCD.out]
  rintro e w1 ⟨rfl, hb⟩
  have hz : w.heap.size < w1.heap.size := by have := hb.size; simp at this; omega
  have q0 : w1.cell? ⟨w.heap.size, 0, none⟩ = some (.int .i64 0) := cell_later hb (by simp)
  have q1 : w1.cell? ⟨w.heap.size, 1, none⟩ = some (.int .i64 0) := cell_later hb (by simp)
  have q2 : w1.frozen? ⟨w.heap.size, 0, none⟩ = false := (hb.frozen (p := ⟨w.heap.size, 0, none⟩) (by simp; omega)).trans (by simp)
  have q3 : w1.frozen? ⟨w.heap.size, 1, none⟩ = false := (hb.frozen (p := ⟨w.heap.size, 1, none⟩) (by simp; omega)).trans (by simp)
  go_wp2
  go_region
  all_goals
    go_wp2
    refine bodyPost_ret (v := .tuple #[.int .i64 0, .agg #[.int .i64 c, .int .i64 d]]) (by simp [results, Tryz.results288, go_sem, q0, q1, hz]) rfl ⟨rfl, ?_⟩
    refine Below.drew (Below.alloc (Below.setCell (Below.setCell (Below.trans (Below.alloc (Below.alloc (Below.refl _ _) ?_ _) ?_ _) (hb.mono ?_)) ?_ _) ?_ _) ?_ _) <;> first | omega | (simp; done) | (simp; omega)

theorem okB_bounds {a b : Int} (h : okB a b = true) : a.natAbs ≤ 1000000000000000000 ∧ b.natAbs ≤ 1000000000000000000 := by
  unfold okB at h; rw [Bool.and_eq_true] at h
  have h1 := numB_true h.1; have h2 := numB_true h.2; omega
theorem okB_nf {a b : Int} (h : okB a b = true) : nf 0 [a, b] = (0, 0) := by
  unfold okB at h; rw [Bool.and_eq_true] at h
  simp [nf, h.1, h.2]

set_option maxHeartbeats 400000 in
theorem Gcd_ok (a b : Int) (w : World) (h : okB a b = true) :
    Calls Tryz.prog 288 #[.int .i64 a, .int .i64 b] w fun e w' => e = .returned (.tuple #[.int .i64 (Int.gcd a b : Int), .agg #[.int .i64 0, .int .i64 0]]) ∧ Below w.heap.size w w' := by
  obtain ⟨ha, hb'⟩ := okB_bounds h
  have hcd := okB_nf h
  have HCD : Hid (nf 0 [a, b] = (0, 0)) := hcd
  clear hcd h
  go_enter Tryz.func288, Tryz.ntmps288
  go_wp2_with fail
  refine (numbersFault_any [a, b] _ 0 _ _ (by simp) ?_ ?_).mono ?_
  · simp
  · exact two_cells a b _ _ (by simp) (by simp)
  rw [HCD.out]
  rintro e w1 ⟨rfl, hb⟩
  have hz : w.heap.size < w1.heap.size := by have := hb.size; simp at this; omega
  have q0 : w1.cell? ⟨w.heap.size, 0, none⟩ = some (.int .i64 0) := cell_later hb (by simp)
  have q1 : w1.cell? ⟨w.heap.size, 1, none⟩ = some (.int .i64 0) := cell_later hb (by simp)
  have q2 : w1.frozen? ⟨w.heap.size, 0, none⟩ = false := (hb.frozen (p := ⟨w.heap.size, 0, none⟩) (by simp; omega)).trans (by simp)
  have q3 : w1.frozen? ⟨w.heap.size, 1, none⟩ = false := (hb.frozen (p := ⟨w.heap.size, 1, none⟩) (by simp; omega)).trans (by simp)
  go_wp2_with fail
  refine (gcd_any _ _ _ ha hb').mono ?_
  rintro e w2 ⟨rfl, n, rfl⟩
  go_wp2
  refine bodyPost_ret (v := .tuple #[.int .i64 (Int.gcd a b : Int), .agg #[.int .i64 0, .int .i64 0]]) (by simp [results, Tryz.results288, go_sem, q0, q1, hz]) rfl ⟨rfl, ?_⟩
  refine Below.setCell (Below.setCell (below_drewN' (Below.alloc (Below.trans (Below.alloc (Below.alloc (Below.refl _ _) ?_ _) ?_ _) (hb.mono ?_)) ?_ _)) ?_ _) ?_ _ <;> first | omega | (simp; done) | (simp; omega)
end Go.Proofs.YtfbgblidlabipaaGreatDoor
end
