import Derived.Test.YtfbgblidlabipaaGreatDoorJoinA
import Derived.Test.YtfbgblidlabipaaGreatDoorJoinE
import Derived.Test.YtfbgblidlabipaaGreatDoorJoinH
section
/- Plain: of all fractions with a small denominator the nearest is one of two. -/
set_option linter.unusedSimpArgs false
set_option linter.unusedVariables false
set_option maxRecDepth 100000
namespace Go.Proofs.YtfbgblidlabipaaGreatDoor.CnM

/-- A whole combination of two vectors whose determinant is one. -/
theorem comb {p q p1 q1 p2 q2 e : Int} (he : e * e = 1) (hd : p1 * q2 - p2 * q1 = e) :
    q = (-e * (p * q1 - q * p1)) * q2 + (e * (p * q2 - q * p2)) * q1 ∧ p = (-e * (p * q1 - q * p1)) * p2 + (e * (p * q2 - q * p2)) * p1 := by
  constructor
  · have h : (-e * (p * q1 - q * p1)) * q2 + (e * (p * q2 - q * p2)) * q1 = e * (q * (p1 * q2 - p2 * q1)) := by
      simp only [Int.mul_sub, Int.sub_mul, Int.neg_mul, Int.mul_neg, Int.mul_comm, Int.mul_left_comm, Int.mul_assoc]; omega
    rw [h, hd, Int.mul_left_comm, he, Int.mul_one]
  · have h : (-e * (p * q1 - q * p1)) * p2 + (e * (p * q2 - q * p2)) * p1 = e * (p * (p1 * q2 - p2 * q1)) := by
      simp only [Int.mul_sub, Int.sub_mul, Int.neg_mul, Int.mul_neg, Int.mul_comm, Int.mul_left_comm, Int.mul_assoc]; omega
    rw [h, hd, Int.mul_left_comm, he, Int.mul_one]

/-- What two vectors with gaps of opposite signs leave to a third one. -/
theorem two_best {x y q1 q2 g1 g2 q : Int} (hq1 : 1 ≤ q1) (hq2 : 1 ≤ q2) (h1 : 0 < g1) (h2 : g2 < 0) (hq : q = x * q2 + y * q1) (h0 : 1 ≤ q) (hlt : q < q1 + q2) :
    x = 0 ∨ y = 0 ∨ (0 < y ∧ x < 0 ∧ g1 * q < (x * g2 + y * g1) * q1) ∨ (0 < x ∧ y < 0 ∧ -g2 * q < -(x * g2 + y * g1) * q2) := by
  rcases Int.lt_trichotomy x 0 with hx | hx | hx
  · rcases Int.lt_trichotomy y 0 with hy | hy | hy
    · have a := Int.mul_le_mul_of_nonneg_right (show x ≤ 0 by omega) (show 0 ≤ q2 by omega)
      have b := Int.mul_le_mul_of_nonneg_right (show y ≤ 0 by omega) (show 0 ≤ q1 by omega)
      omega
    · exact .inr (.inl hy)
    · refine .inr (.inr (.inl ⟨hy, hx, ?_⟩))
      have a : x * q2 < 0 := Int.mul_neg_of_neg_of_pos hx (by omega)
      have b : 0 < x * g2 := Int.mul_pos_of_neg_of_neg hx h2
      have c : g1 * q < g1 * (y * q1) := Int.mul_lt_mul_of_pos_left (by omega) h1
      have d : 0 < x * g2 * q1 := Int.mul_pos b (by omega)
      rw [Int.add_mul]
      have e : g1 * (y * q1) = y * g1 * q1 := by rw [← Int.mul_assoc, Int.mul_comm g1 y]
      omega
  · exact .inl hx
  · rcases Int.lt_trichotomy y 0 with hy | hy | hy
    · refine .inr (.inr (.inr ⟨hx, hy, ?_⟩))
      have a : y * q1 < 0 := Int.mul_neg_of_neg_of_pos hy (by omega)
      have b : y * g1 < 0 := Int.mul_neg_of_neg_of_pos hy h1
      have c : -g2 * q < -g2 * (x * q2) := Int.mul_lt_mul_of_pos_left (by omega) (by omega)
      have d : y * g1 * q2 < 0 := Int.mul_neg_of_neg_of_pos b (by omega)
      have e : -g2 * (x * q2) = -(x * g2 * q2) := by rw [Int.neg_mul, ← Int.mul_assoc, Int.mul_comm g2 x]
      have f : -(x * g2 + y * g1) * q2 = -(x * g2 * q2) - y * g1 * q2 := by rw [Int.neg_mul, Int.add_mul]; omega
      rw [f]
      omega
    · exact .inr (.inl hy)
    · have a := Int.mul_le_mul_of_nonneg_right (show 1 ≤ x by omega) (show 0 ≤ q2 by omega)
      have b := Int.mul_le_mul_of_nonneg_right (show 1 ≤ y by omega) (show 0 ≤ q1 by omega)
      omega

/-- How far: the gap of p / q from a / b. -/
def gp (a b p q : Int) : Int := a * q - b * p
theorem gp_lin (a b x y p1 q1 p2 q2 : Int) : gp a b (x * p2 + y * p1) (x * q2 + y * q1) = x * gp a b p2 q2 + y * gp a b p1 q1 := by
  unfold gp
  simp only [Int.mul_add, Int.mul_sub, Int.mul_comm, Int.mul_left_comm]; omega

/-- THE NEAREST: with two neighbours whose gaps have opposite signs, whatever has a denominator under their sum is one of them or farther than one of them. -/
theorem near_two {a b p q p1 q1 p2 q2 e : Int} (he : e * e = 1) (hd : p1 * q2 - p2 * q1 = e) (hq1 : 1 ≤ q1) (hq2 : 1 ≤ q2)
    (hg : gp a b p1 q1 < 0 ∧ 0 < gp a b p2 q2 ∨ 0 < gp a b p1 q1 ∧ gp a b p2 q2 < 0) (h0 : 1 ≤ q) (hlt : q < q1 + q2) :
    p * q1 = q * p1 ∨ p * q2 = q * p2 ∨ ((gp a b p1 q1).natAbs : Int) * q < ((gp a b p q).natAbs : Int) * q1 ∨ ((gp a b p2 q2).natAbs : Int) * q < ((gp a b p q).natAbs : Int) * q2 := by
  obtain ⟨c1, c2⟩ := comb (p := p) (q := q) he hd
  have hx0 : -e * (p * q1 - q * p1) = 0 → p * q1 = q * p1 := fun h => by
    have h1 : e * (-e * (p * q1 - q * p1)) = 0 := by rw [h, Int.mul_zero]
    rw [← Int.mul_assoc, Int.mul_neg, he] at h1
    omega
  have hy0 : e * (p * q2 - q * p2) = 0 → p * q2 = q * p2 := fun h => by
    have h1 : e * (e * (p * q2 - q * p2)) = 0 := by rw [h, Int.mul_zero]
    rw [← Int.mul_assoc, he] at h1
    omega
  have hl := gp_lin a b (-e * (p * q1 - q * p1)) (e * (p * q2 - q * p2)) p1 q1 p2 q2
  rw [← c1, ← c2] at hl
  generalize -e * (p * q1 - q * p1) = x at *
  generalize e * (p * q2 - q * p2) = y at *
  generalize gp a b p1 q1 = g1 at *
  generalize gp a b p2 q2 = g2 at *
  generalize gp a b p q = g at *
  rcases hg with ⟨h1, h2⟩ | ⟨h1, h2⟩
  · have hb := two_best (g1 := -g1) (g2 := -g2) hq1 hq2 (by omega) (by omega) c1 h0 hlt
    have hn : x * -g2 + y * -g1 = -g := by rw [hl, Int.mul_neg, Int.mul_neg]; omega
    rw [hn] at hb
    rcases hb with h | h | ⟨_, _, h⟩ | ⟨_, _, h⟩
    · exact .inl (hx0 h)
    · exact .inr (.inl (hy0 h))
    · right; right; left
      rw [show ((g1.natAbs : Nat) : Int) = -g1 by omega]
      have : -g * q1 ≤ (g.natAbs : Int) * q1 := Int.mul_le_mul_of_nonneg_right (by omega) (by omega)
      omega
    · right; right; right
      rw [show ((g2.natAbs : Nat) : Int) = - -g2 by omega]
      have : - -g * q2 ≤ (g.natAbs : Int) * q2 := Int.mul_le_mul_of_nonneg_right (by omega) (by omega)
      omega
  · have hb := two_best hq1 hq2 h1 h2 c1 h0 hlt
    rw [← hl] at hb
    rcases hb with h | h | ⟨_, _, h⟩ | ⟨_, _, h⟩
    · exact .inl (hx0 h)
    · exact .inr (.inl (hy0 h))
    · right; right; left
      rw [show ((g1.natAbs : Nat) : Int) = g1 by omega]
      have : g * q1 ≤ (g.natAbs : Int) * q1 := Int.mul_le_mul_of_nonneg_right (by omega) (by omega)
      omega
    · right; right; right
      rw [show ((g2.natAbs : Nat) : Int) = -g2 by omega]
      have : -g * q2 ≤ (g.natAbs : Int) * q2 := Int.mul_le_mul_of_nonneg_right (by omega) (by omega)
      omega


/-- How far p / q is, times b q. -/
def ds (a b p q : Int) : Int := ((gp a b p q).natAbs : Int)
theorem ds_pos (a b p q : Int) : 0 ≤ ds a b p q := by unfold ds; omega

/-- P / Q is as good as p / q: nearer, or as near with a lesser denominator, or the lesser one. -/
def Le (a b P Q p q : Int) : Prop := ds a b P Q * q < ds a b p q * Q ∨ ds a b P Q * q = ds a b p q * Q ∧ (Q < q ∨ Q = q ∧ P ≤ p)

structure BestF (a b most P Q : Int) : Prop where
  pos : 1 ≤ Q
  le : Q ≤ most
  all : ∀ p q, 1 ≤ q → q ≤ most → Le a b P Q p q

theorem BestF.uniq {a b most P Q p q : Int} (h : BestF a b most P Q) (k : BestF a b most p q) : P = p ∧ Q = q := by
  have h1 := h.all p q k.pos k.le
  have h2 := k.all P Q h.pos h.le
  unfold Le at h1 h2
  generalize ds a b P Q * q = X at *
  generalize ds a b p q * Q = Y at *
  omega

theorem gp_mul (a b p q d : Int) : gp a b (p * d) (q * d) = gp a b p q * d := by
  unfold gp; simp only [Int.sub_mul, Int.mul_assoc]

theorem ds_mul (a b p q d : Int) (hd : 0 ≤ d) : ds a b (p * d) (q * d) = ds a b p q * d := by
  unfold ds; rw [gp_mul, Int.natAbs_mul]; push_cast; congr 1; omega

theorem BestF.low {a b most P Q : Int} (h : BestF a b most P Q) : Nat.gcd P.natAbs Q.natAbs = 1 := by
  obtain ⟨d, hd⟩ : ∃ d, Nat.gcd P.natAbs Q.natAbs = d := ⟨_, rfl⟩
  rw [hd]
  have d1 : (d : Int) ∣ P := Int.ofNat_dvd_left.2 (hd ▸ Nat.gcd_dvd_left _ _)
  have d2 : (d : Int) ∣ Q := Int.ofNat_dvd_left.2 (hd ▸ Nat.gcd_dvd_right _ _)
  obtain ⟨p, rfl⟩ := d1
  obtain ⟨q, rfl⟩ := d2
  have hp := h.pos
  have hl := h.le
  have hd0 : d ≠ 0 := by rintro rfl; simp at hp
  by_cases hd1 : d = 1
  · exact hd1
  exfalso
  have hq : 1 ≤ q := by
    rcases Int.lt_or_le q 1 with h1 | h1
    · have := Int.mul_le_mul_of_nonneg_left (show q ≤ 0 by omega) (show (0 : Int) ≤ d by omega); omega
    · exact h1
  have hlt : q < d * q := by
    have := Int.mul_le_mul_of_nonneg_right (show (2 : Int) ≤ d by omega) (show 0 ≤ q by omega); omega
  have := h.all p q hq (by omega)
  unfold Le at this
  rw [Int.mul_comm (d : Int) p, Int.mul_comm (d : Int) q, ds_mul _ _ _ _ _ (by omega)] at this
  rw [Int.mul_comm (d : Int) q] at hlt
  have e : ds a b p q * d * q = ds a b p q * (q * d) := by rw [Int.mul_assoc, Int.mul_comm (d : Int) q]
  rw [e] at this
  omega

/-- What is as far, in one. -/
theorem ds_eq {a b p q P Q : Int} (hq : 1 ≤ q) (hQ : 1 ≤ Q) (h : p * Q = q * P) : ds a b P Q * q = ds a b p q * Q := by
  have e1 : gp a b P Q * q = gp a b p q * Q := by
    unfold gp
    grind
  unfold ds
  have h1 : ((gp a b P Q * q).natAbs : Int) = ((gp a b p q * Q).natAbs : Int) := by rw [e1]
  rw [Int.natAbs_mul, Int.natAbs_mul] at h1
  push_cast at h1
  rw [show ((q.natAbs : Nat) : Int) = q by omega, show ((Q.natAbs : Nat) : Int) = Q by omega] at h1
  exact h1

/-- The same fraction, one of them in lowest terms. -/
theorem le_same {a b p q P Q u v : Int} (hq : 1 ≤ q) (hQ : 1 ≤ Q) (h : p * Q = q * P) (hc : u * P + v * Q = 1) : Le a b P Q p q := by
  right
  refine ⟨ds_eq hq hQ h, ?_⟩
  -- q = Q (u p + v q)
  have e : q = Q * (u * p + v * q) := by grind
  generalize u * p + v * q = k at e
  have hk : 1 ≤ k := by
    rcases Int.lt_or_le k 1 with h1 | h1
    · have := Int.mul_le_mul_of_nonneg_left (show k ≤ 0 by omega) (show 0 ≤ Q by omega); omega
    · exact h1
  rcases Int.lt_or_le Q q with h1 | h1
  · exact .inl h1
  · right
    have : Q * 1 ≤ Q * k := Int.mul_le_mul_of_nonneg_left hk (by omega)
    have hQq : Q = q := by omega
    refine ⟨hQq, ?_⟩
    subst hQq
    rw [Int.mul_comm Q P] at h
    exact Int.le_of_eq (Int.eq_of_mul_eq_mul_right (by omega) h).symm

theorem lt_trans3 {x qx y qy g q : Int} (hqx : 1 ≤ qx) (hqy : 1 ≤ qy) (hq : 1 ≤ q) (h1 : x * qy ≤ y * qx) (h2 : y * q < g * qy) : x * q < g * qx := by
  have a1 := Int.mul_le_mul_of_nonneg_right h1 (show 0 ≤ q by omega)
  have a2 := Int.mul_lt_mul_of_pos_right h2 (show 0 < qx by omega)
  have e1 : x * qy * q = x * q * qy := by rw [Int.mul_assoc, Int.mul_comm qy q, ← Int.mul_assoc]
  have e2 : y * qx * q = y * q * qx := by rw [Int.mul_assoc, Int.mul_comm qx q, ← Int.mul_assoc]
  have e3 : g * qy * qx = g * qx * qy := by rw [Int.mul_assoc, Int.mul_comm qy qx, ← Int.mul_assoc]
  rw [e1, e2] at a1
  rw [e3] at a2
  exact Int.lt_of_mul_lt_mul_right (Int.lt_of_le_of_lt a1 a2) (by omega)

theorem le_trans3 {x qx y qy g q : Int} (hqx : 1 ≤ qx) (hqy : 1 ≤ qy) (hq : 1 ≤ q) (h1 : x * qy ≤ y * qx) (h2 : y * q ≤ g * qy) : x * q ≤ g * qx := by
  have a1 := Int.mul_le_mul_of_nonneg_right h1 (show 0 ≤ q by omega)
  have a2 := Int.mul_le_mul_of_nonneg_right h2 (show 0 ≤ qx by omega)
  have e1 : x * qy * q = x * q * qy := by rw [Int.mul_assoc, Int.mul_comm qy q, ← Int.mul_assoc]
  have e2 : y * qx * q = y * q * qx := by rw [Int.mul_assoc, Int.mul_comm qx q, ← Int.mul_assoc]
  have e3 : g * qy * qx = g * qx * qy := by rw [Int.mul_assoc, Int.mul_comm qy qx, ← Int.mul_assoc]
  rw [e1, e2] at a1
  rw [e3] at a2
  exact Int.le_of_mul_le_mul_right (Int.le_trans a1 a2) (by omega)

theorem Le.trans {a b p1 q1 p2 q2 p3 q3 : Int} (h1 : 1 ≤ q1) (h2 : 1 ≤ q2) (h3 : 1 ≤ q3) (h : Le a b p1 q1 p2 q2) (k : Le a b p2 q2 p3 q3) : Le a b p1 q1 p3 q3 := by
  unfold Le at *
  generalize ds a b p1 q1 = x at *
  generalize ds a b p2 q2 = y at *
  generalize ds a b p3 q3 = g at *
  rcases h with h | ⟨h, h'⟩
  · left
    rcases k with k | ⟨k, _⟩
    · exact lt_trans3 h1 h2 h3 (by omega) k
    · -- x q2 < y q1, y q3 = g q2
      rcases Int.lt_or_le (x * q3) (g * q1) with c | c
      · exact c
      · exfalso
        have := le_trans3 (x := g) (qx := q3) (y := x) (qy := q1) (g := y) (q := q2) h3 h1 h2 c (by omega)
        have h9 := lt_trans3 (x := g) (qx := q3) (y := x) (qy := q1) (g := y) (q := q2) h3 h1 h2 c (by omega)
        omega
  · rcases k with k | ⟨k, k'⟩
    · left; exact lt_trans3 h1 h2 h3 (by omega) k
    · right
      have c1 := le_trans3 (x := x) (qx := q1) (y := y) (qy := q2) (g := g) (q := q3) h1 h2 h3 (by omega) (by omega)
      have c2 := le_trans3 (x := g) (qx := q3) (y := y) (qy := q2) (g := x) (q := q1) h3 h2 h1 (by omega) (by omega)
      refine ⟨by omega, by omega⟩

theorem Le.total (a b p1 q1 p2 q2 : Int) : Le a b p1 q1 p2 q2 ∨ Le a b p2 q2 p1 q1 := by
  unfold Le
  generalize ds a b p1 q1 * q2 = x
  generalize ds a b p2 q2 * q1 = y
  omega

/-- Of two neighbours the better one is the best of all. -/
theorem best_two {a b most p1 q1 p2 q2 e : Int} (he : e * e = 1) (hd : p1 * q2 - p2 * q1 = e) (hq1 : 1 ≤ q1) (hq2 : 1 ≤ q2)
    (hg : gp a b p1 q1 < 0 ∧ 0 < gp a b p2 q2 ∨ 0 < gp a b p1 q1 ∧ gp a b p2 q2 < 0) (hm1 : q1 ≤ most) (hm2 : q2 ≤ most) (hlt : most < q1 + q2) (h : Le a b p1 q1 p2 q2) :
    BestF a b most p1 q1 := by
  refine ⟨hq1, hm1, fun p q h0 hm => ?_⟩
  have c1 : e * q2 * p1 + -(e * p2) * q1 = 1 := by
    grind
  have c2 : -(e * q1) * p2 + e * p1 * q2 = 1 := by
    grind
  rcases near_two he hd hq1 hq2 hg h0 (by omega) (p := p) (q := q) with k | k | k | k
  · exact le_same h0 hq1 k c1
  · exact h.trans hq1 hq2 h0 (le_same h0 hq2 k c2)
  · exact .inl k
  · exact h.trans hq1 hq2 h0 (.inl k)

theorem Le.turn {a b p1 q1 p2 q2 e : Int} (he : e * e = 1) (hd : p1 * q2 - p2 * q1 = e) : -e * -e = 1 ∧ p2 * q1 - p1 * q2 = -e := by
  refine ⟨by rw [Int.neg_mul_neg]; exact he, by omega⟩

/-- What is just there is the best. -/
theorem best_just {a b most P Q u v : Int} (hQ : 1 ≤ Q) (hm : Q ≤ most) (hb : 1 ≤ b) (h0 : gp a b P Q = 0) (hc : u * P + v * Q = 1) : BestF a b most P Q := by
  refine ⟨hQ, hm, fun p q h1 h2 => ?_⟩
  have hz : ds a b P Q = 0 := by unfold ds; rw [h0]; rfl
  by_cases hp : gp a b p q = 0
  · refine le_same h1 hQ ?_ hc
    unfold gp at h0 hp
    -- a Q = b P, a q = b p
    have e1 : b * (p * Q) = b * (q * P) := by
      have a1 : b * p * Q = a * q * Q := by rw [show b * p = a * q by omega]
      have a2 : b * P * q = a * Q * q := by rw [show b * P = a * Q by omega]
      rw [← Int.mul_assoc, a1, Int.mul_comm q P, ← Int.mul_assoc, a2, Int.mul_assoc, Int.mul_assoc, Int.mul_comm q Q]
    exact Int.eq_of_mul_eq_mul_left (by omega) e1
  · left
    rw [hz, Int.zero_mul]
    have : 0 < ds a b p q := by unfold ds; omega
    exact Int.mul_pos this (by omega)

end Go.Proofs.YtfbgblidlabipaaGreatDoor.CnM
end

section
/- Plain: the fractions on the way to a / b, and the nearest one. -/
set_option linter.unusedSimpArgs false
set_option linter.unusedVariables false
set_option maxRecDepth 100000
namespace Go.Proofs.YtfbgblidlabipaaGreatDoor.CnR
open CnM CnQ

structure Cv where
  p1 : Int
  q1 : Int
  p2 : Int
  q2 : Int
def cv (a b : Int) : Nat → Cv
  | 0 => ⟨0, 1, 1, 0⟩
  | i + 1 => ⟨(cv a b i).p2, (cv a b i).q2, (cv a b i).p1 + kq a b i * (cv a b i).p2, (cv a b i).q1 + kq a b i * (cv a b i).q2⟩
def sg : Nat → Int
  | 0 => 1
  | i + 1 => -sg i
theorem sg_sq (i : Nat) : sg i * sg i = 1 := by
  induction i with
  | zero => rfl
  | succ i ih => simp only [sg, Int.neg_mul_neg]; exact ih
theorem sg_one (i : Nat) : sg i = 1 ∨ sg i = -1 := by
  induction i with
  | zero => exact .inl rfl
  | succ i ih => simp only [sg]; omega

/-- What holds behind i steps. -/
structure Nr (a b : Int) (i : Nat) (c : Cv) : Prop where
  g1 : a * c.q1 - b * c.p1 = sg i * (es a b i).1
  g2 : a * c.q2 - b * c.p2 = -(sg i * (es a b i).2)
  det : c.p1 * c.q2 - c.p2 * c.q1 = -sg i
  sb : (es a b i).1 * c.q2 + (es a b i).2 * c.q1 = b
  sa : (es a b i).1 * c.p2 + (es a b i).2 * c.p1 = a
theorem nr_is {a b : Int} {N : Nat} (h : En a b N) : ∀ i, i ≤ N → Nr a b i (cv a b i) := by
  intro i
  induction i with
  | zero => intro _; refine ⟨?_, ?_, ?_, ?_, ?_⟩ <;> simp [cv, es, sg]
  | succ i ih =>
    intro hi
    obtain ⟨h1, h2, h3, h4, h5⟩ := ih (by omega)
    have e := Int.mul_ediv_add_emod (es a b i).1 (es a b i).2
    have k : kq a b i = (es a b i).1 / (es a b i).2 := rfl
    have s : sg (i + 1) = - sg i := rfl
    have e1 : (es a b (i + 1)).1 = (es a b i).2 := rfl
    have e2 : (es a b (i + 1)).2 = (es a b i).1 % (es a b i).2 := rfl
    have c1 : (cv a b (i + 1)).p1 = (cv a b i).p2 := rfl
    have c2 : (cv a b (i + 1)).q1 = (cv a b i).q2 := rfl
    have c3 : (cv a b (i + 1)).p2 = (cv a b i).p1 + kq a b i * (cv a b i).p2 := rfl
    have c4 : (cv a b (i + 1)).q2 = (cv a b i).q1 + kq a b i * (cv a b i).q2 := rfl
    rw [← k] at e
    refine ⟨?_, ?_, ?_, ?_, ?_⟩ <;> simp only [c1, c2, c3, c4]
    · rw [s, e1, h2]; rw [Int.neg_mul]
    · rw [s, e2]
      generalize kq a b i = k at *
      generalize (es a b i).1 % (es a b i).2 = r at *
      generalize (es a b i).1 = u at *
      generalize (es a b i).2 = v at *
      generalize (cv a b i) = c at *
      clear h3 h4 h5 c1 c2 c3 c4 s ih
      grind
    · rw [s]
      generalize kq a b i = k at *
      generalize (cv a b i) = c at *
      clear h1 h2 h4 h5 c1 c2 c3 c4 s ih
      grind
    · rw [e1, e2]
      generalize kq a b i = k at *
      generalize (es a b i).1 % (es a b i).2 = r at *
      generalize (es a b i).1 = u at *
      generalize (es a b i).2 = v at *
      generalize (cv a b i) = c at *
      clear h3 h1 h2 h5 c1 c2 c3 c4 s ih
      grind
    · rw [e1, e2]
      generalize kq a b i = k at *
      generalize (es a b i).1 % (es a b i).2 = r at *
      generalize (es a b i).1 = u at *
      generalize (es a b i).2 = v at *
      generalize (cv a b i) = c at *
      clear h3 h1 h2 h4 c1 c2 c3 c4 s ih
      grind

/-- The sizes. -/
structure Sz (a b M : Int) (i : Nat) (c : Cv) : Prop where
  q1 : 0 ≤ c.q1 ∧ c.q1 ≤ M
  q2 : 0 ≤ c.q2 ∧ c.q2 ≤ M
  q2p : 0 < i → 1 ≤ c.q2
  p1 : -M ≤ c.p1 ∧ c.p1 ≤ M
  p2 : -M ≤ c.p2 ∧ c.p2 ≤ M
  pos : 0 ≤ a → 0 ≤ c.p1 ∧ 0 ≤ c.p2
  neg : a < 0 → (i = 0 ∧ c.p1 = 0 ∧ c.p2 = 1) ∨ (i = 1 ∧ c.p1 = 1 ∧ c.p2 ≤ -1) ∨ (2 ≤ i ∧ c.p1 ≤ 0 ∧ c.p2 ≤ 0)

theorem u_pos {a b : Int} {N i : Nat} (h : En a b N) (hi : i ≤ N) (h0 : 0 < i) : 1 ≤ (es a b i).1 ∧ 0 ≤ (es a b i).2 := by
  obtain ⟨j, rfl⟩ : ∃ j, i = j + 1 := ⟨i - 1, by omega⟩
  have s := h.step (i := j) (by omega)
  have := h.pos j (by omega)
  omega

theorem sz_is {a b M : Int} {N : Nat} (h : En a b N) (hM : 1 ≤ M) (ha : -M ≤ a ∧ a ≤ M) (hb : b ≤ M) : ∀ i, i ≤ N → Sz a b M i (cv a b i) := by
  intro i
  induction i with
  | zero => intro _; refine ⟨?_, ?_, ?_, ?_, ?_, ?_, ?_⟩ <;> simp [cv] <;> omega
  | succ i ih =>
    intro hi
    have S := ih (by omega)
    have n := nr_is h (i + 1) hi
    have u := u_pos h hi (by omega)
    have c1 : (cv a b (i + 1)).p1 = (cv a b i).p2 := rfl
    have c2 : (cv a b (i + 1)).q1 = (cv a b i).q2 := rfl
    have c3 : (cv a b (i + 1)).p2 = (cv a b i).p1 + kq a b i * (cv a b i).p2 := rfl
    have c4 : (cv a b (i + 1)).q2 = (cv a b i).q1 + kq a b i * (cv a b i).q2 := rfl
    have hv := h.pos i (by omega)
    have k0 : 0 < i → 1 ≤ kq a b i := fun h0 => (h.entry h0 (by omega)).1
    have q1n : 0 ≤ (cv a b (i + 1)).q1 := by rw [c2]; exact S.q2.1
    have q2n : 1 ≤ (cv a b (i + 1)).q2 := by
      rw [c4]
      rcases Nat.eq_zero_or_pos i with e | e
      · subst e; simp [cv]
      · have := Int.mul_le_mul_of_nonneg_right (k0 e) S.q2.1
        have := S.q2p e
        have := S.q1.1
        omega
    have q2M : (cv a b (i + 1)).q2 ≤ M := by
      have := Int.mul_le_mul_of_nonneg_right u.1 (show 0 ≤ (cv a b (i + 1)).q2 by omega)
      have := Int.mul_nonneg u.2 q1n
      have := n.sb
      omega
    have hpos : 0 ≤ a → 0 ≤ (cv a b (i + 1)).p1 ∧ 0 ≤ (cv a b (i + 1)).p2 := fun h0 => by
      have s := S.pos h0
      have kn : 0 ≤ kq a b i := by
        rcases Nat.eq_zero_or_pos i with e | e
        · subst e; exact Int.ediv_nonneg h0 (by simp [es]; have := h.b0; omega)
        · have := k0 e; omega
      have := Int.mul_nonneg kn s.2
      rw [c1, c3]
      omega
    have hneg : a < 0 → (i + 1 = 0 ∧ (cv a b (i + 1)).p1 = 0 ∧ (cv a b (i + 1)).p2 = 1) ∨ (i + 1 = 1 ∧ (cv a b (i + 1)).p1 = 1 ∧ (cv a b (i + 1)).p2 ≤ -1) ∨ (2 ≤ i + 1 ∧ (cv a b (i + 1)).p1 ≤ 0 ∧ (cv a b (i + 1)).p2 ≤ 0) := fun h0 => by
      right
      rcases S.neg h0 with ⟨e, e1, e2⟩ | ⟨e, e1, e2⟩ | ⟨e, e1, e2⟩
      · left
        subst e
        have : kq a b 0 < 0 := Int.ediv_neg_of_neg_of_pos h0 h.b0
        rw [c1, c3, e1, e2]
        omega
      · right
        have := k0 (by omega)
        have := Int.mul_le_mul_of_nonpos_right this (show (cv a b i).p2 ≤ 0 by omega)
        rw [c1, c3, e1]
        omega
      · right
        have := k0 (by omega)
        have := Int.mul_le_mul_of_nonpos_right this (show (cv a b i).p2 ≤ 0 by omega)
        rw [c1, c3]
        omega
    refine ⟨by rw [c2]; exact S.q2, ⟨by omega, q2M⟩, fun _ => q2n, by rw [c1]; exact S.p2, ?_, hpos, hneg⟩
    have sa := n.sa
    rcases Int.lt_or_le a 0 with h0 | h0
    · rcases hneg h0 with ⟨e, e1, e2⟩ | ⟨e, e1, e2⟩ | ⟨e, e1, e2⟩
      · omega
      · refine ⟨?_, by omega⟩
        obtain rfl : i = 0 := by omega
        have e := Int.mul_ediv_add_emod a b
        have m := Int.emod_nonneg a (show b ≠ 0 by have := h.b0; omega)
        have m1 := Int.emod_lt_of_pos a h.b0
        have c5 : (cv a b 1).p2 = a / b := by simp [cv, kq, es]
        rw [c5] at e2 ⊢
        have := Int.mul_le_mul_of_nonpos_right (show 1 ≤ b from h.b0) (show a / b ≤ 0 by omega)
        have h9 : b * (a / b) = b * (a / b + 1) - b := by rw [Int.mul_add]; omega
        have := Int.mul_le_mul_of_nonpos_right (show 1 ≤ b from h.b0) (show a / b + 1 ≤ 0 by omega)
        omega
      · have a1 := Int.mul_le_mul_of_nonpos_right u.1 e2
        have a2 := Int.mul_nonneg_of_nonpos_of_nonpos (show -(es a b (i+1)).2 ≤ 0 by omega) e1
        rw [Int.neg_mul] at a2
        omega
    · have hp := hpos h0
      have a1 := Int.mul_le_mul_of_nonneg_right u.1 hp.2
      have a2 := Int.mul_nonneg u.2 hp.1
      omega

/-- The fraction beside the last one. -/
theorem near_exit {a b M most : Int} {N i : Nat} (h : En a b N) (hM : 1 ≤ M) (ha : -M ≤ a ∧ a ≤ M) (hb : b ≤ M) (hi : i < N) (h0 : 0 < i) (hq1 : (cv a b i).q1 ≤ most) (hq2 : (cv a b i).q2 ≤ most)
    (hm : most < (cv a b (i + 1)).q2) {t : Int} (ht : t = (most - (cv a b i).q1) / (cv a b i).q2) :
    0 ≤ t ∧ t + 1 ≤ kq a b i ∧ (cv a b i).q1 + t * (cv a b i).q2 ≤ most ∧ most < (cv a b i).q1 + t * (cv a b i).q2 + (cv a b i).q2 ∧ 1 ≤ (cv a b i).q1 + t * (cv a b i).q2 ∧ 0 < (es a b i).1 - t * (es a b i).2 := by
  have S := sz_is h hM ha hb i (by omega)
  have q2p := S.q2p h0
  have e := Int.mul_ediv_add_emod (most - (cv a b i).q1) (cv a b i).q2
  have m0 := Int.emod_nonneg (most - (cv a b i).q1) (show (cv a b i).q2 ≠ 0 by omega)
  have m1 := Int.emod_lt_of_pos (most - (cv a b i).q1) (show 0 < (cv a b i).q2 by omega)
  have t0 : 0 ≤ t := by rw [ht]; exact Int.ediv_nonneg (by omega) (by omega)
  rw [← ht] at e
  have c4 : (cv a b (i + 1)).q2 = (cv a b i).q1 + kq a b i * (cv a b i).q2 := rfl
  rw [c4] at hm
  rw [Int.mul_comm] at e
  have tk : t + 1 ≤ kq a b i := by
    rcases Int.lt_or_le t (kq a b i) with c | c
    · omega
    · have := Int.mul_le_mul_of_nonneg_right c (show 0 ≤ (cv a b i).q2 by omega)
      omega
  refine ⟨t0, tk, by omega, by omega, ?_, ?_⟩
  · have q1n := S.q1.1
    rcases Int.lt_or_le 0 ((cv a b i).q1) with c | c
    · have := Int.mul_nonneg t0 (show 0 ≤ (cv a b i).q2 by omega)
      omega
    · have z : (cv a b i).q1 = 0 := by omega
      rw [z] at e m1 m0 ⊢
      omega
  · have v := h.pos i hi
    have d := Int.mul_ediv_add_emod (es a b i).1 (es a b i).2
    have dm := Int.emod_nonneg (es a b i).1 (show (es a b i).2 ≠ 0 by omega)
    have := Int.mul_le_mul_of_nonneg_right tk (show 0 ≤ (es a b i).2 by omega)
    rw [Int.add_mul] at this
    have k : kq a b i = (es a b i).1 / (es a b i).2 := rfl
    rw [← k, Int.mul_comm] at d
    omega

theorem near_best {a b M most : Int} {N i : Nat} (h : En a b N) (hM : 1 ≤ M) (ha : -M ≤ a ∧ a ≤ M) (hb : b ≤ M) (hi : i < N) (h0 : 0 < i) (hq1 : (cv a b i).q1 ≤ most) (hq2 : (cv a b i).q2 ≤ most)
    (hm : most < (cv a b (i + 1)).q2) {t P Q : Int} (ht : t = (most - (cv a b i).q1) / (cv a b i).q2) (hP : P = (cv a b i).p1 + t * (cv a b i).p2) (hQ : Q = (cv a b i).q1 + t * (cv a b i).q2) :
    (Le a b (cv a b i).p2 (cv a b i).q2 P Q → BestF a b most (cv a b i).p2 (cv a b i).q2) ∧ (Le a b P Q (cv a b i).p2 (cv a b i).q2 → BestF a b most P Q) := by
  obtain ⟨x1, x2, x3, x4, x5, x6⟩ := near_exit h hM ha hb hi h0 hq1 hq2 hm ht
  have n := nr_is h i (by omega)
  have S := sz_is h hM ha hb i (by omega)
  have q2p := S.q2p h0
  have v := h.pos i hi
  have det : (cv a b i).p2 * Q - P * (cv a b i).q2 = sg i := by
    have := n.det
    rw [hP, hQ]
    generalize cv a b i = c at *
    clear hP hQ hm x1 x2 x3 x4 x5 x6 S
    grind
  have gx : gp a b (cv a b i).p2 (cv a b i).q2 = -(sg i * (es a b i).2) := n.g2
  have gy : gp a b P Q = sg i * ((es a b i).1 - t * (es a b i).2) := by
    have a1 := n.g1
    have a2 := n.g2
    unfold gp
    rw [hP, hQ]
    generalize cv a b i = c at *
    generalize (es a b i).1 = u at *
    generalize (es a b i).2 = v at *
    clear hP hQ hm x1 x2 x3 x4 x5 x6 S det gx
    grind
  have opp : gp a b (cv a b i).p2 (cv a b i).q2 < 0 ∧ 0 < gp a b P Q ∨ 0 < gp a b (cv a b i).p2 (cv a b i).q2 ∧ gp a b P Q < 0 := by
    rw [gx, gy]
    generalize (es a b i).1 - t * (es a b i).2 = z at *
    rcases sg_one i with e | e <;> rw [e] <;> omega
  have opp' : gp a b P Q < 0 ∧ 0 < gp a b (cv a b i).p2 (cv a b i).q2 ∨ 0 < gp a b P Q ∧ gp a b (cv a b i).p2 (cv a b i).q2 < 0 := by omega
  refine ⟨fun k => best_two (sg_sq i) det q2p (by omega) opp hq2 (by omega) (by omega) k, fun k => ?_⟩
  obtain ⟨e1, e2⟩ := Le.turn (a := a) (b := b) (sg_sq i) det
  exact best_two e1 e2 (by omega) q2p opp' (by omega) hq2 (by omega) k

theorem near_end {a b M most : Int} {N : Nat} (h : En a b N) (hM : 1 ≤ M) (ha : -M ≤ a ∧ a ≤ M) (hb : b ≤ M) (hq2 : (cv a b N).q2 ≤ most) : BestF a b most (cv a b N).p2 (cv a b N).q2 := by
  have n := nr_is h N (Nat.le_refl _)
  have S := sz_is h hM ha hb N (Nat.le_refl _)
  have g2 := n.g2
  rw [h.zero, Int.mul_zero] at g2
  refine best_just (S.q2p h.one) hq2 h.b0 (by unfold gp; omega) (u := sg N * (cv a b N).q1) (v := -(sg N * (cv a b N).p1)) ?_
  have d := n.det
  have s := sg_sq N
  generalize cv a b N = c at *
  generalize sg N = e at *
  clear g2 S n hq2
  grind

end Go.Proofs.YtfbgblidlabipaaGreatDoor.CnR
end

section
/- The program: cmp.Compare, cmp.Or, cont.approach's plus. -/
set_option linter.unusedSimpArgs false
set_option linter.unusedVariables false
set_option maxRecDepth 100000
namespace Go.Proofs.YtfbgblidlabipaaGreatDoor
open Go.RowKit

set_option maxHeartbeats 2000000 in
theorem CompareZ (x y : Int) (w : World) : Calls Tryz.prog 177 #[.int .i64 x, .int .i64 y] w fun e w' => e = .returned (.int .i64 (cmpZ x y)) ∧ w' = w := by
  by_cases h1 : x < y
  · have e : cmpZ x y = -1 := if_pos h1
    rw [e]
    have t1 : decide (x < y) = true := decide_eq_true h1
    clear h1 e
    go_enter Tryz.func177, Tryz.ntmps177
    go_wp2
    go_ret
    exact ⟨rfl, rfl⟩
  · have t1 : decide (x < y) = false := decide_eq_false h1
    by_cases h2 : y < x
    · have e : cmpZ x y = 1 := by rw [cmpZ, if_neg h1, if_pos h2]
      rw [e]
      have t2 : decide (y < x) = true := decide_eq_true h2
      clear h1 h2 e
      go_enter Tryz.func177, Tryz.ntmps177
      go_wp2
      go_ret
      exact ⟨rfl, rfl⟩
    · have e : cmpZ x y = 0 := by rw [cmpZ, if_neg h1, if_neg h2]
      rw [e]
      have t2 : decide (y < x) = false := decide_eq_false h2
      clear h1 h2 e
      go_enter Tryz.func177, Tryz.ntmps177
      go_wp2
      go_ret
      exact ⟨rfl, rfl⟩


/-- The first that isn't 0. -/
def orL : List Int → Int
  | [] => 0
  | x :: r => if x ≠ 0 then x else orL r
theorem orL_skip (l : List Int) (k : Nat) (hk : k ≤ l.length) (h : ∀ j, j < k → l.getD j 0 = 0) : orL l = orL (l.drop k) := by
  induction k with
  | zero => rfl
  | succ n ih =>
    rw [ih (by omega) (fun j hj => h j (by omega)), List.drop_eq_getElem_cons (by omega), orL]
    have := h n (by omega)
    rw [List.getD_eq_getElem?_getD, List.getElem?_eq_getElem (by omega), Option.getD_some] at this
    rw [if_neg (by simp [this])]
theorem orL_hit (l : List Int) (k : Nat) (hk : k < l.length) (h : ∀ j, j < k → l.getD j 0 = 0) (hx : l.getD k 0 ≠ 0) : orL l = l.getD k 0 := by
  rw [orL_skip l k (by omega) h, List.drop_eq_getElem_cons hk, orL]
  have e : l.getD k 0 = l[k] := by rw [List.getD_eq_getElem?_getD, List.getElem?_eq_getElem hk, Option.getD_some]
  rw [e] at hx ⊢
  rw [if_pos hx]
theorem orL_none (l : List Int) (h : ∀ j, j < l.length → l.getD j 0 = 0) : orL l = 0 := by
  rw [orL_skip l l.length (Nat.le_refl _) h, List.drop_length]; rfl

set_option maxHeartbeats 2000000 in
theorem Or_row (l : List Int) (b n : Nat) (w : World) (hn : n = l.length) (hn9 : n ≤ 1000) (hb : b < w.heap.size) (hc : ∀ j, j < n → w.cell? ⟨b, 0 + j, none⟩ = some (.int .i64 (l.getD j 0))) :
    Calls Tryz.prog 176 #[.slice (some ⟨b, 0, none⟩) n n] w fun e w' => e = .returned (.int .i64 (orL l)) ∧ w' = w := by
  obtain ⟨z, hz⟩ : ∃ z, z = orL l := ⟨_, rfl⟩
  rw [← hz]
  have HZ : Hid (z = orL l) := hz
  have HC : Hid (∀ j, j < n → w.cell? ⟨b, 0 + j, none⟩ = some (.int .i64 (l.getD j 0))) := hc
  have HN : Hid (n = l.length) := hn
  clear hz hc hn
  go_enter Tryz.func176, Tryz.ntmps176
  go_wp2
  go_loop [8] (fun i => ∃ k : Nat, k ≤ n ∧ i = .int .i64 k ∧ Hid (∀ j, j < k → l.getD j 0 = 0)) (fun i => n - (intOf i).toNat)
  case atStart => exact ⟨0, Nat.zero_le _, rfl, fun j hj => absurd hj (Nat.not_lt_zero _)⟩
  case round =>
    obtain ⟨k, hk, rfl, HOK⟩ := hrel
    by_cases hlt : k < n
    · have hck := HC.out k hlt
      rw [Nat.zero_add] at hck
      obtain ⟨x, hx⟩ : ∃ x, x = l.getD k 0 := ⟨_, rfl⟩
      rw [← hx] at hck
      have HX : Hid (x = l.getD k 0) := hx
      clear hx
      cases hx0 : (x != 0)
      · have hx1 : x = 0 := by simpa using hx0
        have HX1 : Hid (x = 0) := hx1
        clear hx1
        go_wp2
        go_round
        case rel =>
          refine ⟨k + 1, by omega, by go_num, fun j hj => ?_⟩
          by_cases hjk : j = k
          · subst hjk; rw [← HX.out]; exact HX1.out
          · exact HOK.out j (by omega)
        case measure => simp [intOf]; omega
      · have hzx : z = x := by
          rw [HZ.out, orL_hit l k (by rw [← HN.out]; exact hlt) HOK.out (by rw [← HX.out]; simpa using hx0), HX.out]
        subst hzx
        go_wp2
        go_ret
        exact ⟨rfl, rfl⟩
    · have hz0 : z = 0 := by rw [HZ.out, orL_none l (fun j hj => HOK.out j (by have := HN.out; omega))]
      subst hz0
      go_wp2
      go_ret
      exact ⟨rfl, rfl⟩

/-- An approach's three numbers. -/
def apv (u d g : Int) : Value := .agg #[.int .i64 u, .int .i64 d, .int .i64 g]
/-- Three sums that an int holds. -/
structure Ap (u d g k u' d' g' U D G : Int) : Prop where
  hU : U = u + k * u'
  hD : D = d + k * d'
  hG : G = g + k * g'
  b1 : -4000000000000000000 ≤ k * u' ∧ k * u' ≤ 4000000000000000000
  b2 : -4000000000000000000 ≤ k * d' ∧ k * d' ≤ 4000000000000000000
  b3 : -4000000000000000000 ≤ k * g' ∧ k * g' ≤ 4000000000000000000
  c1 : -4000000000000000000 ≤ U ∧ U ≤ 4000000000000000000
  c2 : -4000000000000000000 ≤ D ∧ D ≤ 4000000000000000000
  c3 : -4000000000000000000 ≤ G ∧ G ≤ 4000000000000000000
set_option maxHeartbeats 2000000 in
theorem plus_any (u d g k u' d' g' U D G : Int) (w : World) (h : Ap u d g k u' d' g' U D G) :
    Calls Tryz.prog 122 #[apv u d g, .int .i64 k, apv u' d' g'] w fun e w' => e = .returned (apv U D G) ∧ Below w.heap.size w w' := by
  obtain ⟨h1, h2, h3, b1, b2, b3, c1, c2, c3⟩ := h
  obtain ⟨A, hA⟩ : ∃ A, k * u' = A := ⟨_, rfl⟩
  obtain ⟨B, hB⟩ : ∃ B, k * d' = B := ⟨_, rfl⟩
  obtain ⟨C, hC⟩ : ∃ C, k * g' = C := ⟨_, rfl⟩
  rw [hA] at h1 b1
  rw [hB] at h2 b2
  rw [hC] at h3 b3
  have e1 : u + A = U := h1.symm
  have e2 : d + B = D := h2.symm
  have e3 : g + C = G := h3.symm
  have w1 : wrap64 A = A := w64_id (by omega) (by omega)
  have w2 : wrap64 B = B := w64_id (by omega) (by omega)
  have w3 : wrap64 C = C := w64_id (by omega) (by omega)
  have w4 : wrap64 U = U := w64_id (by omega) (by omega)
  have w5 : wrap64 D = D := w64_id (by omega) (by omega)
  have w6 : wrap64 G = G := w64_id (by omega) (by omega)
  clear h1 h2 h3 b1 b2 b3 c1 c2 c3
  unfold apv
  go_enter Tryz.func122, Tryz.ntmps122
  go_wp2
  refine bodyPost_ret (v := .agg #[.int .i64 U, .int .i64 D, .int .i64 G]) (by simp [results, Tryz.results122, go_sem, w4, w5, w6]) rfl ⟨rfl, ?_⟩
  exact Below.alloc (Below.alloc (Below.alloc (Below.refl _ _) (Nat.le_refl _) _) (by simp) _) (by simp; omega) _

end Go.Proofs.YtfbgblidlabipaaGreatDoor
end
