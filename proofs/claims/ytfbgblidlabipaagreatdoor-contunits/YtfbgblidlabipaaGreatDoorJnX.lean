import Derived.Test.YtfbgblidlabipaaGreatDoorJnL
section
/- Plain: lists of the root of d and of (1 + root) / 2, their fractions; every unit is one of these: the least one is at the end of the list's part. -/
set_option linter.unusedSimpArgs false
set_option linter.unusedVariables false
set_option maxRecDepth 100000
namespace Go.Proofs.YtfbgblidlabipaaGreatDoor.UtM
open CfM

/-- The complete quotients behind (P + root) / Q. -/
def ts (d r P Q : Nat) : Nat → Nat × Nat
  | 0 => (P, Q)
  | i + 1 => let k := ((ts d r P Q i).1 + r) / (ts d r P Q i).2
             let p := k * (ts d r P Q i).2 - (ts d r P Q i).1
             (p, (d - p * p) / (ts d r P Q i).2)
def tk (d r P Q i : Nat) : Nat := ((ts d r P Q i).1 + r) / (ts d r P Q i).2
/-- Twice the fractions: the one ahead, and the last. -/
def tf (d r P Q X Y : Nat) : Nat → (Nat × Nat) × (Nat × Nat)
  | 0 => ((2, 0), (X, Y))
  | i + 1 => ((tf d r P Q X Y i).2, ((tf d r P Q X Y i).1.1 + tk d r P Q i * (tf d r P Q X Y i).2.1, (tf d r P Q X Y i).1.2 + tk d r P Q i * (tf d r P Q X Y i).2.2))

/-- The two kinds: the root of d, and (1 + root) / 2. -/
structure Kd (d r p0 q0 P Q X Y : Nat) : Prop where
  rn : Rn d r
  two : (q0 = 1 ∧ p0 = 0 ∧ P = r ∧ Q = d - r * r ∧ X = 2 * r ∧ Y = 2) ∨ (q0 = 2 ∧ p0 = 1 ∧ d % 4 = 1 ∧ P % 2 = 1 ∧ (P = r ∨ P + 1 = r) ∧ 2 * Q = d - P * P ∧ X = P ∧ Y = 1)

theorem sq_mod4 {n : Nat} (h : n % 2 = 1) : (n * n) % 4 = 1 := by
  obtain ⟨k, rfl⟩ : ∃ k, n = 2 * k + 1 := ⟨n / 2, by omega⟩
  have : (2 * k + 1) * (2 * k + 1) = 4 * (k * k + k) + 1 := by grind
  omega
theorem Kd.cq {d r p0 q0 P Q X Y : Nat} (h : Kd d r p0 q0 P Q X Y) : Cq (d : Int) r P Q := by
  rcases h.two with ⟨_, _, e1, e2, _, _⟩ | ⟨_, _, h3, h4, h5, h6, _, _⟩
  · have h1 := Cq.start h.rn.rt
    have h2 := h.rn.lo
    have e : ((d - r * r : Nat) : Int) = (d : Int) - r * r := by rw [← Int.natCast_mul]; omega
    rw [e1, e2, e]; exact h1
  · have h1 := h.rn.r1
    have h2 := h.rn.lo
    have h7 := h.rn.hi
    have m := sq_mod4 h4
    have hPr : P * P ≤ r * r := Nat.mul_le_mul (by omega) (by omega)
    have e : ((P * P : Nat) : Int) = (P : Int) * P := Int.natCast_mul _ _
    refine ⟨⟨2, ?_⟩, ?_, ?_, ?_, ?_, ?_⟩
    · rw [← e]; omega
    · omega
    · omega
    · omega
    · omega
    · have h8 : (r + 1) * (r + 1) = r * r + 2 * r + 1 := by grind
      rcases h5 with h5 | h5
      · subst h5; omega
      · have h9 : r * r = P * P + 2 * P + 1 := by rw [← h5]; grind
        omega
theorem ts_cq {d r p0 q0 P Q X Y : Nat} (h : Kd d r p0 q0 P Q X Y) (i : Nat) : Cq (d : Int) r ((ts d r P Q i).1 : Nat) ((ts d r P Q i).2 : Nat) ∧
    (((ts d r P Q (i + 1)).1 : Nat) : Int) = np r ((ts d r P Q i).1 : Nat) ((ts d r P Q i).2 : Nat) ∧ (((ts d r P Q (i + 1)).2 : Nat) : Int) = nq d r ((ts d r P Q i).1 : Nat) ((ts d r P Q i).2 : Nat) ∧ ((tk d r P Q i : Nat) : Int) = kq r ((ts d r P Q i).1 : Nat) ((ts d r P Q i).2 : Nat) := by
  have key : ∀ i, Cq (d : Int) r ((ts d r P Q i).1 : Nat) ((ts d r P Q i).2 : Nat) → (((ts d r P Q (i + 1)).1 : Nat) : Int) = np r ((ts d r P Q i).1 : Nat) ((ts d r P Q i).2 : Nat) ∧ (((ts d r P Q (i + 1)).2 : Nat) : Int) = nq d r ((ts d r P Q i).1 : Nat) ((ts d r P Q i).2 : Nat) ∧ ((tk d r P Q i : Nat) : Int) = kq r ((ts d r P Q i).1 : Nat) ((ts d r P Q i).2 : Nat) := by
    intro i hc
    have hp1 := hc.np1
    have hb := hc.np_bd
    have he := hc.nq_eq
    have hk : ((tk d r P Q i : Nat) : Int) = kq r ((ts d r P Q i).1 : Nat) ((ts d r P Q i).2 : Nat) := by
      unfold tk kq; rw [Int.natCast_ediv, Int.natCast_add]
    have hn := np_def (r : Int) ((ts d r P Q i).1 : Nat) ((ts d r P Q i).2 : Nat)
    have h1 : (((ts d r P Q (i + 1)).1 : Nat) : Int) = np r ((ts d r P Q i).1 : Nat) ((ts d r P Q i).2 : Nat) := by
      show ((tk d r P Q i * (ts d r P Q i).2 - (ts d r P Q i).1 : Nat) : Int) = _
      have : (tk d r P Q i : Int) * ((ts d r P Q i).2 : Nat) = ((tk d r P Q i * (ts d r P Q i).2 : Nat) : Int) := by rw [Int.natCast_mul]
      rw [← hk, this] at hn
      omega
    refine ⟨h1, ?_, hk⟩
    show (((d - (ts d r P Q (i + 1)).1 * (ts d r P Q (i + 1)).1) / (ts d r P Q i).2 : Nat) : Int) = _
    have hr1 := h.rn.rt
    have hpp : np (r : Int) ((ts d r P Q i).1 : Nat) ((ts d r P Q i).2 : Nat) * np (r : Int) ((ts d r P Q i).1 : Nat) ((ts d r P Q i).2 : Nat) ≤ (r : Int) * r := Int.mul_le_mul hb.1 hb.1 (by omega) (by omega)
    have hlo := hr1.lo
    unfold nq
    rw [Int.natCast_ediv]
    congr 1
    rw [← h1] at hpp ⊢
    rw [← Int.natCast_mul] at hpp ⊢
    rw [← Int.natCast_mul] at hpp hlo
    omega
  have hall : ∀ i, Cq (d : Int) r ((ts d r P Q i).1 : Nat) ((ts d r P Q i).2 : Nat) := by
    intro i
    induction i with
    | zero => exact h.cq
    | succ i ih =>
      obtain ⟨h1, h2, _⟩ := key i ih
      rw [h1, h2]; exact ih.next h.rn.rt
  exact ⟨hall i, key i (hall i)⟩

/-- The norms of two fractions that follow each other, scaled; s is 1 or -1. -/
structure Nrm (d m s x0 y0 x1 y1 p q : Int) : Prop where
  c : x1 * x1 - d * (y1 * y1) = -s * (m * q)
  x : x1 * x0 - d * (y1 * y0) = s * (m * p)
  b : (x0 * x0 - d * (y0 * y0)) * q = s * (m * (d - p * p))
theorem nx_id1 (x0 x1 y0 y1 d k q : Int) : ((x0 + k * x1) * (x0 + k * x1) - d * ((y0 + k * y1) * (y0 + k * y1))) * q = (x0 * x0 - d * (y0 * y0)) * q + 2 * k * q * (x1 * x0 - d * (y1 * y0)) + k * k * q * (x1 * x1 - d * (y1 * y1)) := by grind
theorem nx_id2 (s m d p k q : Int) : s * (m * (d - p * p)) + 2 * k * q * (s * (m * p)) + k * k * q * (-s * (m * q)) = s * m * (d - (k * q - p) * (k * q - p)) := by grind
theorem Nrm.next {d m s x0 y0 x1 y1 r p q : Int} (h : Nrm d m s x0 y0 x1 y1 p q) (hc : Cq d r p q) :
    Nrm d m (-s) x1 y1 (x0 + kq r p q * x1) (y0 + kq r p q * y1) (np r p q) (nq d r p q) := by
  have he := hc.nq_eq
  have hn := np_def r p q
  obtain ⟨h1, h2, h3⟩ := h
  have hq := hc.qp
  generalize np r p q = P at *
  generalize nq d r p q = Q at *
  generalize kq r p q = k at *
  have hP : P = k * q - p := by omega
  refine ⟨?_, ?_, ?_⟩
  · apply Int.eq_of_mul_eq_mul_right (show q ≠ 0 by omega)
    rw [nx_id1, h3, h2, h1, nx_id2, ← hP, ← he, Int.neg_neg]
    clear h1 h2 h3 he hn hP hc
    grind
  · subst hP; clear h3 he hn hc; grind
  · clear h2 h3 hn hP hc; grind
def mm (q0 : Nat) : Int := if q0 = 1 then 4 else 2
theorem Kd.nm0 {d r p0 q0 P Q X Y : Nat} (h : Kd d r p0 q0 P Q X Y) : Nrm (d : Int) (mm q0) 1 2 0 X Y P Q := by
  rcases h.two with ⟨e0, _, e1, e2, e3, e4⟩ | ⟨e0, _, h3, h4, h5, h6, e3, e4⟩
  · have h2 := h.rn.lo
    have e : ((d - r * r : Nat) : Int) = (d : Int) - r * r := by rw [← Int.natCast_mul]; omega
    have m4 : mm q0 = 4 := by unfold mm; rw [if_pos e0]
    rw [m4, e1, e2, e3, e4, e, Int.natCast_mul]
    exact ⟨by push_cast; grind, by push_cast; grind, by push_cast; grind⟩
  · have hPr : P * P ≤ r * r := Nat.mul_le_mul (by omega) (by omega)
    have h2 := h.rn.lo
    have e : 2 * (Q : Int) = (d : Int) - P * P := by rw [← Int.natCast_mul]; omega
    have m2 : mm q0 = 2 := by unfold mm; rw [if_neg (by omega)]
    rw [m2, e3, e4]
    generalize (P : Int) = P' at *
    generalize (Q : Int) = Q' at *
    generalize (d : Int) = d' at *
    exact ⟨by push_cast; grind, by push_cast; grind, by push_cast; grind⟩
theorem tf_nm {d r p0 q0 P Q X Y : Nat} (h : Kd d r p0 q0 P Q X Y) (i : Nat) : Nrm (d : Int) (mm q0) (sgn i) ((tf d r P Q X Y i).1.1 : Nat) ((tf d r P Q X Y i).1.2 : Nat) ((tf d r P Q X Y i).2.1 : Nat) ((tf d r P Q X Y i).2.2 : Nat) ((ts d r P Q i).1 : Nat) ((ts d r P Q i).2 : Nat) := by
  induction i with
  | zero => exact h.nm0
  | succ i ih =>
    obtain ⟨h1, h2, h3, h4⟩ := ts_cq h i
    have h5 := ih.next h1
    have e : sgn (i + 1) = - sgn i := by unfold sgn; split <;> split <;> omega
    rw [e, h2, h3]
    rw [← h4] at h5
    simpa [tf] using h5

/-- Reduced forms: where A a^2 - B a b - C b^2 is 1 or -1, a / b lies between k and k + 1. -/
structure Rf (A B C k B' C' : Int) : Prop where
  A1 : 1 ≤ A
  C1 : 1 ≤ C
  D1 : 1 ≤ C'
  E1 : 1 ≤ B'
  k1 : 1 ≤ k
  sum : B + B' = 2 * A * k
  c' : C' = C + k * (B - A * k)
  lt : B' < B + 2 * A
  gt : B < B' + 2 * A
  top : 1 ≤ A + B' - C'
def fv (A B C a b : Int) : Int := A * (a * a) - B * (a * b) - C * (b * b)
theorem fv_up {A B C k B' C' : Int} (h : Rf A B C k B' C') (b c : Int) : fv A B C ((k + 1) * b + c) b = b * b * (A + B' - C') + c * b * (B' + 2 * A) + A * (c * c) := by
  have e1 := h.sum
  have e2 := h.c'
  have e3 : B' = 2 * A * k - B := by omega
  rw [e2, e3]; unfold fv; clear h e1 e2 e3; grind
theorem fv_down {A B C k B' C' : Int} (h : Rf A B C k B' C') (b c : Int) : fv A B C (k * b - c) b = -(C' * (b * b) + c * (b * B' - A * c)) := by
  have e1 := h.sum
  have e2 := h.c'
  have e3 : B' = 2 * A * k - B := by omega
  rw [e2, e3]; unfold fv; clear h e1 e2 e3; grind
theorem fv_flat (A B C a b : Int) : fv A B C a b = -(C * (b * b) + a * (B * b - A * a)) := by unfold fv; grind
theorem sq_one {b : Int} (h : 1 ≤ b) : 1 ≤ b * b := by have := Int.mul_le_mul h h (by omega) (by omega); omega
theorem mul_one_le {x y : Int} (hx : 1 ≤ x) (hy : 1 ≤ y) : 1 ≤ x * y := by have := Int.mul_le_mul hx hy (by omega) (by omega); omega
theorem Rf.between {A B C k B' C' a b : Int} (h : Rf A B C k B' C') (ha : 1 ≤ a) (hb : 1 ≤ b) (hv : fv A B C a b = 1 ∨ fv A B C a b = -1) : k * b ≤ a ∧ a ≤ (k + 1) * b := by
  have bb := sq_one hb
  constructor
  · rcases Int.lt_or_le a (k * b) with c | c
    · exfalso
      rcases Int.lt_or_le (B * b) (A * a) with g | g
      · obtain ⟨t, ht⟩ : ∃ t, t = k * b - a := ⟨_, rfl⟩
        have e := fv_down h b t
        rw [show k * b - t = a by omega] at e
        have h1 := mul_one_le h.D1 bb
        have h2 : A * t < b * B' := by
          have e1 : A * t = A * k * b - A * a := by rw [ht, Int.mul_sub, Int.mul_assoc]
          have e2 : 2 * (A * k * b) = B * b + b * B' := by
            have := h.sum
            have e3 : 2 * (A * k * b) = (2 * A * k) * b := by grind
            rw [e3, ← this]; grind
          have e4 : 0 < B * b + b * B' := by
            rw [← e2]
            have := mul_one_le (mul_one_le h.A1 h.k1) hb
            omega
          omega
        have h3 := mul_one_le (show 1 ≤ t by omega) (show 1 ≤ b * B' - A * t by omega)
        omega
      · have e := fv_flat A B C a b
        have h1 := mul_one_le h.C1 bb
        rcases Int.lt_or_le (A * a) (B * b) with g2 | g2
        · have h3 := mul_one_le ha (show 1 ≤ B * b - A * a by omega)
          omega
        · have g3 : B * b - A * a = 0 := by omega
          rw [g3, Int.mul_zero] at e
          have hcb : C * (b * b) = 1 := by omega
          have hb1 : b = 1 := by
            rcases Int.lt_or_le 1 b with g4 | g4
            · have h5 := Int.mul_le_mul (show 2 ≤ b by omega) (show 2 ≤ b by omega) (by omega) (by omega)
              have h6 := Int.mul_le_mul h.C1 h5 (by omega) (by have := h.C1; omega)
              omega
            · omega
          subst hb1
          have h7 := Int.mul_le_mul_of_nonneg_left (show a ≤ k - 1 by omega) (show 0 ≤ A by have := h.A1; omega)
          rw [Int.mul_sub] at h7
          have h8 := h.sum
          have h9 := h.lt
          have e3 : 2 * A * k = 2 * (A * k) := by rw [Int.mul_assoc]
          omega
    · exact c
  · rcases Int.lt_or_le ((k + 1) * b) a with c | c
    · exfalso
      obtain ⟨t, ht⟩ : ∃ t, t = a - (k + 1) * b := ⟨_, rfl⟩
      have e := fv_up h b t
      rw [show (k + 1) * b + t = a by omega] at e
      have h1 := mul_one_le bb h.top
      have h2 := mul_one_le (mul_one_le (show 1 ≤ t by omega) hb) (show 1 ≤ B' + 2 * A by have := h.E1; have := h.A1; omega)
      have h3 := mul_one_le h.A1 (sq_one (show 1 ≤ t by omega))
      omega
    · exact c
theorem Rf.turn {A B C k B' C' a b : Int} (h : Rf A B C k B' C') : fv C' B' A b (a - k * b) = -fv A B C a b := by
  have e1 := h.sum
  have e2 := h.c'
  have e3 : B' = 2 * A * k - B := by omega
  rw [e2, e3]; unfold fv; clear h e1 e2 e3; grind

/-- The form that belongs to a complete quotient. -/
structure Fm (d q0 p q A B C : Int) : Prop where
  eq : q = q0 * A
  ep : 2 * p = q0 * B
  ec : d - p * p = q * (q0 * C)
  c1 : 1 ≤ C
theorem Kd.q0 {d r p0 q0 P Q X Y : Nat} (h : Kd d r p0 q0 P Q X Y) : q0 = 1 ∨ q0 = 2 := by rcases h.two with h | h <;> omega
theorem Kd.fm0 {d r p0 q0 P Q X Y : Nat} (h : Kd d r p0 q0 P Q X Y) : ∃ A B C, Fm (d : Int) q0 P Q A B C := by
  have h2 := h.rn.lo
  rcases h.two with ⟨e0, _, e1, e2, e3, e4⟩ | ⟨e0, _, h3, h4, h5, h6, e3, e4⟩
  · refine ⟨Q, 2 * P, 1, ?_, ?_, ?_, by omega⟩
    · rw [e0]; simp
    · rw [e0]; simp
    · have e : ((d - r * r : Nat) : Int) = (d : Int) - r * r := by rw [← Int.natCast_mul]; omega
      rw [e0, e1, e2, e]; simp
  · have m := sq_mod4 h4
    have hPr : P * P ≤ r * r := Nat.mul_le_mul (by omega) (by omega)
    have e : ((P * P : Nat) : Int) = (P : Int) * P := Int.natCast_mul _ _
    refine ⟨((Q / 2 : Nat) : Int), P, 1, ?_, ?_, ?_, by omega⟩
    · rw [e0]; omega
    · rw [e0]; omega
    · rw [e0, ← e]; omega
theorem fm_id (d p k q : Int) : d - (k * q - p) * (k * q - p) = d - p * p + k * q * (2 * p) - k * k * q * q := by grind
theorem Fm.next {d r q0 p q A B C : Int} (h : Fm d q0 p q A B C) (hq0 : 1 ≤ q0) (hc : Cq d r p q) :
    Fm d q0 (np r p q) (nq d r p q) (C + kq r p q * (B - A * kq r p q)) (2 * A * kq r p q - B) A := by
  have he := hc.nq_eq
  have hn := np_def r p q
  have hq := hc.qp
  obtain ⟨h1, h2, h3, h4⟩ := h
  have hA : 1 ≤ A := by
    rcases Int.lt_or_le A 1 with c | c
    · have := Int.mul_nonpos_of_nonneg_of_nonpos (show 0 ≤ q0 by omega) (show A ≤ 0 by omega)
      omega
    · exact c
  generalize np r p q = P at *
  generalize nq d r p q = Q at *
  generalize kq r p q = k at *
  have hP : P = k * q - p := by omega
  have e1 : Q = q0 * (C + k * (B - A * k)) := by
    apply Int.eq_of_mul_eq_mul_right (show q ≠ 0 by omega)
    have i1 : d - P * P = d - p * p + k * q * (2 * p) - k * k * q * q := by rw [hP]; exact fm_id d p k q
    rw [he, i1, h3, h2]
    have i2 : k * k * q * q = k * k * q * (q0 * A) := by rw [← h1]
    rw [i2]
    clear he h1 h2 h3 hn hP i1 i2 hc
    grind
  refine ⟨e1, ?_, ?_, hA⟩
  · have : 2 * P = 2 * (k * q) - 2 * p := by omega
    rw [this, h2, h1]; clear he h1 h2 h3 hn hP e1 hc this; grind
  · rw [← he, h1]
theorem Fm.rf {d r q0 p q A B C : Int} (hr : Rt d r) (h : Fm d q0 p q A B C) (hq0 : q0 = 1 ∨ q0 = 2) (hc : Cq d r p q) : Rf A B C (kq r p q) (2 * A * kq r p q - B) (C + kq r p q * (B - A * kq r p q)) := by
  have hn := h.next (by omega) hc
  have hc' := hc.next hr
  have nb := hc.np_bd
  have k1 := hc.k1
  have c1 := h.c1
  have e1 := h.eq
  have e2 := h.ep
  have e3 := hn.eq
  have e4 := hn.ep
  have a1 := hc.qp
  have a2 := hc.pr
  have a3 := hc.lo
  have b1 := hc'.qp
  have b2 := hc'.p1
  have b3 := hc'.pr
  have b4 := hc'.hi
  generalize np r p q = P at *
  generalize nq d r p q = Q at *
  generalize kq r p q = k at *
  generalize hA' : C + k * (B - A * k) = A' at *
  generalize hB' : 2 * A * k - B = B' at *
  refine ⟨?_, c1, ?_, ?_, k1, by omega, hA'.symm, ?_, ?_, ?_⟩ <;> rcases hq0 with e | e <;> subst e <;> omega

/-- Every unit is one of the fractions. -/
theorem unit_at {d r p0 q0 P Q X Y : Nat} (h : Kd d r p0 q0 P Q X Y) : ∀ (n i : Nat) (A B C : Int) (a b : Int), Fm (d : Int) q0 ((ts d r P Q i).1 : Nat) ((ts d r P Q i).2 : Nat) A B C → a + b ≤ n → 1 ≤ a → 0 ≤ b → (fv A B C a b = 1 ∨ fv A B C a b = -1) →
    ∃ j, i ≤ j ∧ a * ((tf d r P Q X Y i).2.1 : Nat) + b * ((tf d r P Q X Y i).1.1 : Nat) = ((tf d r P Q X Y j).2.1 : Nat) ∧ a * ((tf d r P Q X Y i).2.2 : Nat) + b * ((tf d r P Q X Y i).1.2 : Nat) = ((tf d r P Q X Y j).2.2 : Nat) := by
  intro n
  induction n with
  | zero => intro i A B C a b _ h1 h2 h3 _; omega
  | succ n ih =>
    intro i A B C a b hf h1 h2 h3 h4
    obtain ⟨c1, c2, c3, c4⟩ := ts_cq h i
    have rf := hf.rf h.rn.rt (by rcases h.q0 with e | e <;> omega) c1
    rcases Int.lt_or_le 0 b with hb | hb
    · obtain ⟨g1, g2⟩ := rf.between h2 (by omega) h4
      have hn := hf.next (by rcases h.q0 with e | e <;> omega) c1
      rw [← c2, ← c3] at hn
      have k1 := rf.k1
      have tr := rf.turn (a := a) (b := b)
      rw [← c4] at *
      generalize hk : (tk d r P Q i : Int) = k at *
      have hkb : 1 * b ≤ k * b := Int.mul_le_mul_of_nonneg_right k1 (by omega)
      obtain ⟨j, hj, e1, e2⟩ := ih (i + 1) _ _ _ b (a - k * b) hn (by omega) (by omega) (by omega) (by omega)
      refine ⟨j, by omega, ?_, ?_⟩
      · rw [← e1]
        show a * ((tf d r P Q X Y i).2.1 : Nat) + b * ((tf d r P Q X Y i).1.1 : Nat) = b * (((tf d r P Q X Y i).1.1 + tk d r P Q i * (tf d r P Q X Y i).2.1 : Nat) : Int) + (a - k * b) * ((tf d r P Q X Y i).2.1 : Nat)
        rw [Int.natCast_add, Int.natCast_mul, hk]
        generalize ((tf d r P Q X Y i).2.1 : Int) = u
        generalize ((tf d r P Q X Y i).1.1 : Int) = v
        clear e1 e2 tr hn rf hf h4 ih g1 g2 hkb h1
        grind
      · rw [← e2]
        show a * ((tf d r P Q X Y i).2.2 : Nat) + b * ((tf d r P Q X Y i).1.2 : Nat) = b * (((tf d r P Q X Y i).1.2 + tk d r P Q i * (tf d r P Q X Y i).2.2 : Nat) : Int) + (a - k * b) * ((tf d r P Q X Y i).2.2 : Nat)
        rw [Int.natCast_add, Int.natCast_mul, hk]
        generalize ((tf d r P Q X Y i).2.2 : Int) = u
        generalize ((tf d r P Q X Y i).1.2 : Int) = v
        clear e1 e2 tr hn rf hf h4 ih g1 g2 hkb h1
        grind
    · obtain rfl : b = 0 := by omega
      have e : fv A B C a 0 = A * (a * a) := by unfold fv; simp
      rw [e] at h4
      have A1 := rf.A1
      have ha : a = 1 := by
        rcases Int.lt_or_le 1 a with c | c
        · have h5 := Int.mul_le_mul (show 2 ≤ a by omega) (show 2 ≤ a by omega) (by omega) (by omega)
          have h6 := Int.mul_le_mul A1 h5 (by omega) (by omega)
          omega
        · omega
      subst ha
      exact ⟨i, Nat.le_refl _, by omega, by omega⟩

theorem ts_bd {d r p0 q0 P Q X Y : Nat} (h : Kd d r p0 q0 P Q X Y) (i : Nat) : 1 ≤ (ts d r P Q i).1 ∧ (ts d r P Q i).1 ≤ r ∧ 1 ≤ (ts d r P Q i).2 ∧ (ts d r P Q i).2 ≤ 2 * r ∧ 1 ≤ tk d r P Q i ∧ tk d r P Q i ≤ 2 * r := by
  obtain ⟨h1, h2, h3, h4⟩ := ts_cq h i
  have a1 := h1.p1; have a2 := h1.pr; have a3 := h1.qp; have a4 := h1.hi; have a5 := h1.k1; have a6 := h1.kle
  rw [← h4] at a5 a6
  refine ⟨by omega, by omega, by omega, by omega, by omega, by omega⟩
theorem tf_pos {d r p0 q0 P Q X Y : Nat} (h : Kd d r p0 q0 P Q X Y) (i : Nat) : 1 ≤ (tf d r P Q X Y i).1.1 ∧ 1 ≤ (tf d r P Q X Y i).2.1 ∧ 1 ≤ (tf d r P Q X Y i).2.2 := by
  induction i with
  | zero =>
    have hr := h.rn.r1
    have hc := h.cq.p1
    rcases h.two with ⟨_, _, _, _, e3, e4⟩ | ⟨_, _, _, _, _, _, e3, e4⟩ <;> simp only [tf] <;> omega
  | succ i ih =>
    have hk := (ts_bd h i).2.2.2.2.1
    have h1 := Nat.mul_le_mul hk ih.2.1
    have h2 := Nat.mul_le_mul hk ih.2.2
    simp only [tf]
    omega
theorem tf_step {d r p0 q0 P Q X Y : Nat} (h : Kd d r p0 q0 P Q X Y) (i : Nat) : (tf d r P Q X Y i).2.1 < (tf d r P Q X Y (i + 1)).2.1 ∧ (tf d r P Q X Y i).2.2 ≤ (tf d r P Q X Y (i + 1)).2.2 := by
  have hp := tf_pos h i
  have hk := (ts_bd h i).2.2.2.2.1
  have h1 := Nat.mul_le_mul_right (tf d r P Q X Y i).2.1 hk
  have h2 := Nat.mul_le_mul_right (tf d r P Q X Y i).2.2 hk
  simp only [tf]
  omega
theorem tf_mono {d r p0 q0 P Q X Y : Nat} (h : Kd d r p0 q0 P Q X Y) {i : Nat} : ∀ k, (tf d r P Q X Y i).2.1 + k ≤ (tf d r P Q X Y (i + k)).2.1 ∧ (tf d r P Q X Y i).2.2 ≤ (tf d r P Q X Y (i + k)).2.2 := by
  intro k
  induction k with
  | zero => simp
  | succ k ih =>
    have := tf_step h (i + k)
    rw [show i + (k + 1) = i + k + 1 by omega]
    omega
theorem tf_lt {d r p0 q0 P Q X Y : Nat} (h : Kd d r p0 q0 P Q X Y) (hr : 2 * r + 1 < 1000000000) (i : Nat) : (tf d r P Q X Y i).1.1 < 1000000000 ^ (i + 1) ∧ (tf d r P Q X Y i).1.2 < 1000000000 ^ (i + 1) ∧ (tf d r P Q X Y i).2.1 < 1000000000 ^ (i + 1) ∧ (tf d r P Q X Y i).2.2 < 1000000000 ^ (i + 1) := by
  induction i with
  | zero => rcases h.two with ⟨_, _, _, _, e3, e4⟩ | ⟨_, _, _, _, _, _, e3, e4⟩ <;> simp [tf] <;> omega
  | succ i ih =>
    obtain ⟨h1, h2, h3, h4⟩ := ih
    have hc := (ts_bd h i).2.2.2.2.2
    have hp : 1000000000 ^ (i + 1 + 1) = 1000000000 ^ (i + 1) * 1000000000 := Nat.pow_succ ..
    rw [hp]
    generalize 1000000000 ^ (i + 1) = B at *
    have g : ∀ x y, x < B → y < B → x + tk d r P Q i * y < B * 1000000000 := by
      intro x y hx hy
      have e1 : tk d r P Q i * y ≤ (2 * r) * B := Nat.mul_le_mul hc (by omega)
      have e2 : (2 * r + 1) * B ≤ 999999999 * B := Nat.mul_le_mul_right _ (by omega)
      rw [Nat.add_mul] at e2
      omega
    refine ⟨by simp only [tf]; omega, by simp only [tf]; omega, g _ _ h1 h3, g _ _ h2 h4⟩
/-- Which pairs are whole numbers of the ring. -/
def Lam (q0 x y : Nat) : Prop := (q0 = 1 ∧ x % 2 = 0 ∧ y % 2 = 0) ∨ (q0 = 2 ∧ x % 2 = y % 2)
theorem tf_lam {d r p0 q0 P Q X Y : Nat} (h : Kd d r p0 q0 P Q X Y) (i : Nat) : Lam q0 (tf d r P Q X Y i).1.1 (tf d r P Q X Y i).1.2 ∧ Lam q0 (tf d r P Q X Y i).2.1 (tf d r P Q X Y i).2.2 := by
  induction i with
  | zero =>
    show Lam q0 2 0 ∧ Lam q0 X Y
    rcases h.two with ⟨e0, e1, e2, e5, e3, e4⟩ | ⟨e0, e1, e2, e5, e6, e7, e3, e4⟩
    · exact ⟨.inl ⟨e0, by omega, by omega⟩, .inl ⟨e0, by omega, by omega⟩⟩
    · exact ⟨.inr ⟨e0, by omega⟩, .inr ⟨e0, by omega⟩⟩
  | succ i ih =>
    refine ⟨ih.2, ?_⟩
    obtain ⟨h1, h2⟩ := ih
    unfold Lam at *
    simp only [tf]
    generalize tk d r P Q i = k
    generalize (tf d r P Q X Y i).1.1 = x0 at *
    generalize (tf d r P Q X Y i).1.2 = y0 at *
    generalize (tf d r P Q X Y i).2.1 = x1 at *
    generalize (tf d r P Q X Y i).2.2 = y1 at *
    have e1 : (x0 + k * x1) % 2 = (x0 % 2 + (k % 2) * (x1 % 2)) % 2 := by have := Nat.mul_mod k x1 2; omega
    have e2 : (y0 + k * y1) % 2 = (y0 % 2 + (k % 2) * (y1 % 2)) % 2 := by have := Nat.mul_mod k y1 2; omega
    rcases h1 with ⟨a1, a2, a3⟩ | ⟨a1, a2⟩
    · rcases h2 with ⟨b1, b2, b3⟩ | ⟨b1, b2⟩
      · left; rw [e1, e2, a2, a3, b2, b3]; omega
      · omega
    · rcases h2 with ⟨b1, b2, b3⟩ | ⟨b1, b2⟩
      · omega
      · right; rw [e1, e2, a2, b2]; omega
theorem norm_at {d r p0 q0 P Q X Y : Nat} (h : Kd d r p0 q0 P Q X Y) {i : Nat} (hq : (ts d r P Q i).2 = q0) : ((tf d r P Q X Y i).2.1 : Int) * ((tf d r P Q X Y i).2.1 : Nat) - (d : Int) * (((tf d r P Q X Y i).2.2 : Nat) * ((tf d r P Q X Y i).2.2 : Nat)) = 4 * -sgn i := by
  have := (tf_nm h i).c
  rw [this, hq]
  unfold mm
  rcases h.q0 with e | e <;> subst e <;> simp <;> omega

theorem g_id (d x0 y0 x1 y1 a b : Int) : (a * x1 + b * x0) * (a * x1 + b * x0) - d * ((a * y1 + b * y0) * (a * y1 + b * y0)) = a * a * (x1 * x1 - d * (y1 * y1)) + 2 * (a * b) * (x1 * x0 - d * (y1 * y0)) + b * b * (x0 * x0 - d * (y0 * y0)) := by grind
theorem g_fv {d m s q0 x0 y0 x1 y1 p q A B C : Int} (h : Nrm d m s x0 y0 x1 y1 p q) (f : Fm d q0 p q A B C) (hq : 1 ≤ q) (hm : m * q0 = 4) (a b : Int) :
    (a * x1 + b * x0) * (a * x1 + b * x0) - d * ((a * y1 + b * y0) * (a * y1 + b * y0)) = -s * 4 * fv A B C a b := by
  have h3 : x0 * x0 - d * (y0 * y0) = s * (m * (q0 * C)) := by
    apply Int.eq_of_mul_eq_mul_right (show q ≠ 0 by omega)
    rw [h.b, f.ec]; grind
  rw [g_id, h.c, h.x, h3, ← hm]
  have e1 := f.eq
  have e2 := f.ep
  have e3 : 2 * (a * b) * (s * (m * p)) = a * b * (s * m) * (2 * p) := by grind
  rw [e3, e2, e1]
  unfold fv
  clear h f h3 e1 e2 e3 hm hq
  grind
/-- A unit is one of the fractions, at an end of the part. -/
theorem unit_is {d r p0 q0 P Q X Y : Nat} (h : Kd d r p0 q0 P Q X Y) {x y : Nat} {s : Int} (hs : s = 1 ∨ s = -1) (hy : 1 ≤ y) (hL : Lam q0 x y) (hg : (x : Int) * x - (d : Int) * ((y : Int) * y) = 4 * s) :
    ∃ j, x = (tf d r P Q X Y j).2.1 ∧ y = (tf d r P Q X Y j).2.2 ∧ (ts d r P Q j).2 = q0 ∧ s = -sgn j := by
  obtain ⟨A, B, C, hf⟩ := h.fm0
  have hlo := h.rn.lo
  have hm : mm q0 * (q0 : Int) = 4 := by unfold mm; rcases h.q0 with e | e <;> subst e <;> simp
  obtain ⟨a, b, ha, hb, e1, e2⟩ : ∃ a b : Int, 1 ≤ a ∧ 0 ≤ b ∧ a * (X : Int) + b * 2 = x ∧ a * (Y : Int) + b * 0 = y := by
    rcases h.two with ⟨e0, _, e1, e2, e3, e4⟩ | ⟨e0, _, h3, h4, h5, h6, e3, e4⟩
    · rcases hL with ⟨_, l1, l2⟩ | ⟨l0, _⟩
      · obtain ⟨x', rfl⟩ : ∃ x', x = 2 * x' := ⟨x / 2, by omega⟩
        obtain ⟨y', rfl⟩ : ∃ y', y = 2 * y' := ⟨y / 2, by omega⟩
        have g2 : (x' : Int) * x' - (d : Int) * ((y' : Int) * y') = s := by
          push_cast at hg
          have i1 : 2 * (x' : Int) * (2 * (x' : Int)) - (d : Int) * (2 * (y' : Int) * (2 * (y' : Int))) = 4 * ((x' : Int) * x' - (d : Int) * ((y' : Int) * y')) := by grind
          omega
        have hle : r * y' ≤ x' := by
          rcases Nat.lt_or_ge x' (r * y') with c | c
          · exfalso
            have c2 : x' * x' < r * y' * (r * y') := Nat.mul_self_lt_mul_self c
            have c3 : r * y' * (r * y') = r * r * (y' * y') := by grind
            have c4 : (r * r + 1) * (y' * y') ≤ d * (y' * y') := Nat.mul_le_mul_right _ (by omega)
            have c5 : 1 * 1 ≤ y' * y' := Nat.mul_le_mul (by omega) (by omega)
            rw [Nat.add_mul] at c4
            have c6 : ((d * (y' * y') : Nat) : Int) = (d : Int) * ((y' : Int) * y') := by rw [Int.natCast_mul, Int.natCast_mul]
            have c7 : ((x' * x' : Nat) : Int) = (x' : Int) * x' := Int.natCast_mul _ _
            rw [← c6, ← c7] at g2
            omega
          · exact c
        have c8 : ((r * y' : Nat) : Int) = (r : Int) * y' := Int.natCast_mul _ _
        refine ⟨y', (x' : Int) - r * y', by omega, by rw [← c8]; omega, ?_, ?_⟩
        · rw [e3]; push_cast; grind
        · rw [e4]; push_cast; omega
      · omega
    · rcases hL with ⟨l0, _⟩ | ⟨_, l1⟩
      · omega
      · have m4 := sq_mod4 h4
        have hPr : P * P ≤ r * r := Nat.mul_le_mul (by omega) (by omega)
        have hle : P * y ≤ x := by
          rcases Nat.lt_or_ge x (P * y) with c | c
          · exfalso
            have c2 : x * x < P * y * (P * y) := Nat.mul_self_lt_mul_self c
            have c3 : P * y * (P * y) = P * P * (y * y) := by grind
            have c4 : (P * P + 4) * (y * y) ≤ d * (y * y) := Nat.mul_le_mul_right _ (by omega)
            have c5 : 1 * 1 ≤ y * y := Nat.mul_le_mul (by omega) (by omega)
            rw [Nat.add_mul] at c4
            have c6 : ((d * (y * y) : Nat) : Int) = (d : Int) * ((y : Int) * y) := by rw [Int.natCast_mul, Int.natCast_mul]
            have c7 : ((x * x : Nat) : Int) = (x : Int) * x := Int.natCast_mul _ _
            rw [← c6, ← c7] at hg
            omega
          · exact c
        have hpar : (P * y) % 2 = y % 2 := by rw [Nat.mul_mod, h4]; omega
        have c8 : ((P * y : Nat) : Int) = (P : Int) * y := Int.natCast_mul _ _
        refine ⟨y, (((x - P * y) / 2 : Nat) : Int), by omega, by omega, ?_, ?_⟩
        · rw [e3, Int.mul_comm (y : Int) (P : Int), ← c8]; omega
        · rw [e4]; omega
  have hv := g_fv h.nm0 hf h.cq.qp hm a b
  rw [e1, e2, hg] at hv
  have hfv : fv A B C a b = 1 ∨ fv A B C a b = -1 := by omega
  obtain ⟨j, _, f1, f2⟩ := unit_at h (a + b).toNat 0 A B C a b hf (by omega) ha hb hfv
  have f1' : a * (X : Int) + b * 2 = ((tf d r P Q X Y j).2.1 : Nat) := f1
  have f2' : a * (Y : Int) + b * 0 = ((tf d r P Q X Y j).2.2 : Nat) := f2
  rw [e1] at f1'
  rw [e2] at f2'
  have nj := (tf_nm h j).c
  rw [← f1', ← f2', hg] at nj
  have hsg : sgn j = 1 ∨ sgn j = -1 := by unfold sgn; split <;> omega
  have hq := (ts_bd h j).2.2.1
  refine ⟨j, by omega, by omega, ?_, ?_⟩
  · unfold mm at nj
    rcases h.q0 with e | e <;> subst e <;> simp at nj <;> rcases hsg with g | g <;> rw [g] at nj <;> omega
  · unfold mm at nj
    rcases h.q0 with e | e <;> subst e <;> simp at nj <;> rcases hsg with g | g <;> rw [g] at nj ⊢ <;> omega
/-- The first end of the part. -/
def Ue (d r P Q q0 N : Nat) : Prop := 1 ≤ N ∧ N ≤ 1000 ∧ (ts d r P Q (N - 1)).2 = q0 ∧ ∀ i, i < N - 1 → (ts d r P Q i).2 ≠ q0
theorem ue_or (d r P Q q0 : Nat) : (∃ N, Ue d r P Q q0 N) ∨ ∀ i, i < 1000 → (ts d r P Q i).2 ≠ q0 := by
  have key : ∀ m, m ≤ 1000 → (∃ N, Ue d r P Q q0 N) ∨ ∀ i, i < m → (ts d r P Q i).2 ≠ q0 := by
    intro m
    induction m with
    | zero => intro _; exact .inr (fun i h => by omega)
    | succ m ih =>
      intro hm
      rcases ih (by omega) with h | h
      · exact .inl h
      · by_cases e : (ts d r P Q m).2 = q0
        · exact .inl ⟨m + 1, by omega, by omega, e, fun i hi => h i (by omega)⟩
        · refine .inr (fun i hi => ?_)
          rcases Nat.lt_or_ge i m with c | c
          · exact h i c
          · obtain rfl : i = m := by omega
            exact e
  exact key 1000 (by omega)
/-- The one at the first end is the least. -/
theorem unit_least {d r p0 q0 P Q X Y N : Nat} (h : Kd d r p0 q0 P Q X Y) (hN : Ue d r P Q q0 N) {x y : Nat} {s : Int} (hs : s = 1 ∨ s = -1) (hy : 1 ≤ y) (hL : Lam q0 x y) (hg : (x : Int) * x - (d : Int) * ((y : Int) * y) = 4 * s) :
    (tf d r P Q X Y (N - 1)).2.2 ≤ y ∧ ((x = (tf d r P Q X Y (N - 1)).2.1 ∧ y = (tf d r P Q X Y (N - 1)).2.2 ∧ s = -sgn (N - 1)) ∨ (tf d r P Q X Y (N - 1)).2.1 < x) := by
  obtain ⟨j, e1, e2, e3, e4⟩ := unit_is h hs hy hL hg
  have hj : N - 1 ≤ j := by
    rcases Nat.lt_or_ge j (N - 1) with c | c
    · exact absurd e3 (hN.2.2.2 j c)
    · exact c
  obtain ⟨k, rfl⟩ := Nat.exists_eq_add_of_le hj
  have m := tf_mono h (i := N - 1) k
  refine ⟨by omega, ?_⟩
  rcases Nat.eq_zero_or_pos k with c | c
  · subst c; left; exact ⟨e1, e2, e4⟩
  · right; omega

end Go.Proofs.YtfbgblidlabipaaGreatDoor.UtM
end

section
/- Plain: the list's part ends within 1000 for all d up to 20000; Pell's solution is the first, second, third or sixth power of the unit for all d up to 3000: what the kernel goes through. -/
set_option linter.unusedSimpArgs false
set_option linter.unusedVariables false
set_option maxRecDepth 100000
namespace Go.Proofs.YtfbgblidlabipaaGreatDoor.UtM
open CfM

def perOk (d r q0 : Nat) : Nat → Nat → Nat → Bool
  | 0, _, _ => false
  | n + 1, p, q => if q == q0 then true else
      let k := (p + r) / q
      let p' := k * q - p
      perOk d r q0 n p' ((d - p' * p') / q)
def oddr (r : Nat) : Nat := if r % 2 == 1 then r else r - 1
def chkd (d r : Nat) : Bool :=
  if d % 4 == 1 then perOk d r 2 1000 (oddr r) ((d - oddr r * oddr r) / 2) else perOk d r 1 1000 r (d - r * r)
def chkr (r : Nat) : Bool := (List.range (2 * r)).all (fun i => chkd (r * r + 1 + i) r)
def chkrs (a n : Nat) : Bool := (List.range n).all (fun i => chkr (a + i))
theorem per_ex {d r P Q q0 : Nat} : ∀ n i, perOk d r q0 n (ts d r P Q i).1 (ts d r P Q i).2 = true → ∃ j, i ≤ j ∧ j < i + n ∧ (ts d r P Q j).2 = q0 := by
  intro n
  induction n with
  | zero => intro i h; simp [perOk] at h
  | succ n ih =>
    intro i h
    unfold perOk at h
    by_cases e : (ts d r P Q i).2 = q0
    · exact ⟨i, Nat.le_refl _, by omega, e⟩
    · rw [if_neg (by simpa using e)] at h
      obtain ⟨j, h1, h2, h3⟩ := ih (i + 1) h
      exact ⟨j, by omega, by omega, h3⟩
theorem ue_of {d r P Q q0 : Nat} (h : perOk d r q0 1000 P Q = true) : ∃ N, Ue d r P Q q0 N := by
  rcases ue_or d r P Q q0 with c | c
  · exact c
  · obtain ⟨j, h1, h2, h3⟩ := per_ex 1000 0 h
    exact absurd h3 (c j (by omega))

/-- The kind of d. -/
theorem kd_of {d r : Nat} (h : Rn d r) : (d % 4 ≠ 1 ∧ Kd d r 0 1 r (d - r * r) (2 * r) 2) ∨ (d % 4 = 1 ∧ Kd d r 1 2 (oddr r) ((d - oddr r * oddr r) / 2) (oddr r) 1) := by
  by_cases e : d % 4 = 1
  · right
    have h1 := h.r1
    have h2 := h.lo
    have h3 := h.hi
    have r2 : 2 ≤ r := by
      rcases Nat.lt_or_ge r 2 with c | c
      · obtain rfl : r = 1 := by omega
        omega
      · exact c
    have ho : oddr r % 2 = 1 ∧ (oddr r = r ∨ oddr r + 1 = r) := by
      unfold oddr
      by_cases c : r % 2 = 1
      · rw [if_pos (by simpa using c)]; omega
      · rw [if_neg (by simpa using c)]; omega
    have m := sq_mod4 ho.1
    have hPr : oddr r * oddr r ≤ r * r := Nat.mul_le_mul (by omega) (by omega)
    exact ⟨e, h, .inr ⟨rfl, rfl, e, ho.1, ho.2, by omega, rfl, rfl⟩⟩
  · exact .inl ⟨e, h, .inl ⟨rfl, rfl, rfl, rfl, rfl, rfl⟩⟩
theorem chkd_of {a n d r : Nat} (h : chkrs a n = true) (hr : Rn d r) (h1 : a ≤ r) (h2 : r < a + n) : chkd d r = true := by
  rw [chkrs, List.all_eq_true] at h
  have h3 := h (r - a) (by simp; omega)
  rw [show a + (r - a) = r by omega, chkr, List.all_eq_true] at h3
  have lo := hr.lo
  have hi := hr.hi
  have e : (r + 1) * (r + 1) = r * r + 2 * r + 1 := by grind
  have h4 := h3 (d - r * r - 1) (by simp; omega)
  rw [show r * r + 1 + (d - r * r - 1) = d by omega] at h4
  exact h4

/-- The unit at the end, reckoned. -/
def uend (d r q0 : Nat) : Nat → Nat → Nat → Nat → Nat → Nat → Nat → Option (Nat × Nat)
  | 0, _, _, _, _, _, _ => none
  | n + 1, p, q, x0, y0, x1, y1 => if q == q0 then some (x1, y1) else
      let k := (p + r) / q
      let p' := k * q - p
      uend d r q0 n p' ((d - p' * p') / q) x1 y1 (x0 + k * x1) (y0 + k * y1)
theorem uend_is {d r P Q X Y q0 : Nat} : ∀ m n i, m < n → (∀ j, j < m → (ts d r P Q (i + j)).2 ≠ q0) → (ts d r P Q (i + m)).2 = q0 →
    uend d r q0 n (ts d r P Q i).1 (ts d r P Q i).2 (tf d r P Q X Y i).1.1 (tf d r P Q X Y i).1.2 (tf d r P Q X Y i).2.1 (tf d r P Q X Y i).2.2 = some (tf d r P Q X Y (i + m)).2 := by
  intro m
  induction m with
  | zero =>
    intro n i hn _ hq
    obtain ⟨n', rfl⟩ : ∃ n', n = n' + 1 := ⟨n - 1, by omega⟩
    unfold uend
    rw [if_pos (by simpa using hq)]
    rfl
  | succ m ih =>
    intro n i hn hne hq
    obtain ⟨n', rfl⟩ : ∃ n', n = n' + 1 := ⟨n - 1, by omega⟩
    unfold uend
    rw [if_neg (by have := hne 0 (by omega); simpa using this)]
    have := ih n' (i + 1) (by omega) (fun j hj => by have := hne (j + 1) (by omega); rw [show i + 1 + j = i + (j + 1) by omega]; exact this) (by rw [show i + 1 + m = i + (m + 1) by omega]; exact hq)
    rw [show i + 1 + m = i + (m + 1) by omega] at this
    exact this
theorem uend_ue {d r P Q X Y q0 N : Nat} (h : Ue d r P Q q0 N) : uend d r q0 1000 P Q 2 0 X Y = some (tf d r P Q X Y (N - 1)).2 := by
  obtain ⟨h1, h2, h3, h4⟩ := h
  have := uend_is (d := d) (r := r) (P := P) (Q := Q) (X := X) (Y := Y) (q0 := q0) (N - 1) 1000 0 (by omega) (fun j hj => by rw [Nat.zero_add]; exact h4 j hj) (by rw [Nat.zero_add]; exact h3)
  rw [Nat.zero_add] at this
  exact this
/-- Powers of a unit. -/
def upn (d x y : Nat) : Nat → Nat × Nat
  | 0 => (x, y)
  | k + 1 => (((upn d x y k).1 * x + d * ((upn d x y k).2 * y)) / 2, ((upn d x y k).1 * y + (upn d x y k).2 * x) / 2)
def powOk (d x y u v : Nat) : Bool :=
  let m := fun k => upn d x y k == (2 * u, 2 * v)
  m 0 || m 1 || m 2 || (!m 3 && !m 4 && m 5)
def chkp (d r : Nat) : Bool :=
  match (if d % 4 == 1 then uend d r 2 1000 (oddr r) ((d - oddr r * oddr r) / 2) 2 0 (oddr r) 1 else uend d r 1 1000 r (d - r * r) 2 0 (2 * r) 2), pel d r 400 r (d - r * r) 1 0 r 1 false with
  | some (x, y), some (u, v) => powOk d x y u v
  | _, _ => false
def chkpr (r : Nat) : Bool := (List.range (2 * r)).all (fun i => chkp (r * r + 1 + i) r)
def chkprs (a n : Nat) : Bool := (List.range n).all (fun i => chkpr (a + i))
theorem chkp_of {a n d r : Nat} (h : chkprs a n = true) (hr : Rn d r) (h1 : a ≤ r) (h2 : r < a + n) : chkp d r = true := by
  rw [chkprs, List.all_eq_true] at h
  have h3 := h (r - a) (by simp; omega)
  rw [show a + (r - a) = r by omega, chkpr, List.all_eq_true] at h3
  have lo := hr.lo
  have hi := hr.hi
  have e : (r + 1) * (r + 1) = r * r + 2 * r + 1 := by grind
  have h4 := h3 (d - r * r - 1) (by simp; omega)
  rw [show r * r + 1 + (d - r * r - 1) = d by omega] at h4
  exact h4
/-- Where the powers of a unit meet Pell's solution. -/
def Mt (d x y u v : Nat) : Prop := ∃ K, (K = 0 ∨ K = 1 ∨ K = 2 ∨ K = 5) ∧ upn d x y K = (2 * u, 2 * v) ∧ ∀ k, k < K → upn d x y k ≠ (2 * u, 2 * v)
theorem mt_of {d x y u v : Nat} (h : powOk d x y u v = true) : Mt d x y u v := by
  unfold powOk at h
  by_cases h0 : upn d x y 0 = (2 * u, 2 * v)
  · exact ⟨0, by omega, h0, fun k hk => by omega⟩
  · by_cases h1 : upn d x y 1 = (2 * u, 2 * v)
    · refine ⟨1, by omega, h1, fun k hk => ?_⟩
      obtain rfl : k = 0 := by omega
      exact h0
    · by_cases h2 : upn d x y 2 = (2 * u, 2 * v)
      · refine ⟨2, by omega, h2, fun k hk => ?_⟩
        rcases (show k = 0 ∨ k = 1 by omega) with rfl | rfl
        · exact h0
        · exact h1
      · simp only [beq_eq_false_iff_ne.2 h0, beq_eq_false_iff_ne.2 h1, beq_eq_false_iff_ne.2 h2, Bool.false_or, Bool.and_eq_true, Bool.not_eq_true', beq_eq_false_iff_ne, beq_iff_eq] at h
        obtain ⟨⟨h3, h4⟩, h5⟩ := h
        refine ⟨5, by omega, h5, fun k hk => ?_⟩
        rcases (show k = 0 ∨ k = 1 ∨ k = 2 ∨ k = 3 ∨ k = 4 by omega) with rfl | rfl | rfl | rfl | rfl
        · exact h0
        · exact h1
        · exact h2
        · exact h3
        · exact h4

end Go.Proofs.YtfbgblidlabipaaGreatDoor.UtM
end
