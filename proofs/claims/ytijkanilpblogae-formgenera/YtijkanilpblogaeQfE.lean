/- Forms that are like a reduced one: plain facts. -/
import Derived.Test.YtijkanilpblogaeQfD
set_option linter.unusedSimpArgs false
set_option linter.unusedVariables false
set_option maxRecDepth 100000
namespace Go.Proofs.Ytijkanilpblogae

/-- g is reduced, and like f by m. -/
structure Rd (f g : Qf) (m : Mt) : Prop where
  red : g.redB = true
  det : m.p * m.s - m.q * m.r = 1
  like : ∀ x y : Int, f.at (m.p * x + m.q * y) (m.r * x + m.s * y) = g.at x y

theorem redB_parts {g : Qf} (h : g.redB = true) : -g.a ≤ g.b ∧ g.b ≤ g.a ∧ g.a ≤ g.c := by
  unfold Qf.redB at h
  simp only [Bool.and_eq_true, decide_eq_true_eq] at h
  omega

theorem sq_nn (x : Int) : 0 ≤ x * x := by
  rcases Int.le_total 0 x with h | h
  · exact Int.mul_nonneg h h
  · have := Int.mul_nonneg (show 0 ≤ -x by omega) (show 0 ≤ -x by omega)
    rwa [Int.neg_mul_neg] at this

theorem Rd.ga {f g : Qf} {m : Mt} (h : Rd f g m) : g.a = f.at m.p m.r := by
  have := h.like 1 0
  simp [Qf.at] at this
  simp [Qf.at]; omega
theorem Rd.gc {f g : Qf} {m : Mt} (h : Rd f g m) : g.c = f.at m.q m.s := by
  have := h.like 0 1
  simp [Qf.at] at this
  simp [Qf.at]; omega
theorem Rd.gb {f g : Qf} {m : Mt} (h : Rd f g m) : g.b = 2 * (m.p * m.q) * f.a + (m.p * m.s + m.q * m.r) * f.b + 2 * (m.r * m.s) * f.c := by
  have h1 := h.like 1 1
  have h2 := h.ga
  have h3 := h.gc
  simp only [Qf.at] at h1 h2 h3
  grind
theorem Rd.disc {f g : Qf} {m : Mt} (h : Rd f g m) : g.disc = f.disc := by
  have h1 := h.ga
  have h2 := h.gb
  have h3 := h.gc
  have h4 := h.det
  have e : g.disc = (m.p * m.s - m.q * m.r) * (m.p * m.s - m.q * m.r) * f.disc := by
    unfold Qf.disc
    rw [h1, h2, h3]
    simp only [Qf.at]
    grind
  rw [e, h4]; simp

/-- Backwards. -/
theorem Rd.back {f g : Qf} {m : Mt} (h : Rd f g m) (x y : Int) : f.at x y = g.at (m.s * x - m.q * y) (m.p * y - m.r * x) := by
  rw [← h.like]
  have h4 := h.det
  have e1 : m.p * (m.s * x - m.q * y) + m.q * (m.p * y - m.r * x) = (m.p * m.s - m.q * m.r) * x := by grind
  have e2 : m.r * (m.s * x - m.q * y) + m.s * (m.p * y - m.r * x) = (m.p * m.s - m.q * m.r) * y := by grind
  rw [e1, e2, h4]; simp

/-- Of two whole numbers, not both 0. -/
theorem three_pos (x y : Int) (hy : y ≠ 0) : 1 ≤ x * x + y * y - x * y ∧ 1 ≤ x * x + y * y + x * y ∧ 1 ≤ y * y := by
  have h1 := sq_nn (2 * x - y)
  have h2 := sq_nn (2 * x + y)
  have h3 : 1 ≤ y * y := by
    have h4 := sq_nn y
    rcases Int.lt_or_le 0 (y * y) with h | h
    · omega
    · exfalso
      have : y * y = 0 := by omega
      rcases Int.mul_eq_zero.1 this with h | h <;> exact hy h
  have e1 : (2 * x - y) * (2 * x - y) + 3 * (y * y) = 4 * (x * x + y * y - x * y) := by grind
  have e2 : (2 * x + y) * (2 * x + y) + 3 * (y * y) = 4 * (x * x + y * y + x * y) := by grind
  refine ⟨by omega, by omega, h3⟩

theorem red_least {g : Qf} (h : g.redB = true) (x y : Int) (hy : y ≠ 0) : g.c ≤ g.at x y := by
  obtain ⟨h1, h2, h3⟩ := redB_parts h
  obtain ⟨t1, t2, t3⟩ := three_pos x y hy
  have ha : 0 ≤ g.a := by omega
  have m3 : g.c - g.a ≤ y * y * (g.c - g.a) := by
    have := Int.mul_le_mul_of_nonneg_right t3 (show 0 ≤ g.c - g.a by omega)
    omega
  unfold Qf.at
  rcases Int.le_total 0 (x * y) with hxy | hxy
  · -- b x y ≥ - a x y
    have m1 : x * y * (-g.a) ≤ x * y * g.b := Int.mul_le_mul_of_nonneg_left h1 hxy
    have m2 : 1 * g.a ≤ (x * x + y * y - x * y) * g.a := Int.mul_le_mul_of_nonneg_right t1 ha
    grind
  · have m1 : x * y * g.a ≤ x * y * g.b := Int.mul_le_mul_of_nonpos_left hxy h2
    have m2 : 1 * g.a ≤ (x * x + y * y + x * y) * g.a := Int.mul_le_mul_of_nonneg_right t2 ha
    grind

theorem ffault_ok {f : Qf} (h : ffault f = (0, 0)) : f.upto 1000000 ∧ 1 ≤ f.a ∧ f.disc < 0 ∧ Int.gcd (Int.gcd f.a f.b) f.c = 1 := by
  unfold ffault at h
  by_cases h1 : okc f.a = false
  · rw [if_pos h1] at h; simp at h
  rw [if_neg h1] at h
  by_cases h2 : okc f.b = false
  · rw [if_pos h2] at h; simp at h
  rw [if_neg h2] at h
  by_cases h3 : okc f.c = false
  · rw [if_pos h3] at h; simp at h
  rw [if_neg h3] at h
  by_cases h4 : f.a < 1 ∨ 0 ≤ f.disc
  · rw [if_pos h4] at h; simp at h
  rw [if_neg h4] at h
  by_cases h5 : Int.gcd (Int.gcd f.a f.b) f.c ≠ 1
  · rw [if_pos h5] at h; simp at h
  have a1 := okc_true (by simpa using h1)
  have a2 := okc_true (by simpa using h2)
  have a3 := okc_true (by simpa using h3)
  exact ⟨⟨a1.1, a1.2, a2.1, a2.2, a3.1, a3.2⟩, by omega, by omega, by simpa using h5⟩
theorem ffault_of {f : Qf} (h : f.upto 1000000) (h1 : 1 ≤ f.a) (h2 : f.disc < 0) (h3 : Int.gcd (Int.gcd f.a f.b) f.c = 1) : ffault f = (0, 0) := by
  obtain ⟨a1, a2, a3, a4, a5, a6⟩ := h
  have b1 : ¬ okc f.a = false := by simp [okc]; omega
  have b2 : ¬ okc f.b = false := by simp [okc]; omega
  have b3 : ¬ okc f.c = false := by simp [okc]; omega
  unfold ffault
  rw [if_neg b1, if_neg b2, if_neg b3, if_neg (by omega), if_neg (by simpa using h3)]

theorem Rd.upto {f g : Qf} {m : Mt} (h : Rd f g m) (hf : ffault f = (0, 0)) : g.upto 1000000 ∧ 1 ≤ g.a ∧ g.a ≤ g.c := by
  obtain ⟨⟨a1, a2, a3, a4, a5, a6⟩, f1, f2, f3⟩ := ffault_ok hf
  obtain ⟨r1, r2, r3⟩ := redB_parts h.red
  have e1 : f.a = g.at m.s (-m.r) := by have := h.back 1 0; simp [Qf.at] at this ⊢; omega
  have e2 : f.c = g.at (-m.q) m.p := by have := h.back 0 1; simp [Qf.at] at this ⊢; omega
  have hc : g.c ≤ 1000000 := by
    by_cases hr : m.r = 0
    · have hp : m.p ≠ 0 := by
        intro hp
        have := h.det
        rw [hr, hp] at this
        simp at this
      have := red_least h.red (-m.q) m.p hp
      omega
    · have := red_least h.red m.s (-m.r) (by omega)
      omega
  have hd := h.disc
  have ha : 1 ≤ g.a := by
    rcases Int.lt_or_le 0 g.a with h | h
    · omega
    · exfalso
      have h0 : g.a = 0 := by omega
      have h1 : g.b = 0 := by omega
      unfold Qf.disc at hd f2
      rw [h0, h1] at hd
      simp at hd
      omega
  exact ⟨⟨by omega, by omega, by omega, by omega, by omega, by omega⟩, ha, r3⟩

theorem gcd3_dvd {a b c : Int} {d : Int} (h1 : d ∣ a) (h2 : d ∣ b) (h3 : d ∣ c) : d ∣ (Int.gcd (Int.gcd a b) c : Int) := Int.dvd_coe_gcd (Int.dvd_coe_gcd h1 h2) h3

theorem Rd.fault {f g : Qf} {m : Mt} (h : Rd f g m) (hf : ffault f = (0, 0)) : ffault g = (0, 0) := by
  obtain ⟨u, ha, _⟩ := h.upto hf
  obtain ⟨_, f1, f2, f3⟩ := ffault_ok hf
  refine ffault_of u ha (by rw [h.disc]; exact f2) ?_
  obtain ⟨d, hd⟩ : ∃ d : Nat, d = Int.gcd (Int.gcd g.a g.b) g.c := ⟨_, rfl⟩
  rw [← hd]
  have da : (d : Int) ∣ g.a := by rw [hd]; exact Int.dvd_trans (Int.gcd_dvd_left ..) (Int.gcd_dvd_left ..)
  have db : (d : Int) ∣ g.b := by rw [hd]; exact Int.dvd_trans (Int.gcd_dvd_left ..) (Int.gcd_dvd_right ..)
  have dc : (d : Int) ∣ g.c := by rw [hd]; exact Int.gcd_dvd_right ..
  have dat : ∀ x y, (d : Int) ∣ g.at x y := fun x y => by
    unfold Qf.at
    exact Int.dvd_add (Int.dvd_add (Int.dvd_mul_of_dvd_right da) (Int.dvd_mul_of_dvd_right db)) (Int.dvd_mul_of_dvd_right dc)
  have fa : (d : Int) ∣ f.a := by
    have e : f.a = f.at 1 0 := by simp [Qf.at]
    rw [e, h.back]; exact dat _ _
  have fc : (d : Int) ∣ f.c := by
    have e : f.c = f.at 0 1 := by simp [Qf.at]
    rw [e, h.back]; exact dat _ _
  have fb : (d : Int) ∣ f.b := by
    have e : f.b = f.at 1 1 - f.a - f.c := by simp [Qf.at]; omega
    rw [e, h.back]; exact Int.dvd_sub (Int.dvd_sub (dat _ _) fa) fc
  have hg := gcd3_dvd fa fb fc
  rw [f3] at hg
  have := Int.natAbs_dvd_natAbs.2 hg
  simpa using this

theorem sq_le_bd {x N : Int} (hN : 0 ≤ N) (h : x * x ≤ N * N) : -N ≤ x ∧ x ≤ N := by
  constructor
  · rcases Int.lt_or_le x (-N) with h1 | h1
    · exfalso
      have h2 : (N + 1) * (N + 1) ≤ (-x) * (-x) := Int.mul_le_mul (by omega) (by omega) (by omega) (by omega)
      rw [Int.neg_mul_neg] at h2
      grind
    · exact h1
  · rcases Int.lt_or_le N x with h1 | h1
    · exfalso
      have h2 : (N + 1) * (N + 1) ≤ x * x := Int.mul_le_mul (by omega) (by omega) (by omega) (by omega)
      grind
    · exact h1

/-- A place at which a form's value is not great is not far. -/
theorem near_bd {f : Qf} (hf : f.upto 1000000) (ha : 1 ≤ f.a) (hd : f.disc < 0) {x y v : Int} (hv : f.at x y = v) (hv0 : v ≤ 1000000) (hv1 : 0 ≤ v) : (-100000000 ≤ x ∧ x ≤ 100000000) ∧ (-100000000 ≤ y ∧ y ≤ 100000000) := by
  obtain ⟨a1, a2, a3, a4, a5, a6⟩ := hf
  have e1 : 4 * f.a * v = (2 * f.a * x + f.b * y) * (2 * f.a * x + f.b * y) + (-f.disc) * (y * y) := by rw [← hv]; simp only [Qf.at, Qf.disc]; grind
  have e2 : 4 * f.c * v = (2 * f.c * y + f.b * x) * (2 * f.c * y + f.b * x) + (-f.disc) * (x * x) := by rw [← hv]; simp only [Qf.at, Qf.disc]; grind
  have s1 := sq_nn (2 * f.a * x + f.b * y)
  have s2 := sq_nn (2 * f.c * y + f.b * x)
  have y1 : y * y ≤ (-f.disc) * (y * y) := by
    have := Int.mul_le_mul_of_nonneg_right (show 1 ≤ -f.disc by omega) (sq_nn y)
    omega
  have x1 : x * x ≤ (-f.disc) * (x * x) := by
    have := Int.mul_le_mul_of_nonneg_right (show 1 ≤ -f.disc by omega) (sq_nn x)
    omega
  have v1 : f.a * v ≤ 1000000 * 1000000 := Int.mul_le_mul a2 hv0 hv1 (by omega)
  have v2 : f.c * v ≤ 1000000 * 1000000 := by
    have h1 := Int.mul_le_mul_of_nonneg_right a6 hv1
    have h2 := Int.mul_le_mul_of_nonneg_left hv0 (show (0 : Int) ≤ 1000000 by omega)
    omega
  have w1 : 4 * f.a * v = 4 * (f.a * v) := Int.mul_assoc ..
  have w2 : 4 * f.c * v = 4 * (f.c * v) := Int.mul_assoc ..
  exact ⟨sq_le_bd (by omega) (by omega), sq_le_bd (by omega) (by omega)⟩

theorem Rd.small {f g : Qf} {m : Mt} (h : Rd f g m) (hf : ffault f = (0, 0)) : m.upto 100000000 := by
  obtain ⟨u, f1, f2, f3⟩ := ffault_ok hf
  obtain ⟨⟨a1, a2, a3, a4, a5, a6⟩, ha, hc⟩ := h.upto hf
  obtain ⟨p1, p2⟩ := near_bd u f1 f2 h.ga.symm a2 (by omega)
  obtain ⟨q1, q2⟩ := near_bd u f1 f2 h.gc.symm a6 (by omega)
  exact ⟨p1, q1, p2, q2⟩

end Go.Proofs.Ytijkanilpblogae
