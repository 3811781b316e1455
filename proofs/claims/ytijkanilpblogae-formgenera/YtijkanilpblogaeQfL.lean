/- Where a form has no divisor with a number: plain facts for the reference's Composed. -/
import Derived.Test.YtijkanilpblogaeQfK
set_option linter.unusedSimpArgs false
set_option linter.unusedVariables false
set_option maxRecDepth 100000
namespace Go.Proofs.Ytijkanilpblogae.MQ

theorem Cp.mul' {a b c : Int} (h : Cp a c) (k : Cp b c) : Cp (a * b) c := (h.symm.mul k.symm).symm

/-- All that has no divisor with a has none with v. -/
def Sm (v a : Int) : Prop := ∀ d : Int, Cp d a → Cp d v

/-- A number in two: one without a divisor with a, one whose primes are a's. -/
theorem split_by (a : Int) : ∀ N : Nat, ∀ M : Int, M = N → 1 ≤ M → ∃ u v : Int, M = u * v ∧ 1 ≤ u ∧ 1 ≤ v ∧ Cp u a ∧ Sm v a := by
  intro N
  induction N using Nat.strongRecOn with
  | ind N ih =>
    intro M hM h1
    by_cases hg : Int.gcd M a = 1
    · exact ⟨M, 1, by omega, h1, by omega, Cp.of_gcd hg, fun d _ => Cp.one d⟩
    · have h0 : Int.gcd M a ≠ 0 := fun h => by
        have := (Int.gcd_eq_zero_iff.1 h).1
        omega
      obtain ⟨q, hq⟩ := Int.gcd_dvd_left M a
      have hg2 : (2 : Int) ≤ (Int.gcd M a : Nat) := by omega
      have hq0 : 1 ≤ q := by
        rcases Int.lt_or_le q 1 with h | h
        · have := Int.mul_le_mul_of_nonneg_left (show q ≤ 0 by omega) (show (0 : Int) ≤ (Int.gcd M a : Nat) by omega)
          simp at this; omega
        · exact h
      have hql : q < M := by
        have := Int.mul_le_mul_of_nonneg_right hg2 (show 0 ≤ q by omega)
        omega
      obtain ⟨u, v, e, u1, v1, cu, sv⟩ := ih q.toNat (by omega) q (by omega) hq0
      refine ⟨u, v * (Int.gcd M a : Nat), ?_, u1, ?_, cu, fun d hd => (sv d hd).mul (hd.of_dvd (Int.gcd_dvd_right ..))⟩
      · rw [← Int.mul_assoc, ← e, Int.mul_comm]; exact hq
      · have := Int.mul_le_mul v1 hg2 (by omega) (by omega)
        omega

theorem cp_pos_one {d : Int} (h : Cp d d) (h0 : 1 ≤ d) : d = 1 := by
  obtain ⟨x, y, e⟩ := h
  have : d ∣ 1 := ⟨x + y, by rw [← e, ← Int.add_mul, Int.mul_comm]⟩
  have := Int.le_of_dvd (by omega) this
  omega

/-- There are x and y at which a form without a divisor has none with M. -/
theorem choice {g : Qf} (h : Pm g) {M : Int} (hM : 1 ≤ M) : ∃ x y : Int, 1 ≤ x ∧ 1 ≤ y ∧ x * y ≤ M ∧ Cp x y ∧ Cp (g.at x y) M := by
  obtain ⟨y, V, e1, y1, V1, cy, sV⟩ := split_by g.a M.toNat M (by omega) hM
  obtain ⟨x, z, e2, x1, z1, cx, sz⟩ := split_by g.c V.toNat V (by omega) V1
  subst e2
  -- y has nothing with V = x z
  have hyV : Cp y (x * z) := sV y cy
  have hyx : Cp y x := hyV.of_mul
  have hyz : Cp y z := by rw [Int.mul_comm] at hyV; exact hyV.of_mul
  have hxz : Cp x z := sz x cx
  have c1 : Cp y (g.at x y) := by
    have h2 : Cp y (x * x * g.a) := (hyx.mul hyx).mul cy
    have h3 := h2.add (x * g.b + y * g.c)
    rw [show g.at x y = x * x * g.a + y * (x * g.b + y * g.c) by simp only [Qf.at]; grind]
    exact h3
  have c2 : Cp x (g.at x y) := by
    have h2 : Cp x (y * y * g.c) := (hyx.symm.mul hyx.symm).mul cx
    have h3 := h2.add (x * g.a + y * g.b)
    rw [show g.at x y = y * y * g.c + x * (x * g.a + y * g.b) by simp only [Qf.at]; grind]
    exact h3
  have c3 : Cp z (g.at x y) := by
    refine Cp.of_gcd ?_
    obtain ⟨e, he⟩ : ∃ e : Nat, e = Int.gcd z (g.at x y) := ⟨_, rfl⟩
    rw [← he]
    have ez : (e : Int) ∣ z := by rw [he]; exact Int.gcd_dvd_left ..
    have eg : (e : Int) ∣ g.at x y := by rw [he]; exact Int.gcd_dvd_right ..
    have e0 : e ≠ 0 := fun h => by
      rw [h] at ez
      have := Int.zero_dvd.1 ez
      omega
    -- g1 = gcd e a
    obtain ⟨g1, hg1⟩ : ∃ g1 : Nat, g1 = Int.gcd e g.a := ⟨_, rfl⟩
    have g1e : (g1 : Int) ∣ e := by rw [hg1]; exact Int.gcd_dvd_left ..
    have g1a : (g1 : Int) ∣ g.a := by rw [hg1]; exact Int.gcd_dvd_right ..
    have g10 : g1 ≠ 0 := fun h => by
      rw [h] at g1e
      have := Int.zero_dvd.1 g1e
      omega
    obtain ⟨g2, hg2⟩ : ∃ g2 : Nat, g2 = Int.gcd g1 g.c := ⟨_, rfl⟩
    have g2g : (g2 : Int) ∣ g1 := by rw [hg2]; exact Int.gcd_dvd_left ..
    have g2c : (g2 : Int) ∣ g.c := by rw [hg2]; exact Int.gcd_dvd_right ..
    have g20 : g2 ≠ 0 := fun h => by
      rw [h] at g2g
      have := Int.zero_dvd.1 g2g
      omega
    have g2a := Int.dvd_trans g2g g1a
    have g2z := Int.dvd_trans g2g (Int.dvd_trans g1e ez)
    have g2f := Int.dvd_trans g2g (Int.dvd_trans g1e eg)
    -- g2 divides b x y, so b, so 1
    have hb : (g2 : Int) ∣ x * y * g.b := by
      have h3 : x * y * g.b = g.at x y - (x * x * g.a + y * y * g.c) := by simp only [Qf.at]; omega
      rw [h3]
      exact Int.dvd_sub g2f (Int.dvd_add (Int.dvd_trans g2a (Int.dvd_mul_left ..)) (Int.dvd_trans g2c (Int.dvd_mul_left ..)))
    have cxy : Cp g2 (x * y) := ((hxz.of_dvd g2z).mul' (hyz.of_dvd g2z)).symm
    have hb2 := cxy.dvd hb
    have g21 : g2 = 1 := by
      obtain ⟨p, q, r, e3⟩ := h
      have : (g2 : Int) ∣ 1 := by
        rw [← e3]
        exact Int.dvd_add (Int.dvd_add (Int.dvd_trans g2a (Int.dvd_mul_left ..)) (Int.dvd_trans hb2 (Int.dvd_mul_left ..))) (Int.dvd_trans g2c (Int.dvd_mul_left ..))
      have := Int.le_of_dvd (by omega) this
      omega
    have g11 : g1 = 1 := by
      have h4 : Cp g1 g.c := Cp.of_gcd (by omega)
      have := cp_pos_one ((sz _ h4).of_dvd (Int.dvd_trans g1e ez)) (by omega)
      omega
    have h5 : Cp e g.a := Cp.of_gcd (by omega)
    have h6 : Cp (e : Int) z := by
      have := sV _ h5
      rw [Int.mul_comm] at this
      exact this.of_mul
    have := cp_pos_one (h6.of_dvd ez) (by omega)
    omega
  refine ⟨x, y, x1, y1, ?_, hyx.symm, ?_⟩
  · rw [e1]
    have := Int.mul_le_mul_of_nonneg_left z1 (Int.mul_nonneg (show 0 ≤ x by omega) (show 0 ≤ y by omega))
    grind
  · rw [e1]
    exact c1.symm.mul (c2.symm.mul c3.symm)

end Go.Proofs.Ytijkanilpblogae.MQ
