/- The program: quad.compose. -/
import Derived.Test.YtijkanilpblogaeQcE
set_option linter.unusedSimpArgs false
set_option linter.unusedVariables false
set_option maxRecDepth 100000
namespace Go.Proofs.Ytijkanilpblogae
open Go.RowKit

/-- What compose answers. -/
structure Cmp (f g h : Qf) : Prop where
  up : h.upto 4000000000000
  a : 1 ≤ h.a
  disc : h.disc = f.disc
  co : ∀ s n : Int, (s = 0 ∨ s = 1) → f.disc = s * s + 4 * n → MQ.Co s n f g h ((f.b - s) / 2) ((g.b - s) / 2) ((h.b - s) / 2)

/-- Both Bs leave the same by 2. -/
theorem same_two {f g : Qf} (h : f.disc = g.disc) : ∃ H d2 : Int, f.b + g.b = 2 * H ∧ f.b - g.b = 2 * d2 := by
  obtain ⟨s, n, hs, e⟩ := MQ.disc_sn f
  have e2 : g.disc = s * s + 4 * n := by rw [← h]; exact e
  unfold Qf.disc at e e2
  have x1 : f.b % 2 = g.b % 2 := by
    have p : ∀ b : Int, b * b = 4 * ((b / 2) * (b / 2) + (b / 2) * (b % 2)) + (b % 2) * (b % 2) := fun b => by
      have := Int.emod_add_mul_ediv b 2
      generalize b / 2 = q at *
      generalize b % 2 = r at *
      subst this
      grind
    have p1 := p f.b
    have p2 := p g.b
    have r1 : f.b % 2 = 0 ∨ f.b % 2 = 1 := by omega
    have r2 : g.b % 2 = 0 ∨ g.b % 2 = 1 := by omega
    have m1 : 4 * f.a * f.c = 4 * (f.a * f.c) := Int.mul_assoc ..
    have m2 : 4 * g.a * g.c = 4 * (g.a * g.c) := Int.mul_assoc ..
    rcases r1 with r1 | r1 <;> rcases r2 with r2 | r2 <;> rw [r1] at p1 <;> rw [r2] at p2 <;> omega
  exact ⟨(f.b + g.b) / 2, (f.b - g.b) / 2, by omega, by omega⟩

/-- Bezout's numbers, as they are used. -/
structure Bz (f g : Qf) (H both x times e w more : Int) : Prop where
  b1 : 1 ≤ both ∧ both ≤ 1000000
  l1 : x * f.a + times * g.a = both
  t : -1000000 ≤ times ∧ times ≤ 1000000
  e1 : 1 ≤ e ∧ e ≤ 1000000
  l2 : w * H + more * both = e
  w1 : 0 ≤ w ∧ w ≤ 1000000
  m : -2000000 ≤ more ∧ more ≤ 2000000
  d1 : e ∣ H
  d2 : e ∣ f.a
  d3 : e ∣ g.a

theorem gcd_pos_right {a b : Int} (h : 1 ≤ b) : 1 ≤ (Int.gcd a b : Int) ∧ (Int.gcd a b : Int) ≤ b := by
  have h1 : (Int.gcd a b : Int) ∣ b := Int.gcd_dvd_right ..
  have h2 := Int.le_of_dvd (by omega) h1
  have h3 : Int.gcd a b ≠ 0 := fun h0 => by
    have := (Int.gcd_eq_zero_iff.1 h0).2
    omega
  omega
theorem bez_high {a b u v : Int} (hb : 1 ≤ b) (h : Bez a b u v) : 0 ≤ u ∧ u ≤ b := by
  have h1 := h.low (by omega)
  have h2 := h.high (by omega)
  have h3 : b.natAbs / Int.gcd a b ≤ b.natAbs := Nat.div_le_self _ _
  omega

theorem bz_of {f g : Qf} {H x times w more : Int} (fa : 1 ≤ f.a ∧ f.a ≤ 1000000) (ga : 1 ≤ g.a ∧ g.a ≤ 1000000) (hH : -1000000 ≤ H ∧ H ≤ 1000000) (h1 : Bez f.a g.a x times) (h2 : Bez H (Int.gcd f.a g.a) w more) :
    Bz f g H (Int.gcd f.a g.a) x times (Int.gcd H (Int.gcd f.a g.a)) w more := by
  have g1 := gcd_pos_right (a := f.a) ga.1
  have g2 := gcd_pos_right (a := H) (b := (Int.gcd f.a g.a : Int)) g1.1
  have x1 := bez_high ga.1 h1
  have x2 := bez_high g1.1 h2
  have d0 : (Int.gcd H (Int.gcd f.a g.a) : Int) ∣ (Int.gcd f.a g.a : Int) := Int.gcd_dvd_right ..
  refine ⟨⟨g1.1, by omega⟩, h1.lin, ?_, ⟨g2.1, by omega⟩, h2.lin, ⟨x2.1, by omega⟩, ?_, Int.gcd_dvd_left .., Int.dvd_trans d0 (Int.gcd_dvd_left ..), Int.dvd_trans d0 (Int.gcd_dvd_right ..)⟩
  · exact MQ.bez_bd fa ga g1.1 h1.lin x1.1 x1.2 g1.2
  · exact MQ.bez_bd2 hH ⟨g1.1, by omega⟩ g2.1 h2.lin x2.1 x2.2 g2.2

/-- .. and what is made of them. -/
theorem bz_cmp {f g : Qf} {H d2 both x times e w more A B L : Int} (hf : ffault f = (0, 0)) (hg : ffault g = (0, 0)) (hd : f.disc = g.disc) (hH : f.b + g.b = 2 * H) (h2 : f.b - g.b = 2 * d2) (z : Bz f g H both x times e w more)
    (hA : f.a = e * A) (hB : g.a = e * B) (hL : L = (times * more * d2 - w * g.c) % A) :
    ∃ c, (e * g.c + L * (g.b + B * L)).tdiv A = c ∧ Cmp f g ⟨A * B, g.b + 2 * B * L, c⟩ ∧ (1 ≤ A ∧ A ≤ 1000000) ∧ (1 ≤ B ∧ B ≤ 1000000) ∧ (0 ≤ L ∧ L < A) := by
  obtain ⟨uf, fa, fd, fg⟩ := ffault_ok hf
  obtain ⟨ug, ga, gd, gg⟩ := ffault_ok hg
  obtain ⟨S, hS⟩ := z.d1
  have p1 : 1 ≤ A := pos_of_mul z.e1.1 (by omega)
  have h0 : 0 ≤ L ∧ L < A := by rw [hL]; exact ⟨Int.emod_nonneg _ (by omega), Int.emod_lt_of_pos _ (by omega)⟩
  have hu : (x * more) * A + (times * more) * B + w * S = 1 := by
    have he : e ≠ 0 := by have := z.e1.1; omega
    refine Int.eq_of_mul_eq_mul_left he ?_
    have y1 := z.l1
    have y2 := z.l2
    rw [hA, hB] at y1
    rw [hS] at y2
    rw [← y1] at y2
    clear hL
    grind
  obtain ⟨c, hc, hdc, hco⟩ := MQ.comp_all (f := f) (g := g) fa ga hd.symm (MQ.Pm.of_gcd fg) z.e1.1 hA hB (by rw [hH, hS]) h2 hu hL
  obtain ⟨b1, b2, b3, b4, b5, b6, b7⟩ := MQ.comp_bd uf ug fa ga fd z.e1.1 hA hB h0.1 h0.2 hc hdc
  refine ⟨c, ?_, ⟨b1, b4, hdc, hco⟩, ⟨b2, b6⟩, ⟨b3, b7⟩, h0⟩
  rw [← hc, Int.mul_tdiv_cancel_left _ (by omega)]

end Go.Proofs.Ytijkanilpblogae
