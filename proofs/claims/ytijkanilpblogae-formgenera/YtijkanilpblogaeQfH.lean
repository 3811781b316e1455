/- There is just one reduced form that a form is like. -/
import Derived.Test.YtijkanilpblogaeQfE
set_option linter.unusedSimpArgs false
set_option linter.unusedVariables false
set_option maxRecDepth 100000
namespace Go.Proofs.Ytijkanilpblogae

/-- Of two reduced forms that f is like, the one is like the other. -/
theorem Rd.between {f g g' : Qf} {m m' : Mt} (h : Rd f g m) (h' : Rd f g' m') : ∃ n, Rd g g' n := by
  refine ⟨⟨m.s * m'.p - m.q * m'.r, m.s * m'.q - m.q * m'.s, m.p * m'.r - m.r * m'.p, m.p * m'.s - m.r * m'.q⟩, h'.red, ?_, ?_⟩
  · have h1 := h.det
    have h2 := h'.det
    show (m.s * m'.p - m.q * m'.r) * (m.p * m'.s - m.r * m'.q) - (m.s * m'.q - m.q * m'.s) * (m.p * m'.r - m.r * m'.p) = 1
    have e : (m.s * m'.p - m.q * m'.r) * (m.p * m'.s - m.r * m'.q) - (m.s * m'.q - m.q * m'.s) * (m.p * m'.r - m.r * m'.p) = (m.p * m.s - m.q * m.r) * (m'.p * m'.s - m'.q * m'.r) := by grind
    rw [e, h1, h2]; rfl
  · intro x y
    rw [← h'.like x y, h.back]
    show g.at ((m.s * m'.p - m.q * m'.r) * x + (m.s * m'.q - m.q * m'.s) * y) ((m.p * m'.r - m.r * m'.p) * x + (m.p * m'.s - m.r * m'.q) * y) = _
    congr 1 <;> grind

theorem red_a {g : Qf} (h : g.redB = true) (x y : Int) (h0 : x ≠ 0 ∨ y ≠ 0) : g.a ≤ g.at x y := by
  obtain ⟨h1, h2, h3⟩ := redB_parts h
  by_cases hy : y = 0
  · subst hy
    have hx : x ≠ 0 := by omega
    have := (three_pos 0 x hx).2.2
    have ha : 0 ≤ g.a := by omega
    have := Int.mul_le_mul_of_nonneg_right this ha
    simp [Qf.at]; omega
  · have := red_least h x y hy
    omega

/-- One step of it: where the first is reduced, too. -/
theorem Rd.le {g g' : Qf} {n : Mt} (h : Rd g g' n) (hg : g.redB = true) : g.a ≤ g'.a ∧ g.c ≤ g'.c ∨ (g.a ≤ g'.a ∧ g.c ≤ g'.a ∧ g.a ≤ g'.c) := by
  have h1 := h.det
  have ha : g.a ≤ g'.a := by
    rw [h.ga]
    refine red_a hg _ _ ?_
    by_cases hp : n.p = 0
    · right; intro hr; rw [hp, hr] at h1; simp at h1
    · exact .inl hp
  by_cases hs : n.s = 0
  · right
    have hr : n.r ≠ 0 := by intro hr; rw [hs, hr] at h1; simp at h1
    have hq : n.q ≠ 0 := by intro hq; rw [hs, hq] at h1; simp at h1
    refine ⟨ha, ?_, ?_⟩
    · rw [h.ga]; exact red_least hg _ _ hr
    · rw [h.gc]; exact red_a hg _ _ (.inl hq)
  · left
    exact ⟨ha, by rw [h.gc]; exact red_least hg _ _ hs⟩

/-- There is just one reduced form that a form is like. -/
theorem red_one {f g g' : Qf} {m m' : Mt} (h : Rd f g m) (h' : Rd f g' m') (hf : f.disc < 0) : g = g' := by
  obtain ⟨n, hn⟩ := h.between h'
  obtain ⟨n', hn'⟩ := h'.between h
  have l1 := hn.le h.red
  have l2 := hn'.le h'.red
  obtain ⟨r1, r2, r3⟩ := redB_parts h.red
  obtain ⟨s1, s2, s3⟩ := redB_parts h'.red
  have ea : g.a = g'.a := by omega
  have ec : g.c = g'.c := by omega
  have ed : g.disc = g'.disc := by rw [h.disc, h'.disc]
  have eb : g.b * g.b = g'.b * g'.b := by
    unfold Qf.disc at ed; rw [ea, ec] at ed; omega
  have hd : g.disc < 0 := by rw [h.disc]; exact hf
  have hb : g.b = g'.b ∨ g.b = -g'.b := by
    have e : (g.b - g'.b) * (g.b + g'.b) = 0 := by grind
    rcases Int.mul_eq_zero.1 e with h | h
    · exact .inl (by omega)
    · exact .inr (by omega)
  have fin : g.b = g'.b → g = g' := fun hb => by cases g; cases g'; simp_all
  rcases hb with hb | hb
  · exact fin hb
  · -- opposite Bs
    by_cases h0 : g'.b = 0
    · exact fin (by omega)
    · exfalso
      have q1 := h.red
      have q2 := h'.red
      unfold Qf.redB at q1 q2
      simp at q1 q2
      have st : g.b.natAbs < g.a.natAbs ∧ g.a < g.c := by omega
      have ga := hn.ga
      have hr : n.r = 0 := by
        rcases Decidable.em (n.r = 0) with hh | hh
        · exact hh
        · have := red_least h.red n.p n.r hh; omega
      have hps : n.p * n.s = 1 := by have := hn.det; rw [hr] at this; simp at this; omega
      have hss : n.s * n.s = 1 := by
        have h1 : n.s ∣ 1 := ⟨n.p, by rw [Int.mul_comm]; exact hps.symm⟩
        have h2 := Int.natAbs_dvd_natAbs.2 h1
        have h3 : n.s.natAbs = 1 := by simpa using h2
        have h4 : n.s = 1 ∨ n.s = -1 := by omega
        rcases h4 with h4 | h4 <;> rw [h4] <;> rfl
      have gc := hn.gc
      have e1 : n.q * (n.q * g.a + n.s * g.b) = 0 := by
        simp only [Qf.at] at gc
        rw [hss] at gc
        have : n.q * (n.q * g.a + n.s * g.b) = n.q * n.q * g.a + n.q * n.s * g.b := by grind
        omega
      have hq : n.q = 0 := by
        rcases Int.mul_eq_zero.1 e1 with hh | hh
        · exact hh
        · rcases Decidable.em (n.q = 0) with h5 | h5
          · exact h5
          · exfalso
            have h6 : (n.q * g.a).natAbs = (n.s * g.b).natAbs := by omega
            rw [Int.natAbs_mul, Int.natAbs_mul] at h6
            have h7 : n.s.natAbs = 1 := by
              have : n.s.natAbs * n.s.natAbs = 1 := by rw [← Int.natAbs_mul, hss]; rfl
              rcases Nat.lt_or_ge n.s.natAbs 2 with h8 | h8
              · have : n.s.natAbs = 0 ∨ n.s.natAbs = 1 := by omega
                rcases this with h9 | h9
                · rw [h9] at this; simp at this
                · exact h9
              · have := Nat.mul_le_mul h8 h8; omega
            rw [h7, Nat.one_mul] at h6
            have h8 : 1 * g.a.natAbs ≤ n.q.natAbs * g.a.natAbs := Nat.mul_le_mul_right _ (by omega)
            omega
      have gb := hn.gb
      rw [hq, hr] at gb
      simp at gb
      rw [hps] at gb
      omega

end Go.Proofs.Ytijkanilpblogae
