/- What is in the reference's list of classes; which rests two forms have. Plain facts. -/
import Derived.Test.YtijkanilpblogaeQfF
import Derived.Test.YtijkanilpblogaeQfX
import Derived.Test.YtijkanilpblogaeQgA
set_option linter.unusedSimpArgs false
set_option linter.unusedVariables false
set_option maxRecDepth 100000
namespace Go.Proofs.Ytijkanilpblogae

/-- In the list are just the reduced forms of d without a fault. -/
theorem classesTo_is {d : Int} {n : Nat} {r : Qf} (hd : d < 0) (h : r ∈ classesTo d n) : r.redB = true ∧ ffault r = (0, 0) ∧ r.disc = d := by
  unfold classesTo rowTo at h
  simp only [List.mem_flatMap] at h
  obtain ⟨k, _, j, _, h⟩ := h
  unfold cls at h
  split at h
  · rename_i hb
    rw [List.mem_singleton] at h
    unfold clsB at hb
    simp only [Bool.and_eq_true, beq_iff_eq] at hb
    obtain ⟨h1, h2, h3⟩ := hb
    subst h
    refine ⟨h2, ?_, ?_⟩
    · generalize e : ffault (formOf d ((k : Int) + 1) ((j : Int) - ((k : Int) + 1))) = x at h3 ⊢
      obtain ⟨c, w⟩ := x
      rcases ffault_code e with ⟨e1, e2⟩ | e1
      · exact Prod.ext e1 e2
      · exact absurd h3 e1
    · generalize (j : Int) - ((k : Int) + 1) = b at *
      have h4 : (4 * ((k : Int) + 1)) ∣ b * b - d := Int.dvd_of_tmod_eq_zero h1
      obtain ⟨c, hc⟩ := h4
      have hq : (b * b - d).tdiv (4 * ((k : Int) + 1)) = c := by rw [hc, Int.mul_tdiv_cancel_left _ (by omega)]
      simp only [formOf, Qf.disc, hq]
      omega
  · cases h
theorem mem_classesTo {d : Int} {n : Nat} {r : Qf} (hn : -d < 3 * ((n : Int) + 1) * ((n : Int) + 1)) (hr : r.redB = true) (hf : ffault r = (0, 0)) (hd : r.disc = d) : r ∈ classesTo d n := by
  obtain ⟨_, ha, _, _⟩ := ffault_ok hf
  obtain ⟨b1, b2, b3⟩ := redB_parts hr
  have hdis := hd
  simp only [Qf.disc] at hdis
  have e1 : r.b * r.b ≤ r.a * r.a := by
    have := Int.mul_nonneg (show 0 ≤ r.a - r.b by omega) (show 0 ≤ r.a + r.b by omega)
    grind
  have e2 : r.a * r.a ≤ r.a * r.c := Int.mul_le_mul_of_nonneg_left b3 (by omega)
  have e3 : 4 * r.a * r.c = 4 * (r.a * r.c) := Int.mul_assoc ..
  have e4 : 3 * (r.a * r.a) ≤ -d := by omega
  have an : r.a ≤ n := by
    rcases Int.lt_or_le (n : Int) r.a with k | k
    · exfalso
      have := Int.mul_le_mul (show (n : Int) + 1 ≤ r.a by omega) (show (n : Int) + 1 ≤ r.a by omega) (by omega) (by omega)
      rw [Int.mul_assoc] at hn
      omega
    · exact k
  unfold classesTo rowTo
  simp only [List.mem_flatMap]
  refine ⟨(r.a - 1).toNat, List.mem_range.2 (by omega), (r.b + r.a).toNat, List.mem_range.2 (by omega), ?_⟩
  rw [show ((r.a - 1).toNat : Int) + 1 = r.a by omega, show ((r.b + r.a).toNat : Int) - r.a = r.b by omega]
  have e5 : r.b * r.b - d = 4 * r.a * r.c := by omega
  have ef : formOf d r.a r.b = r := by
    unfold formOf
    rw [e5, Int.mul_tdiv_cancel_left _ (show 4 * r.a ≠ 0 by omega)]
  unfold cls
  rw [if_pos, ef]
  · exact List.mem_singleton.2 rfl
  · unfold clsB
    rw [ef, hr, hf, e5, Int.mul_tmod_right]
    rfl

/-- Marks and rests. -/
theorem mk_vl {f : Qf} {D : Nat} {B : Nat → Bool} (hD : 1 ≤ D) (h : Mk f D D 0 B) {i : Nat} (hi : i < D) : B i = true ↔ MQ.Vl (D : Int) f (i : Int) := by
  rw [h i]
  constructor
  · rintro ⟨x, y, _, _, _, hv⟩
    refine ⟨x, y, ?_⟩
    have h0 := Int.emod_nonneg (f.at x y) (show (D : Int) ≠ 0 by omega)
    have h1 : f.at x y % (D : Int) = (i : Int) := by rw [← hv, vl, Int.toNat_of_nonneg h0]
    have h2 := Int.mul_ediv_add_emod (f.at x y) (D : Int)
    exact ⟨f.at x y / (D : Int), by omega⟩
  · rintro ⟨x, y, hv⟩
    have hx := Int.emod_nonneg x (show (D : Int) ≠ 0 by omega)
    have hx2 := Int.emod_lt_of_pos x (show (0 : Int) < D by omega)
    have hy := Int.emod_nonneg y (show (D : Int) ≠ 0 by omega)
    have hy2 := Int.emod_lt_of_pos y (show (0 : Int) < D by omega)
    refine ⟨(x % (D : Int)).toNat, (y % (D : Int)).toNat, by omega, by omega, by omega, ?_⟩
    unfold vl
    rw [Int.toNat_of_nonneg hx, Int.toNat_of_nonneg hy]
    have ex := Int.mul_ediv_add_emod x (D : Int)
    have ey := Int.mul_ediv_add_emod y (D : Int)
    obtain ⟨c, hc⟩ := hv
    have h1 : f.at (x % (D : Int)) (y % (D : Int)) % (D : Int) = (i : Int) := by
      have h2 : (i : Int) % (D : Int) = (i : Int) := Int.emod_eq_of_lt (by omega) (by omega)
      rw [← h2]
      apply Int.emod_eq_emod_iff_emod_sub_eq_zero.2
      apply Int.emod_eq_zero_of_dvd
      generalize x / (D : Int) = p at *
      generalize y / (D : Int) = q at *
      generalize x % (D : Int) = x0 at *
      generalize y % (D : Int) = y0 at *
      have h3 : f.at x y = i + D * c := by omega
      rw [← ex, ← ey] at h3
      refine ⟨c - (f.a * (p * (D * p + 2 * x0)) + f.b * (p * (D * q + y0) + x0 * q) + f.c * (q * (D * q + 2 * y0))), ?_⟩
      simp only [Qf.at] at h3 ⊢
      grind
    rw [h1]; simp

/-- Two lists of rests are the same just if the rests without a divisor are. -/
theorem gl_same {f o : Qf} {D : Nat} {B C : Nat → Bool} (hD : 1 ≤ D) (h : Mk f D D 0 B) (k : Mk o D D 0 C) : gl B D D = gl C D D ↔ ∀ v, MQ.Cp v (D : Int) → (MQ.Vl (D : Int) f v ↔ MQ.Vl (D : Int) o v) := by
  have mem : ∀ (B : Nat → Bool) (i : Nat), (i : Int) ∈ gl B D D ↔ i < D ∧ B i = true ∧ Nat.gcd i D = 1 := fun B i => by
    unfold gl
    simp only [List.mem_map, List.mem_filter, List.mem_range, Bool.and_eq_true, beq_iff_eq]
    constructor
    · rintro ⟨j, h1, h2⟩
      obtain rfl : j = i := by omega
      exact h1
    · intro h1
      exact ⟨i, h1, rfl⟩
  constructor
  · intro e v hv
    -- v's rest
    have hr := Int.emod_nonneg v (show (D : Int) ≠ 0 by omega)
    have hr2 := Int.emod_lt_of_pos v (show (0 : Int) < D by omega)
    obtain ⟨i, hi⟩ : ∃ i : Nat, (i : Int) = v % (D : Int) := ⟨(v % (D : Int)).toNat, by omega⟩
    have ev : MQ.Eqm (D : Int) (i : Int) v := by
      have h2 := Int.mul_ediv_add_emod v (D : Int)
      exact ⟨-(v / (D : Int)), by rw [Int.mul_neg]; omega⟩
    have hg : Nat.gcd i D = 1 := by
      obtain ⟨x, y, exy⟩ := hv
      obtain ⟨z, hz⟩ := ev
      have : MQ.Cp (i : Int) (D : Int) := ⟨x, y - x * z, by
        have : v = i - D * z := by omega
        rw [this] at exy; grind⟩
      simpa [Int.gcd] using this.gcd
    have hB := mem B i
    have hC := mem C i
    rw [e] at hB
    have hBC : B i = true ↔ C i = true := by
      have hiD : i < D := by omega
      constructor
      · intro hb; exact (hC.1 (hB.2 ⟨hiD, hb, hg⟩)).2.1
      · intro hc; exact (hB.1 (hC.2 ⟨hiD, hc, hg⟩)).2.1
    rw [mk_vl hD h (by omega), mk_vl hD k (by omega)] at hBC
    constructor
    · intro h1; exact (hBC.1 (h1.eqm ev.symm)).eqm ev
    · intro h1; exact (hBC.2 (h1.eqm ev.symm)).eqm ev
  · intro hv
    unfold gl
    congr 1
    apply List.filter_congr
    intro i hi
    rw [List.mem_range] at hi
    by_cases hg : Nat.gcd i D = 1
    · have h1 := hv i (MQ.Cp.of_gcd (by simpa [Int.gcd] using hg))
      rw [← mk_vl hD h hi, ← mk_vl hD k hi] at h1
      have : B i = C i := by
        cases hb : B i <;> cases hc : C i <;> simp [hb, hc] at h1 ⊢
      rw [this]
    · have : (Nat.gcd i D == 1) = false := beq_eq_false_iff_ne.2 hg
      rw [this, Bool.and_false, Bool.and_false]

end Go.Proofs.Ytijkanilpblogae
