/- The program: a curve's slope, add and opposite. -/
import Derived.Test.YtbeceimopamllaaDoorCuA
import Derived.BigQuiet
set_option linter.unusedSimpArgs false
set_option linter.unusedVariables false
set_option maxRecDepth 100000
namespace Go.Proofs.YtbeceimopamllaaDoor
open Go.RowKit EC

theorem gcd_pr {P : Nat} (hp : Pr P) {d : Int} (h : d % (P : Int) ≠ 0) : Int.gcd d (P : Int) = 1 := by
  have h1 : Int.gcd d (P : Int) ∣ P := by
    have := Int.gcd_dvd_right d (P : Int)
    exact Int.ofNat_dvd.1 this
  rcases hp.2 _ h1 with e | e
  · exact e
  · exfalso
    apply h
    have := Int.gcd_dvd_left d (P : Int)
    rw [e] at this
    exact Int.emod_eq_zero_of_dvd this

theorem inv_same {P : Nat} (hp : Pr P) {d u up : Int} (h : d % (P : Int) ≠ 0) (hu : (u * d) % (P : Int) = 1 % (P : Int)) : (up * u) % (P : Int) = (up * iv P d) % (P : Int) := by
  have h1 : (1 : Int) % (P : Int) = 1 := Int.emod_eq_of_lt (by omega) (by have := hp.1; omega)
  have e1 := iv_ok hp h
  have a1 : (up * u) % (P : Int) = (up * u * (d * iv P d)) % (P : Int) := by
    rw [Int.mul_emod (up * u) (d * iv P d), e1, Int.mul_one, Int.emod_emod_of_dvd _ (Int.dvd_refl _)]
  have a2 : (up * iv P d) % (P : Int) = (up * iv P d * (u * d)) % (P : Int) := by
    rw [Int.mul_emod (up * iv P d) (u * d), hu, h1, Int.mul_one, Int.emod_emod_of_dvd _ (Int.dvd_refl _)]
  rw [a1, a2]
  congr 1
  grind

/-- Two points of the curve with the same X that are not opposite are one. -/
theorem on_same {P : Nat} {a b : Int} (hc : Cv P a b) {q r : Pn} (hq : On P a b q) (hr : On P a b r) (fq : q.far = false) (fr : r.far = false) (hx : q.x = r.x) (ho : ¬ (q.x = r.x ∧ (q.y + r.y) % (P : Int) = 0)) : q = r := by
  haveI := hc.nz
  rcases hq with ⟨h, _⟩ | ⟨_, h1, h2, h3, h4, h5⟩
  · rw [fq] at h; cases h
  rcases hr with ⟨h, _⟩ | ⟨_, k1, k2, k3, k4, k5⟩
  · rw [fr] at h; cases h
  rw [← cF_z (P := P)] at h5 k5
  simp only [cF_sub, cF_add, cF_mul] at h5 k5
  rw [← hx] at k5
  have hy : (cF q.y : Fin P) = cF r.y := by
    apply same_y (fld_of hc.pr) (a := cF a) (b := cF b) (x := cF q.x)
    · grobner
    · grobner
    · intro e
      exact ho ⟨hx, cF_z.1 (by rw [cF_add]; exact e)⟩
  exact Pn.ext' hx (cF_id _ h3 h4 _ k3 k4 hy) (by rw [fq, fr])

theorem two_y {P : Nat} {a b : Int} (hc : Cv P a b) {y : Int} (ho : ¬ (y + y) % (P : Int) = 0) : (2 * y) % (P : Int) ≠ 0 := by
  intro e; apply ho; rw [← e]; congr 1; omega

theorem sub_x {P : Nat} {x1 x2 : Int} (h1 : 0 ≤ x1) (h2 : x1 < P) (k1 : 0 ≤ x2) (k2 : x2 < P) (hn : x1 ≠ x2) : (x2 - x1) % (P : Int) ≠ 0 := by
  intro e
  obtain ⟨t, ht⟩ := Int.dvd_of_emod_eq_zero e
  rcases Int.lt_trichotomy t 0 with c | c | c
  · have : (P : Int) * t ≤ (P : Int) * (-1) := Int.mul_le_mul_of_nonneg_left (by omega) (by omega)
    omega
  · subst c; omega
  · have : (P : Int) * 1 ≤ (P : Int) * t := Int.mul_le_mul_of_nonneg_left (by omega) (by omega)
    omega

set_option maxHeartbeats 2000000 in
theorem slope_same (P : Nat) (a b x y : Int) (w : World) (hc : Cv P a b) (x0 : 0 ≤ x) (x1 : x < P) (y0 : 0 ≤ y) (y1 : y < P) (hy : (2 * y) % (P : Int) ≠ 0) :
    Calls Tryd.prog 44 #[Gv P a b, Pv ⟨x, y, false⟩, Pv ⟨x, y, false⟩] w fun e w' => e = .returned (.int .i64 (((3 * x * x + a) * iv P (2 * y)) % (P : Int))) ∧ Below w.heap.size w w' := by
  have hp := hc.p2
  have hp5 := hc.p5
  have ha0 := hc.a0
  have ha1 := hc.a1
  have HI : Hid (∀ w, Calls Tryd.prog 66 #[.int .i64 (2 * y), .int .i64 P] w fun e w' => ∃ u : Int, e = .returned (.tuple #[.int .i64 u, .agg #[.int .i64 0, .int .i64 0]]) ∧ 0 ≤ u ∧ u < P ∧ (u * (2 * y)) % (P : Int) = 1 % (P : Int) ∧ Below w.heap.size w w') :=
    fun w => Inverse_ok _ _ w (by unfold okB numB; simp; omega) (by omega) (gcd_pr hc.pr hy)
  have HS : Hid (∀ u, (u * (2 * y)) % (P : Int) = 1 % (P : Int) → ((3 * x * x + a) * u) % (P : Int) = ((3 * x * x + a) * iv P (2 * y)) % (P : Int)) := fun u hu => inv_same hc.pr hy hu
  have e0 : 3 * x * x = 3 * (x * x) := by rw [Int.mul_assoc]
  have e1 := pos_bd x0 (show x ≤ 2000 by omega) x0 (show x ≤ 2000 by omega)
  obtain ⟨X3, hX3⟩ : ∃ t, 3 * x * x = t := ⟨_, rfl⟩
  have e2 : 0 ≤ X3 ∧ X3 ≤ 12000000 := by rw [← hX3, e0]; omega
  rw [hX3] at HS ⊢
  obtain ⟨D, hD⟩ : ∃ D, 2 * y = D := ⟨_, rfl⟩
  have e3 : 0 ≤ D ∧ D ≤ 4000 := by omega
  rw [hD] at HS HI ⊢
  obtain ⟨K, hK⟩ : ∃ K, ((X3 + a) * iv P D) % (P : Int) = K := ⟨_, rfl⟩
  rw [hK] at HS ⊢
  have hP0 : ((P : Int) == 0) = false := beq_eq_false_iff_ne.2 (by omega)
  clear hc e0 e1 hK hy
  unfold Gv Pv
  go_enter Tryd.func44, Tryd.ntmps44
  go_wp2_with fail
  go_quiet (fail)
  go_wp2_with fail
  go_quiet (fail)
  go_wp2_with fail
  generalize hW1 : World.drewN _ _ = W1
  have C0 : Cl w.heap.size (Gl P a b) 52 W1 := by rw [← hW1]; exact (((Cl.new (Gl P a b) _ w).alloc _).alloc _).drewN
  have HK0 : Hid (Below w.heap.size w W1) := by show Below _ _ _; rw [← hW1]; exact below_drewN' (((ala _ _).trans ((ala _ _).mono (ala _ _).size)).trans ((ala _ _).mono (by simp; omega)))
  clear hW1
  refine (HI.out _).mono ?_
  rintro e w1 ⟨u, rfl, u0, u1, hu, k1⟩
  have hU := HS.out u hu
  have C1 := (C0.below k1).alloc (.cells #[.int .i64 0, .int .i64 0] 23)
  have g0 : (w1.alloc (.cells #[.int .i64 0, .int .i64 0] 23)).cell? ⟨w.heap.size, 0, none⟩ = some (.int .i64 P) := C1.cell 0
  have HK1 : Hid (Below w.heap.size w (w1.alloc (.cells #[.int .i64 0, .int .i64 0] 23))) := (HK0.out.trans (k1.mono HK0.out.size)).alloc (by have := k1.size; have := HK0.out.size; omega) _
  obtain ⟨M, hM⟩ : ∃ M, (X3 + a) * u = M := ⟨_, rfl⟩
  rw [hM] at hU
  have eM : -100000000000 ≤ M ∧ M ≤ 100000000000 := by
    have := abs_bd (M := 12002000) (N := 2000) (show -12002000 ≤ (X3 + a) by omega) (by omega) (show -2000 ≤ u by omega) (by omega)
    rw [hM] at this
    omega
  have HL : Hid (∀ w, Calls Tryd.prog 45 #[.int .i64 M, .int .i64 P] w fun e w' => e = .returned (.int .i64 K) ∧ w' = w) := by
    intro w
    have := left_any M P w (by omega) (by omega) (by omega)
    rw [hU] at this
    exact this
  clear C0 C1 HK0 k1 hu hU HI HS
  go_wp2_with fail
  refine (HL.out _).mono ?_
  rintro e w2 ⟨rfl, hw2⟩
  rw [hw2]
  clear hw2
  go_wp2
  go_ret
  exact ⟨rfl, HK1.out⟩

set_option maxHeartbeats 2000000 in
theorem slope_other (P : Nat) (a b x y x' y' : Int) (w : World) (hc : Cv P a b) (x0 : 0 ≤ x) (x1 : x < P) (y0 : 0 ≤ y) (y1 : y < P) (x0' : 0 ≤ x') (x1' : x' < P) (y0' : 0 ≤ y') (y1' : y' < P) (hx : x ≠ x') :
    Calls Tryd.prog 44 #[Gv P a b, Pv ⟨x, y, false⟩, Pv ⟨x', y', false⟩] w fun e w' => e = .returned (.int .i64 (((y' - y) * iv P (x' - x)) % (P : Int))) ∧ Below w.heap.size w w' := by
  have hp := hc.p2
  have hp5 := hc.p5
  have hd := sub_x x0 x1 x0' x1' hx
  have HI : Hid (∀ w, Calls Tryd.prog 66 #[.int .i64 (x' - x), .int .i64 P] w fun e w' => ∃ u : Int, e = .returned (.tuple #[.int .i64 u, .agg #[.int .i64 0, .int .i64 0]]) ∧ 0 ≤ u ∧ u < P ∧ (u * (x' - x)) % (P : Int) = 1 % (P : Int) ∧ Below w.heap.size w w') :=
    fun w => Inverse_ok _ _ w (by unfold okB numB; simp; omega) (by omega) (gcd_pr hc.pr hd)
  have HS : Hid (∀ u, (u * (x' - x)) % (P : Int) = 1 % (P : Int) → ((y' - y) * u) % (P : Int) = ((y' - y) * iv P (x' - x)) % (P : Int)) := fun u hu => inv_same hc.pr hd hu
  obtain ⟨X3, hX3⟩ : ∃ t, y' - y = t := ⟨_, rfl⟩
  have e2 : -2000 ≤ X3 ∧ X3 ≤ 2000 := by omega
  rw [hX3] at HS ⊢
  obtain ⟨D, hD⟩ : ∃ D, x' - x = D := ⟨_, rfl⟩
  have e3 : -2000 ≤ D ∧ D ≤ 2000 := by omega
  rw [hD] at HS HI ⊢
  obtain ⟨K, hK⟩ : ∃ K, (X3 * iv P D) % (P : Int) = K := ⟨_, rfl⟩
  rw [hK] at HS ⊢
  have hP0 : ((P : Int) == 0) = false := beq_eq_false_iff_ne.2 (by omega)
  have t1 : (x == x') = false := beq_eq_false_iff_ne.2 hx
  clear hc hK hd hx
  unfold Gv Pv
  go_enter Tryd.func44, Tryd.ntmps44
  go_wp2_with fail
  go_quiet (fail)
  go_wp2_with fail
  generalize hW1 : World.drewN _ _ = W1
  have C0 : Cl w.heap.size (Gl P a b) 52 W1 := by rw [← hW1]; exact (((Cl.new (Gl P a b) _ w).alloc _).alloc _).drewN
  have HK0 : Hid (Below w.heap.size w W1) := by show Below _ _ _; rw [← hW1]; exact below_drewN' (((ala _ _).trans ((ala _ _).mono (ala _ _).size)).trans ((ala _ _).mono (by simp; omega)))
  clear hW1
  refine (HI.out _).mono ?_
  rintro e w1 ⟨u, rfl, u0, u1, hu, k1⟩
  have hU := HS.out u hu
  have C1 := (C0.below k1).alloc (.cells #[.int .i64 0, .int .i64 0] 23)
  have g0 : (w1.alloc (.cells #[.int .i64 0, .int .i64 0] 23)).cell? ⟨w.heap.size, 0, none⟩ = some (.int .i64 P) := C1.cell 0
  have HK1 : Hid (Below w.heap.size w (w1.alloc (.cells #[.int .i64 0, .int .i64 0] 23))) := (HK0.out.trans (k1.mono HK0.out.size)).alloc (by have := k1.size; have := HK0.out.size; omega) _
  obtain ⟨M, hM⟩ : ∃ M, X3 * u = M := ⟨_, rfl⟩
  rw [hM] at hU
  have eM : -100000000000 ≤ M ∧ M ≤ 100000000000 := by
    have := abs_bd (M := 12002000) (N := 2000) (show -12002000 ≤ X3 by omega) (by omega) (show -2000 ≤ u by omega) (by omega)
    rw [hM] at this
    omega
  have HL : Hid (∀ w, Calls Tryd.prog 45 #[.int .i64 M, .int .i64 P] w fun e w' => e = .returned (.int .i64 K) ∧ w' = w) := by
    intro w
    have := left_any M P w (by omega) (by omega) (by omega)
    rw [hU] at this
    exact this
  clear C0 C1 HK0 k1 hu hU HI HS
  go_wp2_with fail
  refine (HL.out _).mono ?_
  rintro e w2 ⟨rfl, hw2⟩
  rw [hw2]
  clear hw2
  go_wp2
  go_ret
  exact ⟨rfl, HK1.out⟩

end Go.Proofs.YtbeceimopamllaaDoor
