/- The reference: CurveFault, OnCurve, over, Added, CurveOrder. -/
import Derived.Test.YtbeceimopamllaaDoorCuI
import Derived.Test.YtbeceimopamllaaDoorJnK
set_option linter.unusedSimpArgs false
set_option linter.unusedVariables false
set_option maxRecDepth 100000
namespace Go.Proofs.YtbeceimopamllaaDoor
open Go.RowKit EC

set_option maxHeartbeats 2000000 in
theorem refCurveFault_any (p a b c d : Int) (w : World) (h : Cf p a b c d) :
    Calls Tryd.prog 9 #[.int .i64 p, .int .i64 a, .int .i64 b] w fun e w' => e = .returned (.agg #[.int .i64 c, .int .i64 d]) ∧ Below w.heap.size w w' := by
  rcases h with ⟨h1, rfl, rfl⟩ | ⟨P, rfl, h5, h6, h⟩
  · by_cases h2 : p < 5
    · have t1 : decide (p < 5) = true := decide_eq_true h2
      clear h1
      go_enter Tryd.func9, Tryd.ntmps9
      go_wp2_with fail
      refine (F_any 3 0 _).mono ?_
      rintro e w1 ⟨rfl, k1⟩
      have S1 := (Sv.new 0 0 w).below k1
      have K1 : Below w.heap.size w w1 := (ala w _).trans (k1.mono (by simp))
      have q0 := S1.c0
      have q1 := S1.c1
      have q2 := S1.f0
      have q3 := S1.f1
      have z0 := (S1.set 3 0).c0
      have z1 := (S1.set 3 0).c1
      have HK1 : Hid (Below w.heap.size w w1) := K1
      clear S1 K1 k1
      go_wp2
      exact bodyPost_ret (v := .agg #[.int .i64 3, .int .i64 0]) (by simp [results, Tryd.results9, go_sem, z0, z1]) rfl ⟨rfl, (HK1.out.setCell (by simp) _).setCell (by simp) _⟩
    · have t1 : decide (p < 5) = false := decide_eq_false h2
      have t2 : decide (2000 < p) = true := decide_eq_true (by omega)
      clear h1
      go_enter Tryd.func9, Tryd.ntmps9
      go_wp2_with fail
      refine (F_any 3 0 _).mono ?_
      rintro e w1 ⟨rfl, k1⟩
      have S1 := (Sv.new 0 0 w).below k1
      have K1 : Below w.heap.size w w1 := (ala w _).trans (k1.mono (by simp))
      have q0 := S1.c0
      have q1 := S1.c1
      have q2 := S1.f0
      have q3 := S1.f1
      have z0 := (S1.set 3 0).c0
      have z1 := (S1.set 3 0).c1
      have HK1 : Hid (Below w.heap.size w w1) := K1
      clear S1 K1 k1
      go_wp2
      exact bodyPost_ret (v := .agg #[.int .i64 3, .int .i64 0]) (by simp [results, Tryd.results9, go_sem, z0, z1]) rfl ⟨rfl, (HK1.out.setCell (by simp) _).setCell (by simp) _⟩
  · obtain ⟨bb, hbb⟩ : ∃ bb : Bool, bb = true ↔ Pr P := by
      by_cases e : Pr P
      · exact ⟨true, by simp [e]⟩
      · exact ⟨false, by simp [e]⟩
    have HI : Hid (∀ w, Calls Tryd.prog 27 #[.int .i64 P] w fun e w' => e = .returned (.bool bb) ∧ w' = w) := fun w => refIsPrime_small P bb w (by omega) (by omega) hbb
    have t1 : decide ((P : Int) < 5) = false := decide_eq_false (by omega)
    have t2 : decide (2000 < (P : Int)) = false := decide_eq_false (by omega)
    go_enter Tryd.func9, Tryd.ntmps9
    go_wp2_with fail
    refine (HI.out _).mono ?_
    rintro e w1 ⟨rfl, hw1⟩
    rw [hw1]
    clear hw1 w1 HI
    rcases h with ⟨hp, rfl, rfl⟩ | ⟨hp, h⟩
    · obtain rfl : bb = false := by
        cases bb
        · rfl
        · exact absurd (hbb.1 rfl) hp
      clear hbb hp
      go_wp2_with fail
      refine (F_any 7 0 _).mono ?_
      rintro e w1 ⟨rfl, k1⟩
      have S1 := (Sv.new 0 0 w).below k1
      have K1 : Below w.heap.size w w1 := (ala w _).trans (k1.mono (by simp))
      have q0 := S1.c0
      have q1 := S1.c1
      have q2 := S1.f0
      have q3 := S1.f1
      have z0 := (S1.set 7 0).c0
      have z1 := (S1.set 7 0).c1
      have HK1 : Hid (Below w.heap.size w w1) := K1
      clear S1 K1 k1
      go_wp2
      exact bodyPost_ret (v := .agg #[.int .i64 7, .int .i64 0]) (by simp [results, Tryd.results9, go_sem, z0, z1]) rfl ⟨rfl, (HK1.out.setCell (by simp) _).setCell (by simp) _⟩
    obtain rfl : bb = true := hbb.2 hp
    clear hbb hp
    rcases h with ⟨h, rfl, rfl⟩ | ⟨a0, a1, h⟩
    · by_cases ha : a < 0
      · have t3 : decide (a < 0) = true := decide_eq_true ha
        clear h ha
        go_wp2_with fail
        refine (F_any 3 1 _).mono ?_
        rintro e w1 ⟨rfl, k1⟩
        have S1 := (Sv.new 0 0 w).below k1
        have K1 : Below w.heap.size w w1 := (ala w _).trans (k1.mono (by simp))
        have q0 := S1.c0
        have q1 := S1.c1
        have q2 := S1.f0
        have q3 := S1.f1
        have z0 := (S1.set 3 1).c0
        have z1 := (S1.set 3 1).c1
        have HK1 : Hid (Below w.heap.size w w1) := K1
        clear S1 K1 k1
        go_wp2
        exact bodyPost_ret (v := .agg #[.int .i64 3, .int .i64 1]) (by simp [results, Tryd.results9, go_sem, z0, z1]) rfl ⟨rfl, (HK1.out.setCell (by simp) _).setCell (by simp) _⟩
      · have t3 : decide (a < 0) = false := decide_eq_false ha
        have t4 : decide ((P : Int) ≤ a) = true := decide_eq_true (by omega)
        clear h ha
        go_wp2_with fail
        refine (F_any 3 1 _).mono ?_
        rintro e w1 ⟨rfl, k1⟩
        have S1 := (Sv.new 0 0 w).below k1
        have K1 : Below w.heap.size w w1 := (ala w _).trans (k1.mono (by simp))
        have q0 := S1.c0
        have q1 := S1.c1
        have q2 := S1.f0
        have q3 := S1.f1
        have z0 := (S1.set 3 1).c0
        have z1 := (S1.set 3 1).c1
        have HK1 : Hid (Below w.heap.size w w1) := K1
        clear S1 K1 k1
        go_wp2
        exact bodyPost_ret (v := .agg #[.int .i64 3, .int .i64 1]) (by simp [results, Tryd.results9, go_sem, z0, z1]) rfl ⟨rfl, (HK1.out.setCell (by simp) _).setCell (by simp) _⟩
    have t3 : decide (a < 0) = false := decide_eq_false (by omega)
    have t4 : decide ((P : Int) ≤ a) = false := decide_eq_false (by omega)
    rcases h with ⟨h, rfl, rfl⟩ | ⟨b0, b1, h⟩
    · by_cases hb : b < 0
      · have t5 : decide (b < 0) = true := decide_eq_true hb
        clear h hb
        go_wp2_with fail
        refine (F_any 3 2 _).mono ?_
        rintro e w1 ⟨rfl, k1⟩
        have S1 := (Sv.new 0 0 w).below k1
        have K1 : Below w.heap.size w w1 := (ala w _).trans (k1.mono (by simp))
        have q0 := S1.c0
        have q1 := S1.c1
        have q2 := S1.f0
        have q3 := S1.f1
        have z0 := (S1.set 3 2).c0
        have z1 := (S1.set 3 2).c1
        have HK1 : Hid (Below w.heap.size w w1) := K1
        clear S1 K1 k1
        go_wp2
        exact bodyPost_ret (v := .agg #[.int .i64 3, .int .i64 2]) (by simp [results, Tryd.results9, go_sem, z0, z1]) rfl ⟨rfl, (HK1.out.setCell (by simp) _).setCell (by simp) _⟩
      · have t5 : decide (b < 0) = false := decide_eq_false hb
        have t6 : decide ((P : Int) ≤ b) = true := decide_eq_true (by omega)
        clear h hb
        go_wp2_with fail
        refine (F_any 3 2 _).mono ?_
        rintro e w1 ⟨rfl, k1⟩
        have S1 := (Sv.new 0 0 w).below k1
        have K1 : Below w.heap.size w w1 := (ala w _).trans (k1.mono (by simp))
        have q0 := S1.c0
        have q1 := S1.c1
        have q2 := S1.f0
        have q3 := S1.f1
        have z0 := (S1.set 3 2).c0
        have z1 := (S1.set 3 2).c1
        have HK1 : Hid (Below w.heap.size w w1) := K1
        clear S1 K1 k1
        go_wp2
        exact bodyPost_ret (v := .agg #[.int .i64 3, .int .i64 2]) (by simp [results, Tryd.results9, go_sem, z0, z1]) rfl ⟨rfl, (HK1.out.setCell (by simp) _).setCell (by simp) _⟩
    have t5 : decide (b < 0) = false := decide_eq_false (by omega)
    have t6 : decide ((P : Int) ≤ b) = false := decide_eq_false (by omega)
    obtain ⟨p1, hp1⟩ : ∃ t, 4 * a * a = t := ⟨_, rfl⟩
    have q1 := pos_bd (x := 4 * a) (y := a) (M := 8000) (N := 2000) (by omega) (by omega) a0 (by omega)
    rw [hp1] at q1 h
    obtain ⟨p2, hp2⟩ : ∃ t, p1 * a = t := ⟨_, rfl⟩
    have q2 := pos_bd (x := p1) (y := a) (N := 2000) q1.1 q1.2 a0 (by omega)
    rw [hp2] at q2 h
    obtain ⟨p3, hp3⟩ : ∃ t, 27 * b * b = t := ⟨_, rfl⟩
    have q3 := pos_bd (x := 27 * b) (y := b) (M := 54000) (N := 2000) (by omega) (by omega) b0 (by omega)
    rw [hp3] at q3 h
    have hP0 : ((P : Int) == 0) = false := beq_eq_false_iff_ne.2 (by omega)
    rcases h with ⟨h, rfl, rfl⟩ | ⟨h, rfl, rfl⟩
    · have t7 : ((p2 + p3) % (P : Int) == 0) = true := beq_iff_eq.2 h
      clear h
      go_wp2_with fail
      refine (F_any 6 0 _).mono ?_
      rintro e w1 ⟨rfl, k1⟩
      have S1 := (Sv.new 0 0 w).below k1
      have K1 : Below w.heap.size w w1 := (ala w _).trans (k1.mono (by simp))
      have q0 := S1.c0
      have q1 := S1.c1
      have q2 := S1.f0
      have q3 := S1.f1
      have z0 := (S1.set 6 0).c0
      have z1 := (S1.set 6 0).c1
      have HK1 : Hid (Below w.heap.size w w1) := K1
      clear S1 K1 k1
      go_wp2
      exact bodyPost_ret (v := .agg #[.int .i64 6, .int .i64 0]) (by simp [results, Tryd.results9, go_sem, z0, z1]) rfl ⟨rfl, (HK1.out.setCell (by simp) _).setCell (by simp) _⟩
    · have t7 : ((p2 + p3) % (P : Int) == 0) = false := beq_eq_false_iff_ne.2 h
      clear h
      go_wp2
      exact bodyPost_ret (v := .agg #[.int .i64 0, .int .i64 0]) (by simp [results, Tryd.results9, go_sem]) rfl ⟨rfl, ala _ _⟩

set_option maxHeartbeats 2000000 in
theorem refOnCurve_any (P : Nat) (a b : Int) (q : Pn) (w : World) (hc : Cv P a b) :
    Calls Tryd.prog 11 #[.int .i64 P, .int .i64 a, .int .i64 b, Pv q] w fun e w' => e = .returned (.bool (hasB P a b q)) ∧ Below w.heap.size w w' := by
  have hp := hc.p2
  have hp5 := hc.p5
  have ha0 := hc.a0
  have ha1 := hc.a1
  have hb0 := hc.b0
  have hb1 := hc.b1
  clear hc
  obtain ⟨x, y, f⟩ := q
  cases hf : f
  case true =>
    by_cases hx : x = 0
    · by_cases hy : y = 0
      · have t1 : (x == 0) = true := beq_iff_eq.2 hx
        have t2 : (y == 0) = true := beq_iff_eq.2 hy
        have HB : hasB P a b ⟨x, y, true⟩ = true := by simp [hasB, hx, hy]
        rw [HB]
        clear HB hx hy
        unfold Pv
        simp only [hf]
        go_enter Tryd.func11, Tryd.ntmps11
        go_wp2
        go_ret
        exact ⟨rfl, ala _ _⟩
      · have t1 : (x == 0) = true := beq_iff_eq.2 hx
        have t2 : (y == 0) = false := beq_eq_false_iff_ne.2 hy
        have HB : hasB P a b ⟨x, y, true⟩ = false := by simp [hasB, hx, hy]
        rw [HB]
        clear HB hx hy
        unfold Pv
        simp only [hf]
        go_enter Tryd.func11, Tryd.ntmps11
        go_wp2
        go_ret
        exact ⟨rfl, ala _ _⟩
    · have t1 : (x == 0) = false := beq_eq_false_iff_ne.2 hx
      have HB : hasB P a b ⟨x, y, true⟩ = false := by simp [hasB, hx]
      rw [HB]
      clear HB hx
      unfold Pv
      simp only [hf]
      go_enter Tryd.func11, Tryd.ntmps11
      go_wp2
      go_ret
      exact ⟨rfl, ala _ _⟩
  case false =>
    by_cases hx : x < 0
    · have t1 : decide (x < 0) = true := decide_eq_true hx
      have HB : hasB P a b ⟨x, y, false⟩ = false := by simp [hasB]; intros; omega
      rw [HB]
      clear HB hx
      unfold Pv
      simp only [hf]
      go_enter Tryd.func11, Tryd.ntmps11
      go_wp2
      go_ret
      exact ⟨rfl, ala _ _⟩
    have t1 : decide (x < 0) = false := decide_eq_false hx
    by_cases hx2 : (P : Int) ≤ x
    · have t2 : decide ((P : Int) ≤ x) = true := decide_eq_true hx2
      have HB : hasB P a b ⟨x, y, false⟩ = false := by simp [hasB]; intros; omega
      rw [HB]
      clear HB hx hx2
      unfold Pv
      simp only [hf]
      go_enter Tryd.func11, Tryd.ntmps11
      go_wp2
      go_ret
      exact ⟨rfl, ala _ _⟩
    have t2 : decide ((P : Int) ≤ x) = false := decide_eq_false hx2
    by_cases hy : y < 0
    · have t3 : decide (y < 0) = true := decide_eq_true hy
      have HB : hasB P a b ⟨x, y, false⟩ = false := by simp [hasB]; intros; omega
      rw [HB]
      clear HB hx hx2 hy
      unfold Pv
      simp only [hf]
      go_enter Tryd.func11, Tryd.ntmps11
      go_wp2
      go_ret
      exact ⟨rfl, ala _ _⟩
    have t3 : decide (y < 0) = false := decide_eq_false hy
    by_cases hy2 : (P : Int) ≤ y
    · have t4 : decide ((P : Int) ≤ y) = true := decide_eq_true hy2
      have HB : hasB P a b ⟨x, y, false⟩ = false := by simp [hasB]; intros; omega
      rw [HB]
      clear HB hx hx2 hy hy2
      unfold Pv
      simp only [hf]
      go_enter Tryd.func11, Tryd.ntmps11
      go_wp2
      go_ret
      exact ⟨rfl, ala _ _⟩
    have t4 : decide ((P : Int) ≤ y) = false := decide_eq_false hy2
    have HB : hasB P a b ⟨x, y, false⟩ = ((x * x * x + a * x + b - y * y) % (P : Int) == 0) := by
      rw [Bool.eq_iff_iff, hasB_on]
      unfold On
      simp
      omega
    rw [HB]
    obtain ⟨p1, hp1⟩ : ∃ p, x * x = p := ⟨_, rfl⟩
    have e1 := pos_bd (show 0 ≤ x by omega) (show x ≤ 2000 by omega) (show 0 ≤ x by omega) (show x ≤ 2000 by omega)
    rw [hp1] at e1 ⊢
    obtain ⟨p2, hp2⟩ : ∃ q, p1 * x = q := ⟨_, rfl⟩
    have e2 := pos_bd e1.1 e1.2 (show 0 ≤ x by omega) (show x ≤ 2000 by omega)
    rw [hp2] at e2 ⊢
    obtain ⟨p3, hp3⟩ : ∃ r, a * x = r := ⟨_, rfl⟩
    have e3 := pos_bd ha0 (show a ≤ 2000 by omega) (show 0 ≤ x by omega) (show x ≤ 2000 by omega)
    rw [hp3] at e3 ⊢
    obtain ⟨Y, hY⟩ : ∃ Y, y * y = Y := ⟨_, rfl⟩
    have e4 := pos_bd (show 0 ≤ y by omega) (show y ≤ 2000 by omega) (show 0 ≤ y by omega) (show y ≤ 2000 by omega)
    rw [hY] at e4 ⊢
    have HL : Hid (∀ w, Calls Tryd.prog 22 #[.int .i64 (p2 + p3 + b - Y), .int .i64 P] w fun e w' => e = .returned (.int .i64 ((p2 + p3 + b - Y) % (P : Int))) ∧ w' = w) := fun w => refLeft_any _ P w (by omega) (by omega) (by omega)
    obtain ⟨R, hR⟩ : ∃ R, (p2 + p3 + b - Y) % (P : Int) = R := ⟨_, rfl⟩
    rw [hR] at HL ⊢
    clear HB hx hx2 hy hy2 hR
    unfold Pv
    simp only [hf]
    go_enter Tryd.func11, Tryd.ntmps11
    go_wp2_with fail
    refine (HL.out _).mono ?_
    rintro e w1 ⟨rfl, hw1⟩
    rw [hw1]
    clear hw1 w1
    go_wp2
    go_ret
    exact ⟨rfl, ala _ _⟩

theorem iv_nat (P : Nat) (d : Int) (h : 2 ≤ P) : iv P d = (((d % (P : Int)).toNat ^ (P - 2) % P : Nat) : Int) := by
  unfold iv
  have h0 := Int.emod_nonneg d (show (P : Int) ≠ 0 by omega)
  rw [Int.natCast_emod, Int.natCast_pow, Int.toNat_of_nonneg h0, show ((P : Int) - 2).toNat = P - 2 by omega]

set_option maxHeartbeats 2000000 in
theorem over_any (P : Nat) (t d : Int) (w : World) (h2 : 5 ≤ P) (hp : P ≤ 2000) (ht : t.natAbs ≤ 100000000000) (hd : d.natAbs ≤ 100000000000) :
    Calls Tryd.prog 30 #[.int .i64 t, .int .i64 d, .int .i64 P] w fun e w' => e = .returned (.int .i64 ((t * iv P d) % (P : Int))) ∧ Below w.heap.size w w' := by
  have HL : Hid (∀ w, Calls Tryd.prog 22 #[.int .i64 t, .int .i64 P] w fun e w' => e = .returned (.int .i64 (t % (P : Int))) ∧ w' = w) := fun w => refLeft_any _ P w (by omega) (by omega) (by omega)
  have HPw : Hid (∀ w, Calls Tryd.prog 28 #[.int .i64 d, .int .i64 (P - 2 : Nat), .int .i64 P] w fun e w' => e = .returned (.int .i64 (iv P d)) ∧ Below w.heap.size w w') := fun w => by
    have := refPower_any d (P - 2) P w (by omega) (by omega) (by omega) (by omega)
    rw [← iv_nat P d (by omega)] at this
    exact this
  have i0 : 0 ≤ iv P d ∧ iv P d < P := ⟨Int.emod_nonneg _ (by omega), Int.emod_lt_of_pos _ (by omega)⟩
  have HE : Hid ((t % (P : Int) * iv P d) % (P : Int) = (t * iv P d) % (P : Int)) := by
    show _ = _
    rw [Int.mul_emod, Int.emod_emod_of_dvd _ (Int.dvd_refl _), ← Int.mul_emod]
  obtain ⟨I, hI⟩ : ∃ I, iv P d = I := ⟨_, rfl⟩
  rw [hI] at HPw i0 HE ⊢
  have t0 := Int.emod_nonneg t (show (P : Int) ≠ 0 by omega)
  have t1 := Int.emod_lt_of_pos t (show 0 < (P : Int) by omega)
  obtain ⟨T, hT⟩ : ∃ T, t % (P : Int) = T := ⟨_, rfl⟩
  rw [hT] at HL t0 t1 HE
  obtain ⟨M, hM⟩ : ∃ M, T * I = M := ⟨_, rfl⟩
  have eM := pos_bd t0 (show T ≤ 2000 by omega) i0.1 (show I ≤ 2000 by omega)
  rw [hM] at eM HE
  have HL2 : Hid (∀ w, Calls Tryd.prog 22 #[.int .i64 M, .int .i64 P] w fun e w' => e = .returned (.int .i64 ((t * I) % (P : Int))) ∧ w' = w) := fun w => by
    have := refLeft_any M P w (by omega) (by omega) (by omega)
    rw [HE.out] at this
    exact this
  obtain ⟨R, hR⟩ : ∃ R, (t * I) % (P : Int) = R := ⟨_, rfl⟩
  rw [hR] at HL2 ⊢
  have hP2 : (P : Int) - 2 = ((P - 2 : Nat) : Int) := by omega
  clear hI hT hR HE
  go_enter Tryd.func30, Tryd.ntmps30
  go_wp2_with fail
  refine (HL.out _).mono ?_
  rintro e w1 ⟨rfl, hw1⟩
  rw [hw1]
  clear hw1 w1
  go_wp2_with fail
  refine (HPw.out _).mono ?_
  rintro e w1 ⟨rfl, k1⟩
  have HK1 : Hid (Below w.heap.size w w1) := k1
  clear k1
  go_wp2_with fail
  refine (HL2.out _).mono ?_
  rintro e w2 ⟨rfl, hw2⟩
  rw [hw2]
  clear hw2 w2
  go_wp2
  go_ret
  exact ⟨rfl, HK1.out⟩

end Go.Proofs.YtbeceimopamllaaDoor
