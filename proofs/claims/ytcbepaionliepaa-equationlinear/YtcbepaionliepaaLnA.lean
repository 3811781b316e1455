/- The program: equation.Linear. -/
import Derived.Test.YtcbepaionliepaaCoA
import Derived.Test.YtcbepaionliepaaBitsB
import Derived.Test.YtcbepaionliepaaWholeE
set_option linter.unusedSimpArgs false
set_option linter.unusedVariables false
set_option maxRecDepth 100000
namespace Go.Proofs.Ytcbepaionliepaa
open Go.RowKit

abbrev LnV (x y c t : Int) : Value := .tuple #[.int .i64 x, .int .i64 y, .agg #[.int .i64 c, .int .i64 t]]
theorem three_cellsL (a b c : Int) (W : World) (B : Nat) (h0 : W.cell? ⟨B, 0, none⟩ = some (.int .i64 a)) (h1 : W.cell? ⟨B, 1, none⟩ = some (.int .i64 b)) (h2 : W.cell? ⟨B, 2, none⟩ = some (.int .i64 c)) :
    ∀ j, j < [a, b, c].length → W.cell? ⟨B, 0 + j, none⟩ = some (.int .i64 ([a, b, c].getD j 0)) := by
  intro j hj
  match j, hj with
  | 0, _ => exact h0
  | 1, _ => exact h1
  | 2, _ => exact h2

set_option maxHeartbeats 2000000 in
theorem eqsize_any (n : Int) (w : World) (h : n.natAbs ≤ 1000000000000000000) : Calls Try.prog 28 #[.int .i64 n] w fun e w' => e = .returned (.int .i64 (n.natAbs : Int)) ∧ w' = w := by
  have hb : -1000000000000000000 ≤ n ∧ n ≤ 1000000000000000000 := by omega
  by_cases h0 : 0 ≤ n
  all_goals
    go_enter Try.func28, Try.ntmps28
    go_wp2
    all_goals
      go_ret
      exact ⟨ret_int (by omega), rfl⟩

set_option maxHeartbeats 2000000 in
theorem Linear_range (a b c p q : Int) (w : World) (hK : nw 1000000000 0 [a, b, c] = (p, q)) (hne : (p != 0) = true) :
    Calls Try.prog 6 #[.int .i64 a, .int .i64 b, .int .i64 c] w fun e w' => e = .returned (LnV 0 0 p q) ∧ Below w.heap.size w w' := by
  have HK : Hid (nw 1000000000 0 [a, b, c] = (p, q)) := hK
  clear hK
  go_enter Try.func6, Try.ntmps6
  go_wp2_with fail
  refine (bwithin_any 1000000000 [a, b, c] _ 0 _ _ (by decide) (by decide) (by simp) ?_ ?_).mono ?_
  · simp
  · exact three_cellsL a b c _ _ (by simp) (by simp) (by simp)
  rw [HK.out]
  rintro e w1 ⟨rfl, hb⟩
  have hz : w.heap.size < w1.heap.size := by have := hb.size; simp at this; omega
  have q0 : w1.cell? ⟨w.heap.size, 0, none⟩ = some (.int .i64 0) := cell_later hb (by simp)
  have q1 : w1.cell? ⟨w.heap.size, 1, none⟩ = some (.int .i64 0) := cell_later hb (by simp)
  have q2 : w1.frozen? ⟨w.heap.size, 0, none⟩ = false := (hb.frozen (p := ⟨w.heap.size, 0, none⟩) (by simp; omega)).trans (by simp)
  have q3 : w1.frozen? ⟨w.heap.size, 1, none⟩ = false := (hb.frozen (p := ⟨w.heap.size, 1, none⟩) (by simp; omega)).trans (by simp)
  go_wp2
  go_region
  all_goals
    go_wp2
    refine bodyPost_ret (v := LnV 0 0 p q) (by simp [results, Try.results6, go_sem, q0, q1, hz]) rfl ⟨rfl, ?_⟩
    refine Below.drew (Below.alloc (Below.setCell (Below.setCell (Below.trans (Below.alloc (Below.alloc (Below.refl _ _) ?_ _) ?_ _) (hb.mono ?_)) ?_ _) ?_ _) ?_ _) <;> first | omega | (simp; done) | (simp; omega)

def inL (x : Int) : Prop := -1000000000 ≤ x ∧ x ≤ 1000000000
theorem nw_good {a b c : Int} (ha : inL a) (hb : inL b) (hc : inL c) : nw 1000000000 0 [a, b, c] = (0, 0) := by
  unfold inL at *
  rw [nw, if_pos (by simp [inB]; omega), nw, if_pos (by simp [inB]; omega), nw, if_pos (by simp [inB]; omega)]; rfl

set_option maxHeartbeats 2000000 in
theorem Linear_zero (a c : Int) (w : World) (ha : inL a) (hc : inL c) :
    Calls Try.prog 6 #[.int .i64 a, .int .i64 0, .int .i64 c] w fun e w' => e = .returned (LnV 0 0 4 1) ∧ Below w.heap.size w w' := by
  have HK : Hid (nw 1000000000 0 [a, 0, c] = (0, 0)) := nw_good ha (by unfold inL; omega) hc
  clear ha hc
  go_enter Try.func6, Try.ntmps6
  go_wp2_with fail
  refine (bwithin_any 1000000000 [a, 0, c] _ 0 _ _ (by decide) (by decide) (by simp) ?_ ?_).mono ?_
  · simp
  · exact three_cellsL a 0 c _ _ (by simp) (by simp) (by simp)
  rw [HK.out]
  rintro e w1 ⟨rfl, hb⟩
  obtain ⟨q0, q1, q2, q3, hz⟩ := ((Sv.new 0 0 w).alloc _ _).below hb
  have HB : Hid (Below w.heap.size w w1) := (Below.alloc (Below.alloc (Below.refl _ _) (Nat.le_refl _) _) (by simp) _).trans (hb.mono (by simp; omega))
  clear hb
  go_wp2
  refine bodyPost_ret (v := LnV 0 0 4 1) (by simp [results, Try.results6, go_sem, q0, q1, hz]) rfl ⟨rfl, ?_⟩
  refine Below.alloc (Below.setCell (Below.setCell HB.out (Nat.le_refl _) _) (Nat.le_refl _) _) ?_ _
  simp
  exact HB.out.size

/-- What Linear answers. -/
theorem lin_is {a b c u v X : Int} {g S : Nat} (hg : (g : Int) = Int.gcd a b) (hS : (S : Int) * g = b.natAbs) (h : u * a + v * b = (g : Int)) (hc : c % (g : Int) = 0) (hg0 : 0 < g) (hX : X = (c / (g : Int) % (S : Int)) * u % (S : Int)) : (c - a * X) % b = 0 := by
  obtain ⟨C, hC⟩ : ∃ C, C = c / (g : Int) := ⟨_, rfl⟩
  have e1 : c = g * C := by
    have := Int.mul_ediv_add_emod c g
    rw [hc, ← hC] at this
    omega
  obtain ⟨A, hA⟩ : ∃ A, a = g * A := by
    have := Int.gcd_dvd_left (a := a) (b := b)
    rw [← hg] at this
    exact this
  obtain ⟨t, ht⟩ : ∃ t : Int, (b.natAbs : Int) = t * b := by
    rcases Int.natAbs_eq b with h | h
    · exact ⟨1, by omega⟩
    · exact ⟨-1, by omega⟩
  have e2 := Int.mul_ediv_add_emod C (S : Int)
  have e3 := Int.mul_ediv_add_emod (C % (S : Int) * u) (S : Int)
  rw [← hC] at hX
  rw [← hX] at e3
  apply Int.emod_eq_zero_of_dvd
  refine ⟨C * v + A * t * (C / (S : Int) * u + C % (S : Int) * u / (S : Int)), ?_⟩
  generalize C / (S : Int) = k1 at *
  generalize C % (S : Int) = C0 at *
  generalize C0 * u / (S : Int) = k2 at *
  have e4 : (S : Int) * g = t * b := by omega
  have : a * S = A * (t * b) := by rw [hA, ← e4]; grind
  grind

theorem okB_L {a b : Int} (ha : inL a) (hb : inL b) : okB a b = true := by
  unfold inL at *
  simp only [okB, numB, Bool.and_eq_true, decide_eq_true_eq]; omega
theorem gcd_L {a b : Int} (hb : inL b) (h0 : b ≠ 0) : 0 < Int.gcd a b ∧ Int.gcd a b ≤ 1000000000 := by
  unfold inL at hb
  refine ⟨Int.gcd_pos_of_ne_zero_right a h0, ?_⟩
  exact Nat.le_trans (Nat.le_of_dvd (by omega) (Int.gcd_dvd_natAbs_right a b)) (by omega)

set_option maxHeartbeats 4000000 in
theorem Linear_none (a b c : Int) (w : World) (ha : inL a) (hb : inL b) (hc : inL c) (h0 : b ≠ 0) (hn : c.tmod (Int.gcd a b : Int) ≠ 0) :
    Calls Try.prog 6 #[.int .i64 a, .int .i64 b, .int .i64 c] w fun e w' => e = .returned (LnV 0 0 5 0) ∧ Below w.heap.size w w' := by
  have HK : Hid (nw 1000000000 0 [a, b, c] = (0, 0)) := nw_good ha hb hc
  have HBz : Hid (∀ w, Calls Try.prog 27 #[.int .i64 a, .int .i64 b] w fun e w' => ∃ u v : Int, e = .returned (.tuple #[.int .i64 (Int.gcd a b : Int), .int .i64 u, .int .i64 v, .agg #[.int .i64 0, .int .i64 0]]) ∧ Bez a b u v ∧ Below w.heap.size w w') := fun w => Bezout_ok a b w (okB_L ha hb)
  have hg := gcd_L (a := a) hb h0
  obtain ⟨G, hG⟩ : ∃ G, G = Int.gcd a b := ⟨_, rfl⟩
  rw [← hG] at HBz hg hn
  have tb : (b == 0) = false := beq_eq_false_iff_ne.2 h0
  have tg : ((G : Int) == 0) = false := beq_eq_false_iff_ne.2 (by omega)
  have tn : (c.tmod (G : Int) != 0) = true := bne_iff_ne.2 hn
  unfold inL at ha hb hc
  obtain ⟨T, hT⟩ : ∃ T, c.tmod (G : Int) = T := ⟨_, rfl⟩
  rw [hT] at tn
  clear hG h0 hn
  go_enter Try.func6, Try.ntmps6
  go_wp2_with fail
  refine (bwithin_any 1000000000 [a, b, c] _ 0 _ _ (by decide) (by decide) (by simp) ?_ ?_).mono ?_
  · simp
  · exact three_cellsL a b c _ _ (by simp) (by simp) (by simp)
  rw [HK.out]
  rintro e w1 ⟨rfl, k1⟩
  have HS1 : Hid (Sv w.heap.size 0 0 w1 ∧ Below w.heap.size w w1) := ⟨((Sv.new 0 0 w).alloc _ _).below k1, (Below.alloc (Below.alloc (Below.refl _ _) (Nat.le_refl _) _) (by simp) _).trans (k1.mono (by simp; omega))⟩
  clear k1
  go_wp2_with fail
  refine (HBz.out _).mono ?_
  rintro e w2 ⟨u, v, rfl, bz, k2⟩
  have HB2 : Hid (Below w.heap.size w w2) := (Below.alloc HS1.out.2 HS1.out.2.size _).trans (k2.mono (by simp; have := HS1.out.2.size; omega))
  obtain ⟨q0, q1, q2, q3, hz⟩ := ((HS1.out.1.alloc _ _).below k2)
  have HZ : Hid (w.heap.size < w2.heap.size) := hz
  have p0 : ∀ o : Obj, (w2.alloc o).cell? ⟨w.heap.size, 0, none⟩ = some (.int .i64 0) := fun o => ((Below.alloc (Below.refl w2.heap.size w2) (Nat.le_refl _) o).cell (p := ⟨w.heap.size, 0, none⟩) hz).trans q0
  have p1 : ∀ o : Obj, (w2.alloc o).cell? ⟨w.heap.size, 1, none⟩ = some (.int .i64 0) := fun o => ((Below.alloc (Below.refl w2.heap.size w2) (Nat.le_refl _) o).cell (p := ⟨w.heap.size, 1, none⟩) hz).trans q1
  have p2 : ∀ o : Obj, (w2.alloc o).frozen? ⟨w.heap.size, 0, none⟩ = false := fun o => ((Below.alloc (Below.refl w2.heap.size w2) (Nat.le_refl _) o).frozen (p := ⟨w.heap.size, 0, none⟩) hz).trans q2
  have p3 : ∀ o : Obj, (w2.alloc o).frozen? ⟨w.heap.size, 1, none⟩ = false := fun o => ((Below.alloc (Below.refl w2.heap.size w2) (Nat.le_refl _) o).frozen (p := ⟨w.heap.size, 1, none⟩) hz).trans q3
  clear k2 HBz bz
  go_wp2
  refine bodyPost_ret (v := LnV 0 0 5 0) (by simp [results, Try.results6, go_sem, q0, q1, hz]) rfl ⟨rfl, ?_⟩
  refine Below.alloc (Below.setCell (Below.setCell HB2.out (Nat.le_refl _) _) (Nat.le_refl _) _) ?_ _
  simp
  exact HB2.out.size

set_option maxHeartbeats 8000000 in
theorem Linear_ok (a b c : Int) (w : World) (ha : inL a) (hb : inL b) (hc : inL c) (h0 : b ≠ 0) (hn : c.tmod (Int.gcd a b : Int) = 0) :
    Calls Try.prog 6 #[.int .i64 a, .int .i64 b, .int .i64 c] w fun e w' => ∃ x y : Int, e = .returned (LnV x y 0 0) ∧ 0 ≤ x ∧ x < (b.natAbs / Int.gcd a b : Nat) ∧ a * x + b * y = c ∧ y.natAbs ≤ 2000000000000000000 ∧ Below w.heap.size w w' := by
  have HK : Hid (nw 1000000000 0 [a, b, c] = (0, 0)) := nw_good ha hb hc
  have HBz : Hid (∀ w, Calls Try.prog 27 #[.int .i64 a, .int .i64 b] w fun e w' => ∃ u v : Int, e = .returned (.tuple #[.int .i64 (Int.gcd a b : Int), .int .i64 u, .int .i64 v, .agg #[.int .i64 0, .int .i64 0]]) ∧ Bez a b u v ∧ Below w.heap.size w w') := fun w => Bezout_ok a b w (okB_L ha hb)
  have hg := gcd_L (a := a) hb h0
  obtain ⟨G, hG⟩ : ∃ G, G = Int.gcd a b := ⟨_, rfl⟩
  have hdb : G ∣ b.natAbs := by rw [hG]; exact Int.gcd_dvd_natAbs_right a b
  obtain ⟨St, hSt⟩ : ∃ S, S = b.natAbs / G := ⟨_, rfl⟩
  have hSg : St * G = b.natAbs := by rw [hSt]; exact Nat.div_mul_cancel hdb
  rw [← hG] at HBz hg hn
  rw [← hG, ← hSt]
  have HGG : Hid (G = Int.gcd a b ∧ St * G = b.natAbs) := ⟨hG, hSg⟩
  have tb : (b == 0) = false := beq_eq_false_iff_ne.2 h0
  have tg : ((G : Int) == 0) = false := beq_eq_false_iff_ne.2 (by omega)
  have HL : Hid (inL a ∧ inL b ∧ inL c ∧ b ≠ 0) := ⟨ha, hb, hc, h0⟩
  unfold inL at ha hb hc
  have St0 : 0 < St := by
    rcases Nat.eq_zero_or_pos St with h | h
    · rw [h] at hSg; omega
    · exact h
  have St1 : St ≤ 1000000000 := by rw [hSt]; exact Nat.le_trans (Nat.div_le_self _ _) (by omega)
  have hq : (b.natAbs : Int).tdiv (G : Int) = (St : Int) := by rw [hSt]; exact (Int.ofNat_tdiv _ _).symm
  have hcg : c % (G : Int) = 0 := Int.emod_eq_zero_of_dvd (Int.dvd_of_tmod_eq_zero hn)
  have hcq : c.tdiv (G : Int) = c / (G : Int) := Int.tdiv_eq_ediv_of_dvd (Int.dvd_of_tmod_eq_zero hn)
  obtain ⟨Q, hQ⟩ : ∃ Q, Q = c / (G : Int) := ⟨_, rfl⟩
  have bQ : Q.natAbs ≤ 1000000000 := by
    have h1 : (G : Int) * Q = c := by rw [hQ]; have := Int.mul_ediv_add_emod c G; omega
    have h2 : c.natAbs = G * Q.natAbs := by rw [← h1, Int.natAbs_mul]; rfl
    have h3 : Q.natAbs ≤ G * Q.natAbs := Nat.le_mul_of_pos_left _ hg.1
    omega
  rw [← hQ] at hcq
  have HLf : Hid (∀ w, Calls Try.prog 30 #[.int .i64 Q, .int .i64 (St : Int)] w fun e w' => e = .returned (.int .i64 (Q % (St : Int))) ∧ w' = w) := fun w => left_any Q St w (by omega) St0 (by omega)
  obtain ⟨R, hR⟩ : ∃ R : Nat, (R : Int) = Q % (St : Int) := ⟨(Q % (St : Int)).toNat, Int.toNat_of_nonneg (Int.emod_nonneg _ (by omega))⟩
  have Rl : R < St := by have := Int.emod_lt_of_pos Q (show (0 : Int) < St by omega); omega
  rw [← hR] at HLf
  have HSz : Hid (∀ w, Calls Try.prog 28 #[.int .i64 b] w fun e w' => e = .returned (.int .i64 (b.natAbs : Int)) ∧ w' = w) := fun w => eqsize_any b w (by omega)
  have HQ : Hid (Q = c / (G : Int) ∧ c % (G : Int) = 0 ∧ (R : Int) = Q % (St : Int)) := ⟨hQ, hcg, hR⟩
  have tn : (c.tmod (G : Int) != 0) = false := by rw [hn]; rfl
  obtain ⟨NB, hNB⟩ : ∃ n, b.natAbs = n := ⟨_, rfl⟩
  rw [hNB] at hq HSz
  have bNB : NB ≤ 1000000000 := by omega
  clear hG hSt hdb hSg h0 hQ hR hcg hNB
  go_enter Try.func6, Try.ntmps6
  go_wp2_with fail
  refine (bwithin_any 1000000000 [a, b, c] _ 0 _ _ (by decide) (by decide) (by simp) ?_ ?_).mono ?_
  · simp
  · exact three_cellsL a b c _ _ (by simp) (by simp) (by simp)
  rw [HK.out]
  rintro e w1 ⟨rfl, k1⟩
  have HS1 : Hid (Sv w.heap.size 0 0 w1 ∧ Below w.heap.size w w1) := ⟨((Sv.new 0 0 w).alloc _ _).below k1, (Below.alloc (Below.alloc (Below.refl _ _) (Nat.le_refl _) _) (by simp) _).trans (k1.mono (by simp; omega))⟩
  clear k1
  go_wp2_with fail
  refine (HBz.out _).mono ?_
  rintro e w2 ⟨u, v, rfl, bz, k2⟩
  have HB2 : Hid (Below w.heap.size w w2 ∧ Sv w.heap.size 0 0 w2 ∧ Bez a b u v) := ⟨(Below.alloc HS1.out.2 HS1.out.2.size _).trans (k2.mono (by simp; have := HS1.out.2.size; omega)), (HS1.out.1.alloc _ _).below k2, bz⟩
  have ub : 0 ≤ u ∧ u < (St : Int) := by
    have e : b.natAbs / Int.gcd a b = St := by
      rw [← HGG.out.1, ← HGG.out.2]; exact Nat.mul_div_cancel _ hg.1
    have h1 := bz.low HL.out.2.2.2
    have h2 := bz.high HL.out.2.2.2
    rw [e] at h2
    exact ⟨h1, h2⟩
  clear k2 HBz bz
  go_wp2_with fail
  refine (HSz.out _).mono ?_
  rintro e w' ⟨rfl, hw'⟩
  rw [hw']
  clear hw' w'
  go_wp2_with fail
  refine (HLf.out _).mono ?_
  rintro e w' ⟨rfl, hw'⟩
  rw [hw']
  clear hw' w'
  obtain ⟨U, hU⟩ : ∃ U : Nat, u = (U : Int) := ⟨u.toNat, by omega⟩
  subst hU
  obtain ⟨X, hX⟩ : ∃ X : Nat, X = R * U % St := ⟨_, rfl⟩
  have HPr : Hid (∀ w, Calls Try.prog 29 #[.int .i64 (R : Int), .int .i64 (U : Int), .int .i64 (St : Int)] w fun e w' => e = .returned (.int .i64 (X : Int)) ∧ ∃ n, w' = w.drewN n) := fun w => by rw [hX]; exact productLeft_any R U St w Rl (by omega) (by omega)
  have Xl : X < St := by rw [hX]; exact Nat.mod_lt _ St0
  have hdiv : (c - a * X) % b = 0 := by
    refine lin_is (g := G) (S := St) (u := U) (v := v) ?_ ?_ ?_ HQ.out.2.1 hg.1 ?_
    · rw [HGG.out.1]
    · have := HGG.out.2; exact_mod_cast this
    · have := HB2.out.2.2.lin; rw [← HGG.out.1] at this; exact this
    · rw [hX, ← HQ.out.1, ← HQ.out.2.2]; push_cast; rfl
  obtain ⟨P, hP⟩ : ∃ P, a * (X : Int) = P := ⟨_, rfl⟩
  have bP : -1000000000000000000 ≤ P ∧ P ≤ 1000000000000000000 := by
    have h1 : P.natAbs = a.natAbs * X := by rw [← hP, Int.natAbs_mul]; rfl
    have h2 : a.natAbs * X ≤ 1000000000 * 1000000000 := Nat.mul_le_mul (by omega) (by omega)
    omega
  rw [hP] at hdiv
  obtain ⟨Y, hY⟩ : ∃ Y, (c - P).tdiv b = Y := ⟨_, rfl⟩
  have hbY : b * Y = c - P := by
    rw [← hY]; exact Int.mul_tdiv_cancel_of_dvd (Int.dvd_of_emod_eq_zero hdiv)
  have bY : Y.natAbs ≤ 2000000000000000000 := by
    have h2 : (c - P).natAbs = b.natAbs * Y.natAbs := by rw [← hbY, Int.natAbs_mul]
    have h3 : Y.natAbs ≤ b.natAbs * Y.natAbs := Nat.le_mul_of_pos_left _ (by have := HL.out.2.2.2; omega)
    omega
  have HF : Hid (0 ≤ (X : Int) ∧ (X : Int) < (St : Nat) ∧ a * (X : Int) + b * Y = c ∧ Y.natAbs ≤ 2000000000000000000) := ⟨by omega, by omega, by rw [hP, hbY]; omega, bY⟩
  clear hdiv hbY hX HGG HQ
  go_wp2_with fail
  refine (HPr.out _).mono ?_
  rintro e w5 ⟨rfl, nn, hw5⟩
  have k5 : Below w2.heap.size w2 (w2.alloc (.cells #[.int .i64 0, .int .i64 0] 23)) := Below.alloc (Below.refl _ _) (Nat.le_refl _) _
  have HB5 : Hid (Below w.heap.size w w5 ∧ Sv w.heap.size 0 0 w5) := by
    have hs := HB2.out.1.size
    rw [hw5]
    exact ⟨below_drewN' (Below.alloc HB2.out.1 hs _), (HB2.out.2.1.alloc _ _).drewN⟩
  clear hw5 k5
  obtain ⟨q0, q1, q2, q3, hz⟩ := HB5.out.2
  have wP : IntKind.i64.wrap P = P := by rw [IntKind.wrap_i64]; omega
  have wD : IntKind.i64.wrap (c - P) = c - P := by rw [IntKind.wrap_i64]; omega
  have wY : IntKind.i64.wrap Y = Y := by rw [IntKind.wrap_i64]; omega
  have hb0 : ¬ b = 0 := HL.out.2.2.2
  go_wp2
  go_region
  all_goals
    go_wp2
    refine bodyPost_ret (v := LnV X Y 0 0) (by simp [results, Try.results6, go_sem, q0, q1, hz]) rfl ⟨X, Y, rfl, HF.out.1, HF.out.2.1, HF.out.2.2.1, HF.out.2.2.2, ?_⟩
    exact Below.drew (Below.setCell (Below.setCell HB5.out.1 (Nat.le_refl _) _) (Nat.le_refl _) _)

end Go.Proofs.Ytcbepaionliepaa
