/- padic.Digits, padic.Teich. -/
import Derived.Test.YtidndbdjhapfaaaDoorPaE
set_option linter.unusedSimpArgs false
set_option linter.unusedVariables false
set_option maxRecDepth 100000
namespace Go.Proofs.YtidndbdjhapfaaaDoor
open Go.RowKit

theorem frob_pow {P A : Nat} (hp : Pr P) : ∀ k, A ^ (P ^ k) % P = A % P := by
  intro k
  induction k with
  | zero => simp
  | succ k ih => rw [Nat.pow_succ, Nat.pow_mul, Nat.pow_mod, ih, ← Nat.pow_mod]; exact fermat_all hp A

theorem teich_math {P K A : Nat} (hp : Pr P) (hK : 1 ≤ K) (hA : A < P) : (A ^ (P ^ (K - 1)) % P ^ K) % P = A ∧ (A ^ (P ^ (K - 1)) % P ^ K) ^ P % P ^ K = A ^ (P ^ (K - 1)) % P ^ K := by
  have h2 := hp.1
  obtain ⟨k, rfl⟩ : ∃ k, K = k + 1 := ⟨K - 1, by omega⟩
  simp only [Nat.add_sub_cancel]
  refine ⟨?_, ?_⟩
  · rw [Nat.mod_mod_of_dvd _ ⟨P ^ k, by rw [Nat.pow_succ, Nat.mul_comm]⟩, frob_pow hp, Nat.mod_eq_of_lt hA]
  · rw [← Nat.pow_mod, ← Nat.pow_mul, ← Nat.pow_succ]
    have h := teich_fix hp (A : Int) (by
      have h := fermat_all hp A
      have e : ((A : Int) ^ P) % (P : Int) = (A : Int) % (P : Int) := by
        have := congrArg (fun n : Nat => (n : Int)) h
        simpa using this
      exact Int.dvd_of_emod_eq_zero (Int.emod_eq_emod_iff_emod_sub_eq_zero.1 e)) (k + 1) (by omega)
    rw [Nat.add_sub_cancel] at h
    have e := Int.emod_eq_emod_iff_emod_sub_eq_zero.2 (Int.emod_eq_zero_of_dvd h)
    have e2 : ((A ^ (P ^ (k + 1)) % P ^ (k + 1) : Nat) : Int) = ((A ^ (P ^ k) % P ^ (k + 1) : Nat) : Int) := by
      simpa using e
    exact_mod_cast e2

theorem pow_div {P K : Nat} (hP : 2 ≤ P) (hK : 1 ≤ K) : P ^ K / P = P ^ (K - 1) := by
  obtain ⟨k, rfl⟩ : ∃ k, K = k + 1 := ⟨K - 1, by omega⟩
  rw [Nat.pow_succ, Nat.mul_div_cancel _ (by omega), Nat.add_sub_cancel]

/-- What Teich answers. -/
def TeOut (p k a x c at' : Int) : Prop :=
  (x = 0 ∧ c ≠ 0 ∧ ∃ M, Pf p k M c at') ∨
  (∃ M P K, Pg p k M P K ∧ (((a < 0 ∨ p ≤ a) ∧ x = 0 ∧ c = 3 ∧ at' = 2) ∨ (0 ≤ a ∧ a < p ∧ c = 0 ∧ at' = 0 ∧ ∃ X : Nat, x = X ∧ X < P ^ K ∧ (X % P : Nat) = a ∧ X ^ P % P ^ K = X)))

set_option maxHeartbeats 1000000 in
theorem Teich_any (p k a : Int) (w : World) (hT : Tb w) :
    Calls Tryd.prog 6 #[.int .i64 p, .int .i64 k, .int .i64 a] w fun e w' => ∃ x c at', e = .returned (.tuple #[.int .i64 x, .agg #[.int .i64 c, .int .i64 at']]) ∧ TeOut p k a x c at' ∧ Below w.heap.size w w' := by
  obtain ⟨M, c, at', hPf⟩ := pf_ex p k
  have HP : Hid (∀ w, Tb w → Calls Tryd.prog 19 #[.int .i64 p, .int .i64 k] w fun e w' => e = .returned (.tuple #[.int .i64 M, .agg #[.int .i64 c, .int .i64 at']]) ∧ Below w.heap.size w w') := fun w h => powerOf_any p k M c at' w hPf h
  have HT : Hid (Tb (w.alloc (.cells #[.int .i64 0, .int .i64 0] 24))) := hT.alloc _
  have HS0 : Hid (Sv w.heap.size 0 0 (w.alloc (.cells #[.int .i64 0, .int .i64 0] 24))) := Sv.new 0 0 w
  have HK0 : Hid (Below w.heap.size w (w.alloc (.cells #[.int .i64 0, .int .i64 0] 24))) := (Below.refl _ w).alloc (Nat.le_refl _) _
  clear hT
  go_enter Tryd.func6, Tryd.ntmps6
  go_wp2_with fail
  refine (HP.out _ HT.out).mono ?_
  rintro e w1 ⟨rfl, k1⟩
  have S1 := HS0.out.below k1
  have K1 : Below w.heap.size w w1 := HK0.out.trans (k1.mono (by simp))
  clear k1 HP HT HS0 HK0
  rcases hPf.good with ⟨rfl, rfl, P, K, hg⟩ | ⟨hc0, rfl, hc⟩
  · clear hPf
    have HG : Hid (Pg p k M P K) := hg
    obtain rfl := hg.p
    obtain rfl := hg.k
    have hP2 := hg.p2
    have hP6 := hg.p6
    obtain ⟨N, hN⟩ : ∃ N, N = P ^ K := ⟨_, rfl⟩
    have HN : Hid (N = P ^ K) := hN
    have hMN : M = (N : Int) := by rw [hN]; exact hg.m
    subst hMN
    have hN18 : N ≤ 1000000000000000000 := by rw [hN]; exact hg.m18
    have hPN : P ≤ N := by rw [hN]; exact Nat.le_self_pow (by have := hg.k1; omega) P
    clear hN hg
    have e0 : ∀ x : Obj, (w1.alloc x).cell? ⟨w.heap.size, 0, none⟩ = some (.int .i64 0) := fun x => (S1.below ((Below.refl _ _).alloc (Nat.le_refl _) x)).c0
    have e1 : ∀ x : Obj, (w1.alloc x).cell? ⟨w.heap.size, 1, none⟩ = some (.int .i64 0) := fun x => (S1.below ((Below.refl _ _).alloc (Nat.le_refl _) x)).c1
    have e2 : ∀ x : Obj, (w1.alloc x).frozen? ⟨w.heap.size, 0, none⟩ = false := fun x => (S1.below ((Below.refl _ _).alloc (Nat.le_refl _) x)).f0
    have e3 : ∀ x : Obj, (w1.alloc x).frozen? ⟨w.heap.size, 1, none⟩ = false := fun x => (S1.below ((Below.refl _ _).alloc (Nat.le_refl _) x)).f1
    have HS1 : Hid (Sv w.heap.size 0 0 w1) := S1
    have HK1 : Hid (∀ o, Below w.heap.size w (w1.alloc o)) := fun o => K1.alloc (by have := S1.lt; omega) _
    clear S1 K1
    by_cases ha : 0 ≤ a ∧ a < (P : Int)
    · have hb1 : decide (a < 0) = false := decide_eq_false (by omega)
      have hb2 : decide ((P : Int) ≤ a) = false := decide_eq_false (by omega)
      obtain ⟨A, rfl⟩ : ∃ A : Nat, a = A := ⟨a.toNat, by omega⟩
      obtain ⟨Q, hQ⟩ : ∃ Q, Q = N / P := ⟨_, rfl⟩
      have hQi : (N : Int) / (P : Int) = (Q : Int) := by rw [hQ]; simp
      have hQl : Q ≤ 1000000000000000000 := by have := Nat.div_le_self N P; omega
      have hQE : Q = P ^ (K - 1) := by rw [hQ, HN.out]; exact pow_div hP2 HG.out.k1
      obtain ⟨X, hX⟩ : ∃ X, X = A ^ Q % N := ⟨_, rfl⟩
      have hP0 : ((P : Int) == 0) = false := beq_eq_false_iff_ne.2 (by omega)
      have HPw : Hid (∀ w, Calls Tryd.prog 25 #[.int .i64 A, .int .i64 Q, .int .i64 N] w fun e w' => e = .returned (.int .i64 (X : Int)) ∧ ∃ q, w' = w.drewN q) := by
        intro w
        have h := modPower_any (A : Int) Q N w (by omega) (by omega) hN18 hQl
        rw [show ((A : Int) % (N : Int)).toNat = A by rw [Int.emod_eq_of_lt (by omega) (by omega)]; simp, ← hX] at h
        exact h
      have HO : Hid (TeOut P K A X 0 0) := by
        obtain ⟨t1, t2⟩ := teich_math HG.out.pr HG.out.k1 (show A < P by omega)
        rw [← hQE, ← HN.out, ← hX] at t1 t2
        exact .inr ⟨N, P, K, HG.out, .inr ⟨by omega, by omega, rfl, rfl, X, rfl, by rw [hX, ← HN.out]; exact Nat.mod_lt _ (by omega), by rw [t1], by rw [← HN.out]; exact t2⟩⟩
      have hAP : A < P := by omega
      clear hQ hQE hX ha
      go_wp2_with fail
      refine (HPw.out _).mono ?_
      rintro e w2 ⟨rfl, q2, hw2⟩
      have K2 : Below w.heap.size w w2 := by rw [hw2]; exact below_drewN' (HK1.out _)
      have S2 : Sv w.heap.size 0 0 w2 := by rw [hw2]; exact (HS1.out.alloc _ _).drewN
      have q0 := S2.c0
      have q1 := S2.c1
      have q2 := S2.f0
      have q3 := S2.f1
      have z0 := (S2.set 0 0).c0
      have z1 := (S2.set 0 0).c1
      have HK2 : Hid (Below w.heap.size w w2) := K2
      clear hw2 K2 S2 e0 e1 e2 e3
      go_wp2
      exact bodyPost_ret (v := .tuple #[.int .i64 (X : Int), .agg #[.int .i64 0, .int .i64 0]]) (by simp [results, Tryd.results6, go_sem, z0, z1]) rfl ⟨_, _, _, rfl, HO.out, (HK2.out.setCell (by simp) _).setCell (by simp) _⟩
    · have HO : Hid (TeOut P K a 0 3 2) := .inr ⟨N, P, K, HG.out, .inl ⟨by omega, rfl, rfl, rfl⟩⟩
      by_cases h1 : a < 0
      · have hb1 : decide (a < 0) = true := decide_eq_true h1
        clear ha
        go_wp2
        have Z := (HS1.out.alloc #[.int .i64 0, .int .i64 0] 24).set 3 2
        have z0 := Z.c0
        have z1 := Z.c1
        exact bodyPost_ret (v := .tuple #[.int .i64 0, .agg #[.int .i64 3, .int .i64 2]]) (by simp [results, Tryd.results6, go_sem, z0, z1]) rfl ⟨_, _, _, rfl, HO.out, ((HK1.out _).setCell (by simp) _).setCell (by simp) _⟩
      · have hb1 : decide (a < 0) = false := decide_eq_false h1
        have hb2 : decide ((P : Int) ≤ a) = true := decide_eq_true (by omega)
        clear ha h1
        go_wp2
        have Z := (HS1.out.alloc #[.int .i64 0, .int .i64 0] 24).set 3 2
        have z0 := Z.c0
        have z1 := Z.c1
        exact bodyPost_ret (v := .tuple #[.int .i64 0, .agg #[.int .i64 3, .int .i64 2]]) (by simp [results, Tryd.results6, go_sem, z0, z1]) rfl ⟨_, _, _, rfl, HO.out, ((HK1.out _).setCell (by simp) _).setCell (by simp) _⟩
  · have HO : Hid (TeOut p k a 0 c at') := .inl ⟨rfl, hc0, _, hPf⟩
    have hcb : (c != 0) = true := by simp [bne]; exact hc0
    clear hc0 hPf
    have hz : w.heap.size < w1.heap.size := S1.lt
    have q0 := S1.c0
    have q1 := S1.c1
    have q2 := S1.f0
    have q3 := S1.f1
    have HK1 : Hid (Below w.heap.size w w1) := K1
    clear S1 K1
    go_wp2
    go_region
    all_goals
      go_wp2
      exact bodyPost_ret (v := .tuple #[.int .i64 0, .agg #[.int .i64 c, .int .i64 at']]) (by simp [results, Tryd.results6, go_sem, q0, q1, hz]) rfl ⟨0, c, at', rfl, HO.out, Below.drew (Below.alloc (Below.setCell (Below.setCell HK1.out (by simp) _) (by simp) _) (by simp; omega) _)⟩

/-- What Digits answers. -/
def DiOut (p k x y : Int) (v : Value) (c at' : Int) (w' : World) : Prop :=
  (v = .slice none 0 0 ∧ c ≠ 0 ∧ ∃ M, Pf p k M c at') ∨
  (∃ M P K, Pg p k M P K ∧ ((v = .slice none 0 0 ∧ c ≠ 0 ∧ Dg P x y c at') ∨ (Dg P x y 0 0 ∧ c = 0 ∧ at' = 0 ∧ ∃ X : Nat, X < P ^ K ∧ IS w' v (dgs X P K) ∧ (y * X) % M = x % M)))

theorem digit_math {N U A X : Nat} {x y : Int} (hA : (A : Int) = x % (N : Int)) (hU : ((U : Int) * y) % (N : Int) = 1 % (N : Int)) (hX : X = A * U % N) : (y * (X : Int)) % (N : Int) = x % (N : Int) := by
  have e : (X : Int) = ((A : Int) * (U : Int)) % (N : Int) := by rw [hX]; simp
  rw [e, Int.mul_emod, Int.emod_emod, ← Int.mul_emod, show y * ((A : Int) * (U : Int)) = (A : Int) * ((U : Int) * y) by grind, Int.mul_emod, hU, ← Int.mul_emod, Int.mul_one, hA, Int.emod_emod]

set_option maxHeartbeats 2000000 in
theorem Digits_any (p k x y : Int) (w : World) (hT : Tb w) :
    Calls Tryd.prog 5 #[.int .i64 p, .int .i64 k, .int .i64 x, .int .i64 y] w fun e w' => ∃ v c at', e = .returned (.tuple #[v, .agg #[.int .i64 c, .int .i64 at']]) ∧ DiOut p k x y v c at' w' ∧ Below w.heap.size w w' := by
  obtain ⟨M, c, at', hPf⟩ := pf_ex p k
  have HP : Hid (∀ w, Tb w → Calls Tryd.prog 19 #[.int .i64 p, .int .i64 k] w fun e w' => e = .returned (.tuple #[.int .i64 M, .agg #[.int .i64 c, .int .i64 at']]) ∧ Below w.heap.size w w') := fun w h => powerOf_any p k M c at' w hPf h
  have HT : Hid (Tb (w.alloc (.cells #[.int .i64 0, .int .i64 0] 24))) := hT.alloc _
  have HS0 : Hid (Sv w.heap.size 0 0 (w.alloc (.cells #[.int .i64 0, .int .i64 0] 24))) := Sv.new 0 0 w
  have HK0 : Hid (Below w.heap.size w (w.alloc (.cells #[.int .i64 0, .int .i64 0] 24))) := (Below.refl _ w).alloc (Nat.le_refl _) _
  clear hT
  go_enter Tryd.func5, Tryd.ntmps5
  go_wp2_with fail
  refine (HP.out _ HT.out).mono ?_
  rintro e w1 ⟨rfl, k1⟩
  have S1 := HS0.out.below k1
  have K1 : Below w.heap.size w w1 := HK0.out.trans (k1.mono (by simp))
  clear k1 HP HT HS0 HK0
  rcases hPf.good with ⟨rfl, rfl, P, K, hg⟩ | ⟨hc0, rfl, hc⟩
  · clear hPf
    have HG : Hid (Pg p k M P K) := hg
    obtain rfl := hg.p
    obtain rfl := hg.k
    have hP2 := hg.p2
    have hP6 := hg.p6
    have hK6 := hg.k6
    obtain ⟨N, hN⟩ : ∃ N, N = P ^ K := ⟨_, rfl⟩
    have HN : Hid (N = P ^ K) := hN
    have hMN : M = (N : Int) := by rw [hN]; exact hg.m
    subst hMN
    have hN18 : N ≤ 1000000000000000000 := by rw [hN]; exact hg.m18
    have hPN : P ≤ N := by rw [hN]; exact Nat.le_self_pow (by have := hg.k1; omega) P
    obtain ⟨c, at', hdg⟩ := dg_ex P x y
    have HDg : Hid (Dg P x y c at') := hdg
    clear hN hg
    have S2 := S1.alloc #[.int .i64 0, .int .i64 0] 24
    have K2 : Below w.heap.size w (w1.alloc (.cells #[.int .i64 0, .int .i64 0] 24)) := K1.alloc (by have := S1.lt; omega) _
    have hnP : numB (P : Int) = true := by simp [numB]; omega
    have hnK : numB (K : Int) = true := by simp [numB]; omega
    obtain ⟨c1, a1, hnf, hcase⟩ : ∃ c1 a1, nf 0 [(P : Int), (K : Int), x, y] = (c1, a1) ∧ ((c1 ≠ 0 ∧ c = c1 ∧ at' = a1) ∨ (c1 = 0 ∧ a1 = 0 ∧ numB x = true ∧ numB y = true ∧ ((y % (P : Int) = 0 ∧ c = 4 ∧ at' = 3) ∨ (y % (P : Int) ≠ 0 ∧ c = 0 ∧ at' = 0)))) := by
      rw [nf_four hnP hnK]
      rcases hdg with ⟨h1, rfl, rfl⟩ | ⟨h1, ⟨h2, rfl, rfl⟩ | ⟨h2, hdg⟩⟩
      · exact ⟨3, 2, by simp [h1], .inl ⟨by omega, rfl, rfl⟩⟩
      · exact ⟨3, 3, by simp [h1, h2], .inl ⟨by omega, rfl, rfl⟩⟩
      · exact ⟨0, 0, by simp [h1, h2], .inr ⟨rfl, rfl, h1, h2, hdg⟩⟩
    have HNF : Hid (nf 0 [(P : Int), (K : Int), x, y] = (c1, a1)) := hnf
    clear hdg hnf
    clear S1 K1 hnP hnK
    have z2 : (w1.alloc (.cells #[.int .i64 0, .int .i64 0] 24)).heap.size = w1.heap.size + 1 := by simp
    go_wp2_with fail
    generalize hW2 : w1.alloc (.cells #[.int .i64 0, .int .i64 0] 24) = W2 at S2 K2 z2 ⊢
    clear hW2
    rw [← z2]
    refine (numbersFault_any [(P : Int), (K : Int), x, y] W2.heap.size 0 _ _ (by simp) ?_ ?_).mono ?_
    · simp
    · exact four_cells _ _ _ _ _ _ (by simp) (by simp) (by simp) (by simp)
    rw [HNF.out]
    rintro e w1 ⟨rfl, k1⟩
    have kk : Below W2.heap.size W2 w1 := ((Below.refl _ _).alloc (Nat.le_refl _) _).trans (k1.mono (by simp))
    have S1 := S2.below kk
    have K1 : Below w.heap.size w w1 := K2.trans (kk.mono (by have := S2.lt; omega))
    clear k1 kk S2 K2 z2
    rcases hcase with ⟨hc0, rfl, rfl⟩ | ⟨rfl, rfl, hnx, hny, hcase⟩
    · have HO : Hid (∀ w', DiOut P K x y (.slice none 0 0) c at' w') := fun w' => .inr ⟨N, P, K, HG.out, .inl ⟨rfl, hc0, HDg.out⟩⟩
      have hcb : (c != 0) = true := by simp [bne]; exact hc0
      clear hc0
      have hz : w.heap.size < w1.heap.size := S1.lt
      have q0 := S1.c0
      have q1 := S1.c1
      have q2 := S1.f0
      have q3 := S1.f1
      have HK1 : Hid (Below w.heap.size w w1) := K1
      clear S1 K1
      go_wp2
      go_region
      all_goals
        go_wp2
        exact bodyPost_ret (v := .tuple #[.slice none 0 0, .agg #[.int .i64 c, .int .i64 at']]) (by simp [results, Tryd.results5, go_sem, q0, q1, hz]) rfl ⟨_, c, at', rfl, HO.out _, Below.drew (Below.alloc (Below.setCell (Below.setCell HK1.out (by simp) _) (by simp) _) (by simp; omega) _)⟩
    · have hx18 := num_abs hnx
      have hy18 := num_abs hny
      have hP0 : ((P : Int) == 0) = false := beq_eq_false_iff_ne.2 (by omega)
      have e0 : ∀ x : Obj, (w1.alloc x).cell? ⟨w.heap.size, 0, none⟩ = some (.int .i64 0) := fun x => (S1.below ((Below.refl _ _).alloc (Nat.le_refl _) x)).c0
      have e1 : ∀ x : Obj, (w1.alloc x).cell? ⟨w.heap.size, 1, none⟩ = some (.int .i64 0) := fun x => (S1.below ((Below.refl _ _).alloc (Nat.le_refl _) x)).c1
      have e2 : ∀ x : Obj, (w1.alloc x).frozen? ⟨w.heap.size, 0, none⟩ = false := fun x => (S1.below ((Below.refl _ _).alloc (Nat.le_refl _) x)).f0
      have e3 : ∀ x : Obj, (w1.alloc x).frozen? ⟨w.heap.size, 1, none⟩ = false := fun x => (S1.below ((Below.refl _ _).alloc (Nat.le_refl _) x)).f1
      have HS1 : Hid (Sv w.heap.size 0 0 w1) := S1
      have HK1 : Hid (∀ o, Below w.heap.size w (w1.alloc o)) := fun o => K1.alloc (by have := S1.lt; omega) _
      clear S1 K1 hnx
      have hrem : (y.tmod (P : Int) == 0) = (y % (P : Int) == 0) := by
        rw [Bool.eq_iff_iff]
        simp only [beq_iff_eq]
        exact ⟨fun h => Int.emod_eq_zero_of_dvd (Int.dvd_of_tmod_eq_zero h), fun h => Int.tmod_eq_zero_of_dvd (Int.dvd_of_emod_eq_zero h)⟩
      rcases hcase with ⟨hyP, rfl, rfl⟩ | ⟨hyP, rfl, rfl⟩
      · have HO : Hid (∀ w', DiOut P K x y (.slice none 0 0) 4 3 w') := fun w' => .inr ⟨N, P, K, HG.out, .inl ⟨rfl, by omega, HDg.out⟩⟩
        have hrb : (y.tmod (P : Int) == 0) = true := by rw [hrem, hyP]; rfl
        clear hrem
        go_wp2
        have Z := (HS1.out.alloc #[.int .i64 0, .int .i64 0] 24).set 4 3
        have z0 := Z.c0
        have z1 := Z.c1
        exact bodyPost_ret (v := .tuple #[.slice none 0 0, .agg #[.int .i64 4, .int .i64 3]]) (by simp [results, Tryd.results5, go_sem, z0, z1]) rfl ⟨_, _, _, rfl, HO.out _, ((HK1.out _).setCell (by simp) _).setCell (by simp) _⟩
      · have hrb : (y.tmod (P : Int) == 0) = false := by rw [hrem]; exact beq_eq_false_iff_ne.2 hyP
        have HIn : Hid (∀ w, Calls Tryd.prog 21 #[.int .i64 y, .int .i64 N] w fun e w' => ∃ u : Int, e = .returned (.tuple #[.int .i64 u, .agg #[.int .i64 0, .int .i64 0]]) ∧ 0 ≤ u ∧ u < N ∧ (u * y) % N = 1 % N ∧ Below w.heap.size w w') := fun w => Inverse_ok y N w (by simp [okB, hny]; simp [numB]; omega) (by omega) (by rw [HN.out]; exact gcd_pow_one HG.out.pr hyP)
        have a0 := Int.emod_nonneg x (show (N : Int) ≠ 0 by omega)
        have a1 := Int.emod_lt_of_pos x (show 0 < (N : Int) by omega)
        obtain ⟨A, hA⟩ : ∃ A : Nat, (A : Int) = x % (N : Int) := ⟨(x % (N : Int)).toNat, by omega⟩
        have hAN : A < N := by omega
        have HA : Hid ((A : Int) = x % (N : Int)) := hA
        clear hrem hyP hny a0 a1 hA
        go_wp2_with fail
        refine (HIn.out _).mono ?_
        rintro e w4 ⟨u, rfl, hu0, hu1, hu, k4⟩
        have S4 : Sv w.heap.size 0 0 w4 := (HS1.out.alloc _ _).below k4
        have K4 : Below w.heap.size w w4 := (HK1.out _).trans (k4.mono (by have := HS1.out.lt; simp; omega))
        have S5 := S4.alloc #[.int .i64 0, .int .i64 0] 24
        have K5 : Below w.heap.size w (w4.alloc (.cells #[.int .i64 0, .int .i64 0] 24)) := K4.alloc (by have := S4.lt; omega) _
        obtain ⟨U, rfl⟩ : ∃ U : Nat, u = U := ⟨u.toNat, by omega⟩
        have HU : Hid (((U : Int) * y) % (N : Int) = 1 % (N : Int)) := hu
        have hUN : U < N := by omega
        clear k4 S4 K4 hu HIn e0 e1 e2 e3
        go_wp2_with fail
        generalize hW5 : w4.alloc (.cells #[.int .i64 0, .int .i64 0] 24) = W5 at S5 K5 ⊢
        clear hW5
        have HS5 : Hid (Sv w.heap.size 0 0 W5) := S5
        have HK5 : Hid (Below w.heap.size w W5) := K5
        clear S5 K5
        refine (left_any x N _ (by omega) (by omega) (by omega)).mono ?_
        rw [← HA.out]
        rintro e w6 ⟨rfl, hw6⟩
        rw [hw6]
        clear hw6 w6
        obtain ⟨X, hX⟩ : ∃ X, X = A * U % N := ⟨_, rfl⟩
        have HX : Hid (A * U % N = X) := hX.symm
        have hXN : X < N := by rw [hX]; exact Nat.mod_lt _ (by omega)
        have HM : Hid ((y * (X : Int)) % (N : Int) = x % (N : Int)) := digit_math HA.out HU.out hX
        clear hX
        go_wp2_with fail
        refine (productLeft_any A U N _ hAN hUN hN18).mono ?_
        rw [HX.out]
        rintro e w7 ⟨rfl, q7, hw7⟩
        have K7 : Below w.heap.size w w7 := by rw [hw7]; exact below_drewN' HK5.out
        have S7 : Sv w.heap.size 0 0 w7 := by rw [hw7]; exact HS5.out.drewN
        have HS7 : Hid (Sv w.heap.size 0 0 w7) := S7
        have HK7 : Hid (Below w.heap.size w w7) := K7
        clear hw7 K7 S7 HS5 HK5
        go_wp2_with fail
        refine (digits_any X P K w7 (by omega) hP2 hP6 hK6).mono ?_
        rintro e w8 ⟨rfl, his, k8⟩
        have S8 := HS7.out.below k8
        have K8 : Below w.heap.size w w8 := HK7.out.trans (k8.mono (by have := HS7.out.lt; omega))
        have HK8 : Hid (Below w.heap.size w w8) := K8
        have q0 := S8.c0
        have q1 := S8.c1
        have q2 := S8.f0
        have q3 := S8.f1
        have z0 := (S8.set 0 0).c0
        have z1 := (S8.set 0 0).c1
        have HIS : Hid (IS ((w8.setCell ⟨w.heap.size, 0, none⟩ (.int .i64 0)).setCell ⟨w.heap.size, 1, none⟩ (.int .i64 0)) (.slice (some ⟨w7.heap.size, 0, none⟩) K K) (dgs X P K)) := by
          have hne : w.heap.size < w7.heap.size := HS7.out.lt
          obtain ⟨aa, g, o, cap, e1, e2, e3, e4⟩ := his
          refine ⟨aa, g, o, cap, e1, e2, fun i hi => ?_, fun h => by simpa [World.setCell] using e4 h⟩
          have hgb : g = w7.heap.size := by
            have h2 := e2 (Nat.lt_of_le_of_lt (Nat.zero_le _) hi)
            rw [h2] at e1
            injection e1 with e1 _ _
            injection e1 with e1
            injection e1 with e1
            exact e1.symm
          rw [World.cell?_of_block (Below.heap_setCell _ _ _ _ (by simp; omega)), World.cell?_of_block (Below.heap_setCell _ _ _ _ (by simp; omega))]
          exact e3 i hi
        have HO : Hid (DiOut P K x y (.slice (some ⟨w7.heap.size, 0, none⟩) K K) 0 0 ((w8.setCell ⟨w.heap.size, 0, none⟩ (.int .i64 0)).setCell ⟨w.heap.size, 1, none⟩ (.int .i64 0))) :=
          .inr ⟨N, P, K, HG.out, .inr ⟨HDg.out, rfl, rfl, X, by rw [← HN.out]; exact hXN, HIS.out, HM.out⟩⟩
        clear S8 K8 k8 his
        go_wp2
        exact bodyPost_ret (v := .tuple #[.slice (some ⟨w7.heap.size, 0, none⟩) K K, .agg #[.int .i64 0, .int .i64 0]]) (by simp [results, Tryd.results5, go_sem, z0, z1]) rfl ⟨_, _, _, rfl, HO.out, (HK8.out.setCell (by simp) _).setCell (by simp) _⟩
  · have HO : Hid (∀ w', DiOut p k x y (.slice none 0 0) c at' w') := fun w' => .inl ⟨rfl, hc0, _, hPf⟩
    have hcb : (c != 0) = true := by simp [bne]; exact hc0
    clear hc0 hPf
    have hz : w.heap.size < w1.heap.size := S1.lt
    have q0 := S1.c0
    have q1 := S1.c1
    have q2 := S1.f0
    have q3 := S1.f1
    have HK1 : Hid (Below w.heap.size w w1) := K1
    clear S1 K1
    go_wp2
    go_region
    all_goals
      go_wp2
      exact bodyPost_ret (v := .tuple #[.slice none 0 0, .agg #[.int .i64 c, .int .i64 at']]) (by simp [results, Tryd.results5, go_sem, q0, q1, hz]) rfl ⟨_, c, at', rfl, HO.out _, Below.drew (Below.alloc (Below.setCell (Below.setCell HK1.out (by simp) _) (by simp) _) (by simp; omega) _)⟩

end Go.Proofs.YtidndbdjhapfaaaDoor
