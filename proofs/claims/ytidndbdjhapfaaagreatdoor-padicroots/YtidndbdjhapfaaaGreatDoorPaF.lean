/- padic.Digits, padic.Teich. -/
import Derived.Test.YtidndbdjhapfaaaGreatDoorPaE
set_option linter.unusedSimpArgs false
set_option linter.unusedVariables false
set_option maxRecDepth 100000
namespace Go.Proofs.YtidndbdjhapfaaaGreatDoor
open Go.RowKit

theorem frob_pow {P A : Nat} (hp : Pr P) : ∀ k, A ^ (P ^ k) % P = A % P := by
  intro k
  induction k with
  | zero => simp
  | succ k ih => rw [Nat.pow_succ, Nat.pow_mul, Nat.pow_mod, ih, ← Nat.pow_mod]; exact fermat_all hp A

theorem teich_math {P K A : Nat} (hp : Pr P) (hK : 1 ≤ K) (hA : A < P) : (A ^ (P ^ (K - 1)) % P ^ K) % P = A ∧ (A ^ (P ^ (K - 1)) % P ^ K) ^ P % P ^ K = A ^ (P ^ (K - 1)) % P ^ K := by
  have h2 := hp.1
  obtain ⟨k, rfl⟩ : ∃ k, K = k + 1 := ⟨K - 1, by omega⟩
  simp only [Nat.add_sub_cancel]
  refine ⟨?_, ?_⟩
  · rw [Nat.mod_mod_of_dvd _ ⟨P ^ k, by rw [Nat.pow_succ, Nat.mul_comm]⟩, frob_pow hp, Nat.mod_eq_of_lt hA]
  · rw [← Nat.pow_mod, ← Nat.pow_mul, ← Nat.pow_succ]
    have h := teich_fix hp (A : Int) (by
      have h := fermat_all hp A
      have e : ((A : Int) ^ P) % (P : Int) = (A : Int) % (P : Int) := by
        have := congrArg (fun n : Nat => (n : Int)) h
        simpa using this
      exact Int.dvd_of_emod_eq_zero (Int.emod_eq_emod_iff_emod_sub_eq_zero.1 e)) (k + 1) (by omega)
    rw [Nat.add_sub_cancel] at h
    have e := Int.emod_eq_emod_iff_emod_sub_eq_zero.2 (Int.emod_eq_zero_of_dvd h)
    have e2 : ((A ^ (P ^ (k + 1)) % P ^ (k + 1) : Nat) : Int) = ((A ^ (P ^ k) % P ^ (k + 1) : Nat) : Int) := by
      simpa using e
    exact_mod_cast e2

theorem pow_div {P K : Nat} (hP : 2 ≤ P) (hK : 1 ≤ K) : P ^ K / P = P ^ (K - 1) := by
  obtain ⟨k, rfl⟩ : ∃ k, K = k + 1 := ⟨K - 1, by omega⟩
  rw [Nat.pow_succ, Nat.mul_div_cancel _ (by omega), Nat.add_sub_cancel]

/-- What Teich answers. -/
def TeOut (p k a x c at' : Int) : Prop :=
  (x = 0 ∧ c ≠ 0 ∧ ∃ M, Pf p k M c at') ∨
  (∃ M P K, Pg p k M P K ∧ (((a < 0 ∨ p ≤ a) ∧ x = 0 ∧ c = 3 ∧ at' = 2) ∨ (0 ≤ a ∧ a < p ∧ c = 0 ∧ at' = 0 ∧ ∃ X : Nat, x = X ∧ X < P ^ K ∧ (X % P : Nat) = a ∧ X ^ P % P ^ K = X)))

set_option maxHeartbeats 1000000 in
theorem Teich_any (p k a : Int) (w : World) (hT : Tb w) :
    Calls Tryz.prog 11 #[.int .i64 p, .int .i64 k, .int .i64 a] w fun e w' => ∃ x c at', e = .returned (.tuple #[.int .i64 x, .agg #[.int .i64 c, .int .i64 at']]) ∧ TeOut p k a x c at' ∧ Below w.heap.size w w' := by
  obtain ⟨M, c, at', hPf⟩ := pf_ex p k
  have HP : Hid (∀ w, Tb w → Calls Tryz.prog 12 #[.int .i64 p, .int .i64 k] w fun e w' => e = .returned (.tuple #[.int .i64 M, .agg #[.int .i64 c, .int .i64 at']]) ∧ Below w.heap.size w w') := fun w h => powerOf_any p k M c at' w hPf h
  have HT : Hid (Tb (w.alloc (.cells #[.int .i64 0, .int .i64 0] 25))) := hT.alloc _
  have HS0 : Hid (Sv w.heap.size 0 0 (w.alloc (.cells #[.int .i64 0, .int .i64 0] 25))) := Sv.new 0 0 w
  have HK0 : Hid (Below w.heap.size w (w.alloc (.cells #[.int .i64 0, .int .i64 0] 25))) := (Below.refl _ w).alloc (Nat.le_refl _) _
  clear hT
  go_enter Tryz.func11, Tryz.ntmps11
  go_wp2_with fail
  refine (HP.out _ HT.out).mono ?_
  rintro e w1 ⟨rfl, k1⟩
  have S1 := HS0.out.below k1
  have K1 : Below w.heap.size w w1 := HK0.out.trans (k1.mono (by simp))
  clear k1 HP HT HS0 HK0
  rcases hPf.good with ⟨rfl, rfl, P, K, hg⟩ | ⟨hc0, rfl, hc⟩
  · clear hPf
    have HG : Hid (Pg p k M P K) := hg
    obtain rfl := hg.p
    obtain rfl := hg.k
    have hP2 := hg.p2
    have hP6 := hg.p6
    obtain ⟨N, hN⟩ : ∃ N, N = P ^ K := ⟨_, rfl⟩
    have HN : Hid (N = P ^ K) := hN
    have hMN : M = (N : Int) := by rw [hN]; exact hg.m
    subst hMN
    have hN18 : N ≤ 1000000000000000000 := by rw [hN]; exact hg.m18
    have hPN : P ≤ N := by rw [hN]; exact Nat.le_self_pow (by have := hg.k1; omega) P
    clear hN hg
    have e0 : ∀ x : Obj, (w1.alloc x).cell? ⟨w.heap.size, 0, none⟩ = some (.int .i64 0) := fun x => (S1.below ((Below.refl _ _).alloc (Nat.le_refl _) x)).c0
    have e1 : ∀ x : Obj, (w1.alloc x).cell? ⟨w.heap.size, 1, none⟩ = some (.int .i64 0) := fun x => (S1.below ((Below.refl _ _).alloc (Nat.le_refl _) x)).c1
    have e2 : ∀ x : Obj, (w1.alloc x).frozen? ⟨w.heap.size, 0, none⟩ = false := fun x => (S1.below ((Below.refl _ _).alloc (Nat.le_refl _) x)).f0
    have e3 : ∀ x : Obj, (w1.alloc x).frozen? ⟨w.heap.size, 1, none⟩ = false := fun x => (S1.below ((Below.refl _ _).alloc (Nat.le_refl _) x)).f1
    have HS1 : Hid (Sv w.heap.size 0 0 w1) := S1
    have HK1 : Hid (∀ o, Below w.heap.size w (w1.alloc o)) := fun o => K1.alloc (by have := S1.lt; omega) _
    clear S1 K1
    by_cases ha : 0 ≤ a ∧ a < (P : Int)
    · have hb1 : decide (a < 0) = false := decide_eq_false (by omega)
      have hb2 : decide ((P : Int) ≤ a) = false := decide_eq_false (by omega)
      obtain ⟨A, rfl⟩ : ∃ A : Nat, a = A := ⟨a.toNat, by omega⟩
      obtain ⟨Q, hQ⟩ : ∃ Q, Q = N / P := ⟨_, rfl⟩
      have hQi : (N : Int) / (P : Int) = (Q : Int) := by rw [hQ]; simp
      have hQl : Q ≤ 1000000000000000000 := by have := Nat.div_le_self N P; omega
      have hQE : Q = P ^ (K - 1) := by rw [hQ, HN.out]; exact pow_div hP2 HG.out.k1
      obtain ⟨X, hX⟩ : ∃ X, X = A ^ Q % N := ⟨_, rfl⟩
      have hP0 : ((P : Int) == 0) = false := beq_eq_false_iff_ne.2 (by omega)
      have HPw : Hid (∀ w, Calls Tryz.prog 31 #[.int .i64 A, .int .i64 Q, .int .i64 N] w fun e w' => e = .returned (.int .i64 (X : Int)) ∧ ∃ q, w' = w.drewN q) := by
        intro w
        have h := modPower_any (A : Int) Q N w (by omega) (by omega) hN18 hQl
        rw [show ((A : Int) % (N : Int)).toNat = A by rw [Int.emod_eq_of_lt (by omega) (by omega)]; simp, ← hX] at h
        exact h
      have HO : Hid (TeOut P K A X 0 0) := by
        obtain ⟨t1, t2⟩ := teich_math HG.out.pr HG.out.k1 (show A < P by omega)
        rw [← hQE, ← HN.out, ← hX] at t1 t2
        exact .inr ⟨N, P, K, HG.out, .inr ⟨by omega, by omega, rfl, rfl, X, rfl, by rw [hX, ← HN.out]; exact Nat.mod_lt _ (by omega), by rw [t1], by rw [← HN.out]; exact t2⟩⟩
      have hAP : A < P := by omega
      clear hQ hQE hX ha
      go_wp2_with fail
      refine (HPw.out _).mono ?_
      rintro e w2 ⟨rfl, q2, hw2⟩
      have K2 : Below w.heap.size w w2 := by rw [hw2]; exact below_drewN' (HK1.out _)
      have S2 : Sv w.heap.size 0 0 w2 := by rw [hw2]; exact (HS1.out.alloc _ _).drewN
      have q0 := S2.c0
      have q1 := S2.c1
      have q2 := S2.f0
      have q3 := S2.f1
      have z0 := (S2.set 0 0).c0
      have z1 := (S2.set 0 0).c1
      have HK2 : Hid (Below w.heap.size w w2) := K2
      clear hw2 K2 S2 e0 e1 e2 e3
      go_wp2
      exact bodyPost_ret (v := .tuple #[.int .i64 (X : Int), .agg #[.int .i64 0, .int .i64 0]]) (by simp [results, Tryz.results11, go_sem, z0, z1]) rfl ⟨_, _, _, rfl, HO.out, (HK2.out.setCell (by simp) _).setCell (by simp) _⟩
    · have HO : Hid (TeOut P K a 0 3 2) := .inr ⟨N, P, K, HG.out, .inl ⟨by omega, rfl, rfl, rfl⟩⟩
      by_cases h1 : a < 0
      · have hb1 : decide (a < 0) = true := decide_eq_true h1
        clear ha
        go_wp2
        have Z := (HS1.out.alloc #[.int .i64 0, .int .i64 0] 25).set 3 2
        have z0 := Z.c0
        have z1 := Z.c1
        exact bodyPost_ret (v := .tuple #[.int .i64 0, .agg #[.int .i64 3, .int .i64 2]]) (by simp [results, Tryz.results11, go_sem, z0, z1]) rfl ⟨_, _, _, rfl, HO.out, ((HK1.out _).setCell (by simp) _).setCell (by simp) _⟩
      · have hb1 : decide (a < 0) = false := decide_eq_false h1
        have hb2 : decide ((P : Int) ≤ a) = true := decide_eq_true (by omega)
        clear ha h1
        go_wp2
        have Z := (HS1.out.alloc #[.int .i64 0, .int .i64 0] 25).set 3 2
        have z0 := Z.c0
        have z1 := Z.c1
        exact bodyPost_ret (v := .tuple #[.int .i64 0, .agg #[.int .i64 3, .int .i64 2]]) (by simp [results, Tryz.results11, go_sem, z0, z1]) rfl ⟨_, _, _, rfl, HO.out, ((HK1.out _).setCell (by simp) _).setCell (by simp) _⟩
  · have HO : Hid (TeOut p k a 0 c at') := .inl ⟨rfl, hc0, _, hPf⟩
    have hcb : (c != 0) = true := by simp [bne]; exact hc0
    clear hc0 hPf
    have hz : w.heap.size < w1.heap.size := S1.lt
    have q0 := S1.c0
    have q1 := S1.c1
    have q2 := S1.f0
    have q3 := S1.f1
    have HK1 : Hid (Below w.heap.size w w1) := K1
    clear S1 K1
    go_wp2
    go_region
    all_goals
      go_wp2
      exact bodyPost_ret (v := .tuple #[.int .i64 0, .agg #[.int .i64 c, .int .i64 at']]) (by simp [results, Tryz.results11, go_sem, q0, q1, hz]) rfl ⟨0, c, at', rfl, HO.out, Below.drew (Below.alloc (Below.setCell (Below.setCell HK1.out (by simp) _) (by simp) _) (by simp; omega) _)⟩

/-- What Digits answers. -/
def DiOut (p k x y : Int) (v : Value) (c at' : Int) (w' : World) : Prop :=
  (v = .slice none 0 0 ∧ c ≠ 0 ∧ ∃ M, Pf p k M c at') ∨
  (∃ M P K, Pg p k M P K ∧ ((v = .slice none 0 0 ∧ c ≠ 0 ∧ Dg P x y c at') ∨ (Dg P x y 0 0 ∧ c = 0 ∧ at' = 0 ∧ ∃ X : Nat, X < P ^ K ∧ IS w' v (dgs X P K) ∧ (y * X) % M = x % M)))

theorem digit_math {N U A X : Nat} {x y : Int} (hA : (A : Int) = x % (N : Int)) (hU : ((U : Int) * y) % (N : Int) = 1 % (N : Int)) (hX : X = A * U % N) : (y * (X : Int)) % (N : Int) = x % (N : Int) := by
  have e : (X : Int) = ((A : Int) * (U : Int)) % (N : Int) := by rw [hX]; simp
  rw [e, Int.mul_emod, Int.emod_emod, ← Int.mul_emod, show y * ((A : Int) * (U : Int)) = (A : Int) * ((U : Int) * y) by grind, Int.mul_emod, hU, ← Int.mul_emod, Int.mul_one, hA, Int.emod_emod]

end Go.Proofs.YtidndbdjhapfaaaGreatDoor
