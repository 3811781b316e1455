/- padic.Lift. -/
import Derived.Test.YtidndbdjhapfaaaGreatDoorPaC
import Derived.Test.YtidndbdjhapfaaaGreatDoorPwD
set_option linter.unusedSimpArgs false
set_option linter.unusedVariables false
set_option maxRecDepth 100000
namespace Go.Proofs.YtidndbdjhapfaaaGreatDoor
open Go.RowKit

/-- What Lift answers. -/
def LiOut (p k : Int) (l : List Int) (x y c a : Int) : Prop :=
  (y = 0 ∧ c ≠ 0 ∧ ∃ M, Pf p k M c a) ∨
  (∃ M P K, Pg p k M P K ∧ ((y = 0 ∧ c ≠ 0 ∧ Plf l c a) ∨ (Plf l 0 0 ∧ ((y = 0 ∧ c ≠ 0 ∧ Ck P l x c a) ∨ (Ck P l x 0 0 ∧ c = 0 ∧ a = 0 ∧ 0 ≤ y ∧ y < M ∧ y % p = x ∧ pv l y % M = 0)))))

theorem Plf.good {l : List Int} {a : Int} (h : Plf l 0 a) : a = 0 ∧ l.length ≤ 13 ∧ ∀ i, i < l.length → numB (l.getD i 0) = true := by
  rcases h with ⟨_, h, _⟩ | ⟨_, _, h, _⟩ | ⟨h1, h2, _, h3⟩
  · omega
  · omega
  · exact ⟨h3, h1, h2⟩
theorem Plf.code {l : List Int} {c a : Int} (h : Plf l c a) : 0 ≤ c ∧ c ≤ 10 ∧ 0 ≤ a ∧ a ≤ 3 ∧ (c = 0 → a = 0) := by
  rcases h with ⟨_, h, _⟩ | ⟨_, _, h, _⟩ | ⟨h1, h2, _, h3⟩ <;> omega
theorem Ck.code {P : Nat} {l : List Int} {x c a : Int} (h : Ck P l x c a) : 0 ≤ c ∧ c ≤ 10 ∧ 0 ≤ a ∧ a ≤ 3 ∧ (c = 0 → a = 0) := by
  rcases h with ⟨_, h, _⟩ | ⟨_, _, ⟨_, h, _⟩ | ⟨_, ⟨_, h, _⟩ | ⟨_, h, _⟩⟩⟩ <;> omega
theorem Ck.good {P : Nat} {l : List Int} {x a : Int} (h : Ck P l x 0 a) : 0 ≤ x ∧ x < (P : Int) ∧ pv l x % (P : Int) = 0 ∧ dv l x % (P : Int) ≠ 0 := by
  rcases h with ⟨_, h, _⟩ | ⟨h1, h2, ⟨_, h, _⟩ | ⟨h3, ⟨_, h, _⟩ | ⟨h4, _, _⟩⟩⟩
  · omega
  · omega
  · omega
  · exact ⟨h1, h2, h3, h4⟩

theorem ipow_addP (x : Int) (m n : Nat) : x ^ (m + n) = x ^ m * x ^ n := by
  induction n with
  | zero => simp
  | succ n ih => rw [← Nat.add_assoc, Int.pow_succ, ih, Int.pow_succ, Int.mul_assoc]

theorem inv_ok {P : Nat} {D u : Int} (hp : Pr P) (h : (u * (D % (P : Int))) % (P : Int) = 1 % (P : Int)) : (P : Int) ∣ D * u - 1 := by
  have h2 := hp.1
  have e1 : (u * (D % (P : Int))) % (P : Int) = (D * u) % (P : Int) := by
    rw [Int.mul_emod, Int.emod_emod, ← Int.mul_emod, Int.mul_comm]
  rw [e1] at h
  exact Int.dvd_of_emod_eq_zero (Int.emod_eq_emod_iff_emod_sub_eq_zero.1 h)

theorem gcd_one {P : Nat} {D : Int} (hp : Pr P) (h0 : 0 < D) (h1 : D < (P : Int)) : Int.gcd D (P : Int) = 1 := by
  rcases hp.2 (Int.gcd D (P : Int)) (by have := Int.gcd_dvd_right D (P : Int); exact Int.natCast_dvd_natCast.1 this) with h | h
  · exact h
  · have h2 := Int.gcd_dvd_left D (P : Int)
    rw [h] at h2
    have := Int.le_of_dvd h0 h2
    omega

/-- One step of the program is Hensel's. -/
theorem lift_step {P K i : Nat} {l : List Int} {x u : Int} {y V y' : Nat} (hi : i + 2 ≤ K) (hx : (P : Int) ∣ (y : Int) - x) (hr : ((P : Int) ^ (i + 1)) ∣ pv l y) (hu : (P : Int) ∣ dv l x * u - 1)
    (hV : (V : Int) = pv l y % ((P ^ K : Nat) : Int)) (U : Nat) (hU : u = U) (z : Nat) (hz : z = V * U % (P ^ K)) (hy : (y' : Int) = ((y : Int) - (z : Int)) % ((P ^ K : Nat) : Int)) :
    (P : Int) ∣ (y' : Int) - x ∧ ((P : Int) ^ (i + 1 + 1)) ∣ pv l y' := by
  refine hensel_step (by omega) hx hr hu ?_
  have hd : ((P : Int) ^ (i + 1 + 1)) ∣ ((P ^ K : Nat) : Int) := by
    refine ⟨(P : Int) ^ (K - (i + 1 + 1)), ?_⟩
    rw [← ipow_addP, show i + 1 + 1 + (K - (i + 1 + 1)) = K by omega]; simp
  refine Int.dvd_trans hd ?_
  obtain ⟨M, hM⟩ : ∃ M : Int, M = ((P ^ K : Nat) : Int) := ⟨_, rfl⟩
  have hzi : (z : Int) = ((V : Int) * u) % M := by rw [hz, hU, hM]; simp
  rw [← hM] at hV hy ⊢
  rw [hy, hzi, hV]
  have e1 := Int.emod_add_mul_ediv (pv l y) M
  obtain ⟨A, hA⟩ : ∃ A, A = pv l y := ⟨_, rfl⟩
  rw [← hA] at e1 ⊢
  obtain ⟨R, hR⟩ : ∃ R, R = A % M := ⟨_, rfl⟩
  rw [← hR] at e1 ⊢
  have e2 := Int.emod_add_mul_ediv (R * u) M
  obtain ⟨Z, hZ⟩ : ∃ Z, Z = R * u % M := ⟨_, rfl⟩
  rw [← hZ] at e2 ⊢
  have e3 := Int.emod_add_mul_ediv ((y : Int) - Z) M
  obtain ⟨B, hB⟩ : ∃ B, B = ((y : Int) - Z) % M := ⟨_, rfl⟩
  rw [← hB] at e3 ⊢
  refine ⟨-(((y : Int) - Z) / M) + R * u / M + A / M * u, ?_⟩
  obtain ⟨k1, h1⟩ : ∃ k, k = A / M := ⟨_, rfl⟩
  obtain ⟨k2, h2⟩ : ∃ k, k = R * u / M := ⟨_, rfl⟩
  obtain ⟨k3, h3⟩ : ∃ k, k = ((y : Int) - Z) / M := ⟨_, rfl⟩
  rw [← h1] at e1 ⊢
  rw [← h2] at e2 ⊢
  rw [← h3] at e3 ⊢
  have f1 : A = R + M * k1 := by omega
  have f2 : R * u = Z + M * k2 := by omega
  have f3 : B = (y : Int) - Z - M * k3 := by omega
  rw [f3, f1, Int.add_mul, f2]
  grind

set_option maxHeartbeats 4000000 in
theorem Lift_any (p k x : Int) (s : Value) (l : List Int) (w : World) (hs : IS w s l) (hl : l.length ≤ 9000000000000000000) (hT : Tb w) :
    Calls Tryz.prog 10 #[.int .i64 p, .int .i64 k, s, .int .i64 x] w fun e w' => ∃ y c a, e = .returned (.tuple #[.int .i64 y, .agg #[.int .i64 c, .int .i64 a]]) ∧ LiOut p k l x y c a ∧ Below w.heap.size w w' := by
  obtain ⟨M, c, a, hPf⟩ := pf_ex p k
  have HP : Hid (∀ w, Tb w → Calls Tryz.prog 12 #[.int .i64 p, .int .i64 k] w fun e w' => e = .returned (.tuple #[.int .i64 M, .agg #[.int .i64 c, .int .i64 a]]) ∧ Below w.heap.size w w') := fun w h => powerOf_any p k M c a w hPf h
  have HT : Hid (Tb (w.alloc (.cells #[.int .i64 0, .int .i64 0] 25))) := hT.alloc _
  have HS0 : Hid (Sv w.heap.size 0 0 (w.alloc (.cells #[.int .i64 0, .int .i64 0] 25))) := Sv.new 0 0 w
  have HK0 : Hid (Below w.heap.size w (w.alloc (.cells #[.int .i64 0, .int .i64 0] 25))) := (Below.refl _ w).alloc (Nat.le_refl _) _
  have HIS : Hid (IS w s l) := hs
  obtain ⟨aa, g, o, cap, rfl, _⟩ := hs
  clear hT
  go_enter Tryz.func10, Tryz.ntmps10
  go_wp2_with fail
  refine (HP.out _ HT.out).mono ?_
  rintro e w1 ⟨rfl, k1⟩
  have S1 := HS0.out.below k1
  have K1 : Below w.heap.size w w1 := HK0.out.trans (k1.mono (by simp))
  clear k1 HP HT HS0 HK0
  rcases hPf.good with ⟨rfl, rfl, P, K, hg⟩ | ⟨hc0, rfl, hc⟩
  · clear hPf
    have HG : Hid (Pg p k M P K) := hg
    obtain rfl := hg.p
    obtain rfl := hg.k
    have hP2 := hg.p2
    have hP6 := hg.p6
    have hK1 := hg.k1
    have hK6 := hg.k6
    obtain ⟨N, hN⟩ : ∃ N, N = P ^ K := ⟨_, rfl⟩
    have HN : Hid (N = P ^ K) := hN
    have hMN : M = (N : Int) := by rw [hN]; exact hg.m
    subst hMN
    have hN18 : N ≤ 1000000000000000000 := by rw [hN]; exact hg.m18
    have hPN : P ≤ N := by rw [hN]; exact Nat.le_self_pow (by omega) P
    have HPr : Hid (Pr P) := hg.pr
    clear hN
    obtain ⟨c, a, hpl⟩ := plf_ex l
    have HPl : Hid (Plf l c a) := hpl
    have hpc := hpl.code
    have HCP : Hid (∀ w, IS w (.slice aa l.length cap) l → Calls Tryz.prog 13 #[.slice aa l.length cap] w fun e w' => e = .returned (.agg #[.int .i64 c, .int .i64 a]) ∧ Below w.heap.size w w') := fun w h => checkPolynomial_any _ l c a w h hl hpl
    have S2 := S1.alloc #[.int .i64 0, .int .i64 0] 25
    have K2 : Below w.heap.size w (w1.alloc (.cells #[.int .i64 0, .int .i64 0] 25)) := K1.alloc (by have := S1.lt; omega) _
    clear hg hpl S1 K1
    go_wp2_with fail
    generalize hW2 : w1.alloc (.cells #[.int .i64 0, .int .i64 0] 25) = W2 at S2 K2 ⊢
    clear hW2
    refine (HCP.out W2 (HIS.out.belowP K2)).mono ?_
    rintro e w1 ⟨rfl, k1⟩
    have S1 := S2.below k1
    have K1 : Below w.heap.size w w1 := K2.trans (k1.mono (by have := S2.lt; omega))
    clear k1 S2 K2 HCP
    by_cases hc0 : c = 0
    · subst hc0
      obtain ⟨rfl, hl13, hnum⟩ := HPl.out.good
      obtain ⟨c, a, hck⟩ := ck_ex P l x
      have HCk : Hid (Ck P l x c a) := hck
      have hcc := hck.code
      have HCS : Hid (∀ w, IS w (.slice aa l.length cap) l → Calls Tryz.prog 25 #[.int .i64 P, .slice aa l.length cap, .int .i64 x] w fun e w' => e = .returned (.agg #[.int .i64 c, .int .i64 a]) ∧ Below w.heap.size w w') := fun w h => checkStart_any P _ l x c a w hP2 hP6 h hl13 hnum hck
      have HNum : Hid (∀ i, i < l.length → numB (l.getD i 0) = true) := hnum
      have S2 := S1.alloc #[.int .i64 0, .int .i64 0] 25
      have K2 : Below w.heap.size w (w1.alloc (.cells #[.int .i64 0, .int .i64 0] 25)) := K1.alloc (by have := S1.lt; omega) _
      clear hck S1 K1 hnum
      go_wp2_with fail
      generalize hW2 : w1.alloc (.cells #[.int .i64 0, .int .i64 0] 25) = W2 at S2 K2 ⊢
      clear hW2
      refine (HCS.out W2 (HIS.out.belowP K2)).mono ?_
      rintro e w1 ⟨rfl, k1⟩
      have S1 := S2.below k1
      have K1 : Below w.heap.size w w1 := K2.trans (k1.mono (by have := S2.lt; omega))
      clear k1 S2 K2 HCS
      by_cases hc0 : c = 0
      · subst hc0
        obtain rfl := hcc.2.2.2.2 rfl
        obtain ⟨x0, x1, hv0, hd0⟩ := HCk.out.good
        have d0 := Int.emod_nonneg (dv l x) (show (P : Int) ≠ 0 by omega)
        have d1 := Int.emod_lt_of_pos (dv l x) (show 0 < (P : Int) by omega)
        have hn4 : ∀ i, i < l.length → (l.getD i 0).natAbs ≤ 4000000000000000000 := fun i hi => Nat.le_trans (num_abs (HNum.out i hi)) (by decide)
        obtain ⟨D, hD⟩ : ∃ D, D = dv l x % (P : Int) := ⟨_, rfl⟩
        have HSl : Hid (∀ w, IS w (.slice aa l.length cap) l → Calls Tryz.prog 27 #[.slice aa l.length cap, .int .i64 x, .int .i64 P] w fun e w' => e = .returned (.int .i64 D) ∧ Below w.heap.size w w') := by
          intro w h
          rw [hD]
          exact slopeAt_any _ l x P w h (by omega) hn4 (by omega) (by omega) (by omega)
        rw [← hD] at d0 d1 hd0
        have HIn : Hid (∀ w, Calls Tryz.prog 26 #[.int .i64 D, .int .i64 P] w fun e w' => ∃ u : Int, e = .returned (.tuple #[.int .i64 u, .agg #[.int .i64 0, .int .i64 0]]) ∧ 0 ≤ u ∧ u < P ∧ (u * D) % P = 1 % P ∧ Below w.heap.size w w') := fun w => Inverse_ok D P w (by simp [okB, numB]; omega) (by omega) (gcd_one HPr.out (by omega) d1)
        have HVal : Hid (∀ (y : Nat), y < N → ∀ w, IS w (.slice aa l.length cap) l → Calls Tryz.prog 30 #[.slice aa l.length cap, .int .i64 y, .int .i64 N] w fun e w' => e = .returned (.int .i64 (pv l y % (N : Int))) ∧ ∃ q, w' = w.drewN q) := fun y hy w h => valueAt_any _ l y N w h (by omega) hn4 (by omega) (by omega) hN18
        have HV0 : Hid (pv l x % (P : Int) = 0) := hv0
        have HDe : Hid (D = dv l x % (P : Int)) := hD
        have S2 := S1.alloc #[.int .i64 0, .int .i64 0] 25
        have K2 : Below w.heap.size w (w1.alloc (.cells #[.int .i64 0, .int .i64 0] 25)) := K1.alloc (by have := S1.lt; omega) _
        clear hn4 hD S1 K1 hv0
        go_wp2_with fail
        generalize hW2 : w1.alloc (.cells #[.int .i64 0, .int .i64 0] 25) = W2 at S2 K2 ⊢
        clear hW2
        refine (HSl.out W2 (HIS.out.belowP K2)).mono ?_
        rintro e w3 ⟨rfl, k3⟩
        have S3 := S2.below k3
        have K3 : Below w.heap.size w w3 := K2.trans (k3.mono (by have := S2.lt; omega))
        clear k3 S2 K2 HSl
        go_wp2_with fail
        refine (HIn.out w3).mono ?_
        rintro e w4 ⟨u, rfl, hu0, hu1, hu, k4⟩
        have S4 := S3.below k4
        have K4 : Below w.heap.size w w4 := K3.trans (k4.mono (by have := S3.lt; omega))
        have HU : Hid ((P : Int) ∣ dv l x * u - 1) := inv_ok HPr.out (by rw [← HDe.out]; exact hu)
        obtain ⟨U, hU⟩ : ∃ U : Nat, u = U := ⟨u.toNat, by omega⟩
        obtain ⟨X, hX⟩ : ∃ X : Nat, x = X := ⟨x.toNat, by omega⟩
        have HUU : Hid (u = U) := hU
        have HXX : Hid (x = X) := hX
        have S5 := S4.alloc #[.int .i64 0, .int .i64 0] 25
        have K5 : Below w.heap.size w (w4.alloc (.cells #[.int .i64 0, .int .i64 0] 25)) := K4.alloc (by have := S4.lt; omega) _
        clear k4 S3 K3 S4 K4 hu HIn
        subst hX
        obtain ⟨K', hK'⟩ : ∃ K' : Nat, K = K' + 1 := ⟨K - 1, by omega⟩
        have hK1i : (K : Int) - 1 = (K' : Int) := by omega
        have HKK : Hid (K = K' + 1) := hK'
        clear hK'
        go_wp2
        generalize hW5 : w4.alloc (.cells #[.int .i64 0, .int .i64 0] 25) = W5 at S5 K5 ⊢
        clear hW5
        have HS5 : Hid (Sv w.heap.size 0 0 W5) := S5
        have HK5 : Hid (Below w.heap.size w W5) := K5
        clear S5 K5
        have hXN : X < N := by omega
        have HB0 : Hid (((P : Int) ^ (0 + 1)) ∣ pv l (X : Int)) := by
          show _ ∣ _
          rw [show (0 : Nat) + 1 = 1 from rfl, Int.pow_succ, Int.pow_zero, Int.one_mul]
          exact Int.dvd_of_emod_eq_zero HV0.out
        subst hU
        go_loopw [3, 51] (fun xv iv wx => ∃ i y : Nat, i ≤ K' ∧ iv = .int .i64 i ∧ xv = .int .i64 y ∧ y < N ∧ Hid ((P : Int) ∣ (y : Int) - (X : Int) ∧ ((P : Int) ^ (i + 1)) ∣ pv l y ∧ Below W5.heap.size W5 wx)) (fun _ iv _ => K' - (intOf iv).toNat)
        case atStart => exact ⟨0, X, Nat.zero_le _, rfl, rfl, hXN, by simp, HB0.out, Below.refl _ _⟩
        case round =>
          obtain ⟨i, y, hi, rfl, rfl, hy, HR⟩ := hrel
          by_cases hlt : i < K'
          · have v0 := Int.emod_nonneg (pv l (y : Int)) (show (N : Int) ≠ 0 by omega)
            have v1 := Int.emod_lt_of_pos (pv l (y : Int)) (show 0 < (N : Int) by omega)
            obtain ⟨V, hV⟩ : ∃ V : Nat, (V : Int) = pv l y % (N : Int) := ⟨(pv l y % (N : Int)).toNat, by omega⟩
            have hVN : V < N := by omega
            have HVal2 : Hid (∀ w, IS w (.slice aa l.length cap) l → Calls Tryz.prog 30 #[.slice aa l.length cap, .int .i64 y, .int .i64 N] w fun e w' => e = .returned (.int .i64 (V : Int)) ∧ ∃ q, w' = w.drewN q) := by
              rw [hV]; exact HVal.out y hy
            obtain ⟨z, hz⟩ : ∃ z, z = V * U % N := ⟨_, rfl⟩
            have hzN : z < N := by rw [hz]; exact Nat.mod_lt _ (by omega)
            have b0 := Int.emod_nonneg ((y : Int) - (z : Int)) (show (N : Int) ≠ 0 by omega)
            have b1 := Int.emod_lt_of_pos ((y : Int) - (z : Int)) (show 0 < (N : Int) by omega)
            obtain ⟨y', hy'⟩ : ∃ y' : Nat, (y' : Int) = ((y : Int) - (z : Int)) % (N : Int) := ⟨(((y : Int) - (z : Int)) % (N : Int)).toNat, by omega⟩
            have hyN : y' < N := by omega
            have HSt : Hid ((P : Int) ∣ (y' : Int) - (X : Int) ∧ ((P : Int) ^ (i + 1 + 1)) ∣ pv l y') := lift_step (K := K) (by have := HKK.out; omega) HR.out.1 HR.out.2.1 HU.out (by rw [← HN.out]; exact hV) U rfl z (by rw [← HN.out]; exact hz) (by rw [← HN.out]; exact hy')
            have HZ : Hid (V * U % N = z) := hz.symm
            have HY : Hid (((y : Int) - (z : Int)) % (N : Int) = (y' : Int)) := hy'.symm
            have hUN : U < N := by omega
            clear v0 v1 hV hz b0 b1 hy'
            go_wp2_with fail
            refine (HVal2.out wr (HIS.out.belowP (HK5.out.trans (HR.out.2.2.mono (by have := HS5.out.lt; omega))))).mono ?_
            rintro e w6 ⟨rfl, q6, rfl⟩
            go_wp2_with fail
            refine (productLeft_any V U N _ hVN hUN hN18).mono ?_
            rw [HZ.out]
            rintro e w7 ⟨rfl, q7, rfl⟩
            go_wp2_with fail
            refine (left_any ((y : Int) - (z : Int)) N _ (by omega) (by omega) (by omega)).mono ?_
            rw [HY.out]
            rintro e w8 ⟨rfl, hw8⟩
            rw [hw8]
            clear hw8 w8
            go_wp2
            go_roundw
            case rel => exact ⟨i + 1, y', by omega, by go_num, rfl, hyN, HSt.out.1, HSt.out.2, by first | exact below_drewN' HR.out.2.2 | exact below_drewN' (below_drewN' HR.out.2.2)⟩
            case measure => simp [intOf]; omega
          · obtain rfl : i = K' := by omega
            have S6 := HS5.out.below HR.out.2.2
            have K6 : Below w.heap.size w wr := HK5.out.trans (HR.out.2.2.mono (by have := HS5.out.lt; omega))
            have HK6 : Hid (Below w.heap.size w wr) := K6
            have HS6 : Hid (Sv w.heap.size 0 0 wr) := S6
            have q0 := S6.c0
            have q1 := S6.c1
            have q2 := S6.f0
            have q3 := S6.f1
            have HO : Hid (LiOut P K l X y 0 0) := by
              refine .inr ⟨N, P, K, HG.out, .inr ⟨HPl.out, .inr ⟨HCk.out, rfl, rfl, by omega, by omega, ?_, ?_⟩⟩⟩
              · obtain ⟨t, ht⟩ := HR.out.1
                have e : (y : Int) = X + P * t := by omega
                rw [e, Int.add_mul_emod_self_left, Int.emod_eq_of_lt x0 x1]
              · have h := HR.out.2.1
                rw [← HKK.out] at h
                have e : (P : Int) ^ K = (N : Int) := by rw [HN.out]; simp
                rw [e] at h
                exact Int.emod_eq_zero_of_dvd h
            clear S6 K6
            go_wp2
            have z0 := (HS6.out.set 0 0).c0
            have z1 := (HS6.out.set 0 0).c1
            exact bodyPost_ret (v := .tuple #[.int .i64 (y : Int), .agg #[.int .i64 0, .int .i64 0]]) (by simp [results, Tryz.results10, go_sem, z0, z1]) rfl ⟨y, 0, 0, rfl, HO.out, (HK6.out.setCell (by simp) _).setCell (by simp) _⟩
      · have HO : Hid (LiOut P K l x 0 c a) := .inr ⟨N, P, K, HG.out, .inr ⟨HPl.out, .inl ⟨rfl, hc0, HCk.out⟩⟩⟩
        have hcb : (c != 0) = true := by simp [bne]; exact hc0
        clear hc0
        have hz : w.heap.size < w1.heap.size := S1.lt
        have q0 := S1.c0
        have q1 := S1.c1
        have q2 := S1.f0
        have q3 := S1.f1
        have HK1 : Hid (Below w.heap.size w w1) := K1
        clear S1 K1
        go_wp2
        go_region
        all_goals
          go_wp2
          exact bodyPost_ret (v := .tuple #[.int .i64 0, .agg #[.int .i64 c, .int .i64 a]]) (by simp [results, Tryz.results10, go_sem, q0, q1, hz]) rfl ⟨0, c, a, rfl, HO.out, Below.drew (Below.alloc (Below.setCell (Below.setCell HK1.out (by simp) _) (by simp) _) (by simp; omega) _)⟩
    · have HO : Hid (LiOut P K l x 0 c a) := .inr ⟨N, P, K, HG.out, .inl ⟨rfl, hc0, HPl.out⟩⟩
      have hcb : (c != 0) = true := by simp [bne]; exact hc0
      clear hc0
      have hz : w.heap.size < w1.heap.size := S1.lt
      have q0 := S1.c0
      have q1 := S1.c1
      have q2 := S1.f0
      have q3 := S1.f1
      have HK1 : Hid (Below w.heap.size w w1) := K1
      clear S1 K1
      go_wp2
      go_region
      all_goals
        go_wp2
        exact bodyPost_ret (v := .tuple #[.int .i64 0, .agg #[.int .i64 c, .int .i64 a]]) (by simp [results, Tryz.results10, go_sem, q0, q1, hz]) rfl ⟨0, c, a, rfl, HO.out, Below.drew (Below.alloc (Below.setCell (Below.setCell HK1.out (by simp) _) (by simp) _) (by simp; omega) _)⟩
  · have HO : Hid (LiOut p k l x 0 c a) := .inl ⟨rfl, hc0, _, hPf⟩
    have hcb : (c != 0) = true := by simp [bne]; exact hc0
    clear hc0 hPf
    have hz : w.heap.size < w1.heap.size := S1.lt
    have q0 := S1.c0
    have q1 := S1.c1
    have q2 := S1.f0
    have q3 := S1.f1
    have HK1 : Hid (Below w.heap.size w w1) := K1
    clear S1 K1
    go_wp2
    go_region
    all_goals
      go_wp2
      exact bodyPost_ret (v := .tuple #[.int .i64 0, .agg #[.int .i64 c, .int .i64 a]]) (by simp [results, Tryz.results10, go_sem, q0, q1, hz]) rfl ⟨0, c, a, rfl, HO.out, Below.drew (Below.alloc (Below.setCell (Below.setCell HK1.out (by simp) _) (by simp) _) (by simp; omega) _)⟩

end Go.Proofs.YtidndbdjhapfaaaGreatDoor
