import Derived.Test.YtidndbdjhapfaaaGreatDoorPwC
import Derived.Test.YtidndbdjhapfaaaGreatDoorBkA
import Derived.Test.YtidndbdjhapfaaaGreatDoorBigP
import Derived.Test.YtidndbdjhapfaaaGreatDoorBigG
import Derived.Test.YtidndbdjhapfaaaGreatDoorJoinA
section
/- The reference's IsPrime of numbers up to 1000000. -/
set_option linter.unusedSimpArgs false
set_option linter.unusedVariables false
set_option maxRecDepth 100000
namespace Go.Proofs.YtidndbdjhapfaaaGreatDoor
open Go.RowKit

theorem pr_trial {n d : Nat} (hn : 2 ≤ n) (h : ∀ e, 2 ≤ e → e < d → n % e ≠ 0) (hd : n < d * d) : Pr n := by
  refine ⟨hn, fun c hc => ?_⟩
  obtain ⟨m, rfl⟩ := hc
  by_cases h1 : c = 1
  · exact .inl h1
  · right
    have c0 : c ≠ 0 := by rintro rfl; simp at hn
    have m0 : m ≠ 0 := by rintro rfl; simp at hn
    by_cases hm : m = 1
    · rw [hm, Nat.mul_one]
    · exfalso
      rcases Nat.lt_or_ge c d with h2 | h2
      · exact h c (by omega) h2 (Nat.mul_mod_right ..)
      · rcases Nat.lt_or_ge m d with h3 | h3
        · exact h m (by omega) h3 (Nat.mul_mod_left ..)
        · have := Nat.mul_le_mul h2 h3; omega

set_option maxHeartbeats 400000 in
theorem refIsPrime_small (n : Nat) (b : Bool) (w : World) (hn : 2 ≤ n) (hn2 : n ≤ 1000000) (hb : b = true ↔ Pr n) :
    Calls Tryz.prog 16 #[.int .i64 n] w fun e w' => e = .returned (.bool b) ∧ w' = w := by
  have HB : Hid (b = true ↔ Pr n) := hb
  have h1 : decide ((n : Int) < 2) = false := decide_eq_false (by omega)
  have h2 : decide (100000000 < (n : Int)) = false := decide_eq_false (by omega)
  clear hb
  go_enter Tryz.func16, Tryz.ntmps16
  go_wp2
  go_loop [3] (fun dv => ∃ d : Nat, 2 ≤ d ∧ d ≤ 1001 ∧ dv = .int .i64 d ∧ Hid (∀ e, 2 ≤ e → e < d → n % e ≠ 0)) (fun dv => 2000 - (intOf dv).toNat)
  case atStart => exact ⟨2, by omega, by omega, rfl, fun e h1 h2 => by omega⟩
  case round =>
    obtain ⟨d, hd1, hd2, rfl, HR⟩ := hrel
    obtain ⟨q, gq⟩ : ∃ q, q = d * d := ⟨_, rfl⟩
    have hqi : (d : Int) * (d : Int) = (q : Int) := by rw [gq]; simp
    have hql : q ≤ 1002001 := by
      rw [gq]; have := Nat.mul_le_mul hd2 hd2; omega
    by_cases hq : q ≤ n
    · have hqb : decide ((q : Int) ≤ (n : Int)) = true := decide_eq_true (by omega)
      have hd0 : ((d : Int) == 0) = false := beq_eq_false_iff_ne.2 (by omega)
      have hd1000 : d ≤ 1000 := by
        rcases Nat.lt_or_ge 1000 d with h | h
        · have := Nat.mul_le_mul (show 1001 ≤ d by omega) (show 1001 ≤ d by omega); omega
        · exact h
      obtain ⟨r, gr⟩ : ∃ r, r = n % d := ⟨_, rfl⟩
      have hri : (n : Int) % (d : Int) = (r : Int) := by rw [gr]; simp
      by_cases hr : r = 0
      · have hrb : ((r : Int) == 0) = true := by rw [hr]; rfl
        have hbf : b = false := by
          cases b
          · rfl
          · exfalso
            have hp := HB.out.1 rfl
            rcases hp.2 d (Nat.dvd_of_mod_eq_zero (by omega)) with h | h
            · omega
            · have : d * 2 ≤ d * d := Nat.mul_le_mul_left d hd1
              omega
        have HBF : Hid (b = false) := hbf
        clear hr gq gr hbf
        go_wp2
        go_ret
        rw [HBF.out]
        exact ⟨rfl, rfl⟩
      · have hrb : ((r : Int) == 0) = false := beq_eq_false_iff_ne.2 (by omega)
        have HN : Hid (∀ e, 2 ≤ e → e < d + 1 → n % e ≠ 0) := by
          intro e he1 he2
          by_cases h : e = d
          · subst h; omega
          · exact HR.out e he1 (by omega)
        clear hr gq gr
        go_wp2
        go_round
        case rel => exact ⟨d + 1, by omega, by omega, by go_num, HN.out⟩
        case measure => simp [intOf]; omega
    · have hqb : decide ((q : Int) ≤ (n : Int)) = false := decide_eq_false (by omega)
      have HBT : Hid (b = true) := HB.out.2 (pr_trial hn HR.out (by omega))
      clear gq
      go_wp2
      go_ret
      rw [HBT.out]
      exact ⟨rfl, rfl⟩

end Go.Proofs.YtidndbdjhapfaaaGreatDoor
end

section
/- The reference's PadicFault. -/
set_option linter.unusedSimpArgs false
set_option linter.unusedVariables false
set_option maxRecDepth 100000
namespace Go.Proofs.YtidndbdjhapfaaaGreatDoor
open Go.RowKit

set_option maxHeartbeats 2000000 in
theorem refPadicFault_any (p k M c a : Int) (w : World) (h : Pf p k M c a) :
    Calls Tryz.prog 6 #[.int .i64 p, .int .i64 k] w fun e w' => e = .returned (.tuple #[.int .i64 M, .agg #[.int .i64 c, .int .i64 a]]) ∧ Below w.heap.size w w' := by
  have HS0 : Hid (Sv w.heap.size 0 0 (w.alloc (.cells #[.int .i64 0, .int .i64 0] 25))) := Sv.new 0 0 w
  have HK0 : Hid (Below w.heap.size w (w.alloc (.cells #[.int .i64 0, .int .i64 0] 25))) := (Below.refl _ w).alloc (Nat.le_refl _) _
  rcases h with ⟨h, rfl, rfl, rfl⟩ | ⟨P, rfl, hP2, hP6, h⟩
  · by_cases h1 : p < 2
    · have hb : decide (p < 2) = true := decide_eq_true h1
      clear h
      go_enter Tryz.func6, Tryz.ntmps6
      go_wp2_with fail
      refine (F_any 3 0 _).mono ?_
      rintro e w3 ⟨rfl, k3⟩
      have S3 := HS0.out.below k3
      have K3 := HK0.out.trans (k3.mono (by simp))
      have q0 := S3.c0
      have q1 := S3.c1
      have q2 := S3.f0
      have q3 := S3.f1
      have z0 := (S3.set 3 0).c0
      have z1 := (S3.set 3 0).c1
      clear S3 k3
      go_wp2
      exact bodyPost_ret (v := .tuple #[.int .i64 0, .agg #[.int .i64 3, .int .i64 0]]) (by simp [results, Tryz.results6, go_sem, z0, z1]) rfl ⟨rfl, (K3.setCell (by simp) _).setCell (by simp) _⟩
    · have hb : decide (p < 2) = false := decide_eq_false h1
      have hb2 : decide (1000000 < p) = true := decide_eq_true (by omega)
      clear h h1
      go_enter Tryz.func6, Tryz.ntmps6
      go_wp2_with fail
      refine (F_any 3 0 _).mono ?_
      rintro e w3 ⟨rfl, k3⟩
      have S3 := HS0.out.below k3
      have K3 := HK0.out.trans (k3.mono (by simp))
      have q0 := S3.c0
      have q1 := S3.c1
      have q2 := S3.f0
      have q3 := S3.f1
      have z0 := (S3.set 3 0).c0
      have z1 := (S3.set 3 0).c1
      clear S3 k3
      go_wp2
      exact bodyPost_ret (v := .tuple #[.int .i64 0, .agg #[.int .i64 3, .int .i64 0]]) (by simp [results, Tryz.results6, go_sem, z0, z1]) rfl ⟨rfl, (K3.setCell (by simp) _).setCell (by simp) _⟩
  · obtain ⟨b, hb⟩ : ∃ b : Bool, b = true ↔ Pr P := ⟨@decide (Pr P) (Classical.propDecidable _), by simp⟩
    have HI : Hid (∀ w, Calls Tryz.prog 16 #[.int .i64 P] w fun e w' => e = .returned (.bool b) ∧ w' = w) := fun w => refIsPrime_small P b w hP2 hP6 hb
    have h1 : decide ((P : Int) < 2) = false := decide_eq_false (by omega)
    have h2 : decide (1000000 < (P : Int)) = false := decide_eq_false (by omega)
    have HB : Hid (b = true ↔ Pr P) := hb
    have HH : Hid ((¬ Pr P ∧ M = 0 ∧ c = 7 ∧ a = 0) ∨ (Pr P ∧ (((k < 1 ∨ 60 < k) ∧ M = 0 ∧ c = 3 ∧ a = 1) ∨
      ∃ K : Nat, k = K ∧ 1 ≤ K ∧ K ≤ 60 ∧ ((1000000000000000000 < P ^ K ∧ M = 0 ∧ c = 9 ∧ a = 1) ∨ (P ^ K ≤ 1000000000000000000 ∧ M = (P ^ K : Nat) ∧ c = 0 ∧ a = 0))))) := h
    clear hb h
    go_enter Tryz.func6, Tryz.ntmps6
    go_wp2_with fail
    refine (HI.out _).mono ?_
    rintro e w1 ⟨rfl, hw1⟩
    rw [hw1]
    clear hw1 w1 HI
    rcases HH.out with ⟨hp, rfl, rfl, rfl⟩ | ⟨hp, hk⟩
    · obtain rfl : b = false := by
        cases b
        · rfl
        · exact absurd (HB.out.1 rfl) hp
      go_wp2_with fail
      refine (F_any 7 0 _).mono ?_
      rintro e w3 ⟨rfl, k3⟩
      have S3 := HS0.out.below k3
      have K3 := HK0.out.trans (k3.mono (by simp))
      have q0 := S3.c0
      have q1 := S3.c1
      have q2 := S3.f0
      have q3 := S3.f1
      have z0 := (S3.set 7 0).c0
      have z1 := (S3.set 7 0).c1
      clear S3 k3
      go_wp2
      exact bodyPost_ret (v := .tuple #[.int .i64 0, .agg #[.int .i64 7, .int .i64 0]]) (by simp [results, Tryz.results6, go_sem, z0, z1]) rfl ⟨rfl, (K3.setCell (by simp) _).setCell (by simp) _⟩
    · obtain rfl : b = true := HB.out.2 hp
      rcases hk with ⟨hk, rfl, rfl, rfl⟩ | ⟨K, rfl, hK1, hK6, hk⟩
      · by_cases h3 : k < 1
        · have h3b : decide (k < 1) = true := decide_eq_true h3
          clear hk h3
          go_wp2_with fail
          refine (F_any 3 1 _).mono ?_
          rintro e w3 ⟨rfl, k3⟩
          have S3 := HS0.out.below k3
          have K3 := HK0.out.trans (k3.mono (by simp))
          have q0 := S3.c0
          have q1 := S3.c1
          have q2 := S3.f0
          have q3 := S3.f1
          have z0 := (S3.set 3 1).c0
          have z1 := (S3.set 3 1).c1
          clear S3 k3
          go_wp2
          exact bodyPost_ret (v := .tuple #[.int .i64 0, .agg #[.int .i64 3, .int .i64 1]]) (by simp [results, Tryz.results6, go_sem, z0, z1]) rfl ⟨rfl, (K3.setCell (by simp) _).setCell (by simp) _⟩
        · have h3b : decide (k < 1) = false := decide_eq_false h3
          have h3c : decide (60 < k) = true := decide_eq_true (by omega)
          clear hk h3
          go_wp2_with fail
          refine (F_any 3 1 _).mono ?_
          rintro e w3 ⟨rfl, k3⟩
          have S3 := HS0.out.below k3
          have K3 := HK0.out.trans (k3.mono (by simp))
          have q0 := S3.c0
          have q1 := S3.c1
          have q2 := S3.f0
          have q3 := S3.f1
          have z0 := (S3.set 3 1).c0
          have z1 := (S3.set 3 1).c1
          clear S3 k3
          go_wp2
          exact bodyPost_ret (v := .tuple #[.int .i64 0, .agg #[.int .i64 3, .int .i64 1]]) (by simp [results, Tryz.results6, go_sem, z0, z1]) rfl ⟨rfl, (K3.setCell (by simp) _).setCell (by simp) _⟩
      · have h3b : decide ((K : Int) < 1) = false := decide_eq_false (by omega)
        have h3c : decide (60 < (K : Int)) = false := decide_eq_false (by omega)
        have HF : Hid ((1000000000000000000 < P ^ K ∧ M = 0 ∧ c = 9 ∧ a = 1) ∨ (P ^ K ≤ 1000000000000000000 ∧ M = (P ^ K : Nat) ∧ c = 0 ∧ a = 0)) := hk
        clear hk hp
        obtain ⟨N, gN⟩ : ∃ N, N = P ^ K := ⟨_, rfl⟩
        have HNI : Hid ((P : Int) ^ K = (N : Int)) := by show _ = _; rw [gN]; simp
        have HNB : Hid (N < pw 121) := by
          show _ < _
          have h1 : P ^ K ≤ (2 ^ 20) ^ K := Nat.pow_le_pow_left (by omega) K
          have h2 : (2 ^ 20) ^ K ≤ (2 ^ 20 : Nat) ^ 60 := Nat.pow_le_pow_right (by decide) hK6
          have h3 : ((2 : Nat) ^ 20) ^ 60 < pw 121 := by decide +kernel
          omega
        rw [← gN] at HF
        clear gN
        have HB0 : Hid (Bk (w.alloc (.cells #[.int .i64 0, .int .i64 0] 25)) ((w.alloc (.cells #[.int .i64 0, .int .i64 0] 25)).alloc (.cells #[.bool false, .slice none 0 0] 43)) (w.heap.size + 1) [] [w.heap.size + 1]) := by
          have h : Bk (w.alloc (.cells #[.int .i64 0, .int .i64 0] 25)) (w.alloc (.cells #[.int .i64 0, .int .i64 0] 25)) (w.heap.size + 1) [] [] := ⟨Below.refl _ _, by simp, by simp, by simp⟩
          have := h.alloc (.bool false) (.slice none 0 0)
          rw [World.size_alloc] at this
          exact this
        go_wp2_with fail
        refine (B_any (P : Int) _ (by omega) (by omega)).mono ?_
        rintro e w2 ⟨b2, rfl, m2⟩
        have HB2 := HB0.out.made m2
        have HB2 : Hid (Bk (w.alloc (.cells #[.int .i64 0, .int .i64 0] 25)) w2 (w.heap.size + 1) [(b2, (P : Int))] [w.heap.size + 1]) := HB2
        have g2 : w.heap.size + 1 < b2 := by have := m2.1; simp at this; omega
        clear m2 HB0
        go_wp2_with fail
        refine (B_any (K : Int) _ (by omega) (by omega)).mono ?_
        rintro e w3 ⟨b3, rfl, m3⟩
        have HB3 : Hid (Bk (w.alloc (.cells #[.int .i64 0, .int .i64 0] 25)) w3 (w.heap.size + 1) [(b3, (K : Int)), (b2, (P : Int))] [w.heap.size + 1]) := HB2.out.made m3
        clear m3 HB2
        go_wp2_with fail
        refine (Exp_nil (w.heap.size + 1) b2 b3 (P : Int) K 2 2 w3 (HB3.out.fr _ (by simp)) (HB3.out.big (b2, (P : Int)) (by simp)) (HB3.out.big (b3, (K : Int)) (by simp)) (by rw [pw_two]; omega) (by rw [pw_two]; omega) (by omega) (by omega) (by omega)).mono ?_
        rw [HNI.out]
        rintro e w4 ⟨rfl, h4, u4⟩
        have HB4 : Hid (Bk (w.alloc (.cells #[.int .i64 0, .int .i64 0] 25)) w4 (w.heap.size + 1) [(w.heap.size + 1, (N : Int))] []) := HB3.out.upd (HB3.out.fr _ (by simp)) (Nat.le_refl _) h4 u4 (by simp) (by simp)
        clear h4 u4 HB3
        go_wp2_with fail
        refine (B_any 1000000000000000000 _ (by omega) (by omega)).mono ?_
        rintro e w5 ⟨b5, rfl, m5⟩
        have HB5 : Hid (Bk (w.alloc (.cells #[.int .i64 0, .int .i64 0] 25)) w5 (w.heap.size + 1) [(b5, 1000000000000000000), (w.heap.size + 1, (N : Int))] []) := HB4.out.made m5
        clear m5 HB4
        go_wp2_with fail
        refine (Cmp_any (w.heap.size + 1) b5 (N : Int) 1000000000000000000 121 2 w5 (HB5.out.big (w.heap.size + 1, (N : Int)) (by simp)) (HB5.out.big (b5, 1000000000000000000) (by simp)) (by simpa using HNB.out) (by rw [pw_two]; decide) (by omega) (by omega)).mono ?_
        rintro e w6 ⟨rfl, q6, rfl⟩
        have HB6 : Hid (Bk (w.alloc (.cells #[.int .i64 0, .int .i64 0] 25)) (w5.drewN q6) (w.heap.size + 1) [(w.heap.size + 1, (N : Int))] []) := ⟨HB5.out.drewN.bel, HB5.out.drewN.le, fun p hp => HB5.out.drewN.big p (List.mem_cons_of_mem _ hp), HB5.out.drewN.fr⟩
        generalize hW6 : w5.drewN q6 = W6 at HB6 ⊢
        clear hW6 HB5
        rcases HF.out with ⟨h5, rfl, rfl, rfl⟩ | ⟨h5, hM, rfl, rfl⟩
        · have hcm : cmpZ (N : Int) 1000000000000000000 = 1 := by unfold cmpZ; rw [if_neg (by omega), if_pos (by omega)]
          rw [hcm]
          clear hcm h5
          go_wp2_with fail
          refine (F_any 9 1 _).mono ?_
          rintro e w7 ⟨rfl, k7⟩
          have KW := HB6.out.bel.trans (k7.mono HB6.out.le)
          have S3 := HS0.out.below (KW.mono (by simp))
          have K3 := HK0.out.trans (KW.mono (by omega))
          have q0 := S3.c0
          have q1 := S3.c1
          have q2 := S3.f0
          have q3 := S3.f1
          have z0 := (S3.set 9 1).c0
          have z1 := (S3.set 9 1).c1
          clear S3 k7 KW
          go_wp2
          exact bodyPost_ret (v := .tuple #[.int .i64 0, .agg #[.int .i64 9, .int .i64 1]]) (by simp [results, Tryz.results6, go_sem, z0, z1]) rfl ⟨rfl, (K3.setCell (by simp) _).setCell (by simp) _⟩
        · obtain ⟨c0, hc0, hc1⟩ : ∃ c0, c0 = cmpZ (N : Int) 1000000000000000000 ∧ c0 ≤ 0 := ⟨_, rfl, by unfold cmpZ; split <;> (try split) <;> omega⟩
          have hc2 : -1 ≤ c0 := by rw [hc0]; exact (cmpZ_bounds _ _).1
          rw [← hc0]
          clear hc0
          have hcb : decide (0 < c0) = false := decide_eq_false (by omega)
          subst hM
          go_wp2_with fail
          refine (Int64_any (w.heap.size + 1) (N : Int) W6 (HB6.out.big (w.heap.size + 1, (N : Int)) (by simp)) (by omega)).mono ?_
          rintro e w7 ⟨rfl, q7, rfl⟩
          have KW := below_drewN' (n := q7) HB6.out.bel
          generalize hW7 : W6.drewN q7 = W7 at KW ⊢
          clear hW7
          have S3 := HS0.out.below (KW.mono (by simp))
          have K3 := HK0.out.trans (KW.mono (by omega))
          have q0 := S3.c0
          have q1 := S3.c1
          have q2 := S3.f0
          have q3 := S3.f1
          have z0 := (S3.set 0 0).c0
          have z1 := (S3.set 0 0).c1
          clear S3 KW HB6
          go_wp2
          exact bodyPost_ret (v := .tuple #[.int .i64 (N : Int), .agg #[.int .i64 0, .int .i64 0]]) (by simp [results, Tryz.results6, go_sem, z0, z1]) rfl ⟨rfl, (K3.setCell (by simp) _).setCell (by simp) _⟩

end Go.Proofs.YtidndbdjhapfaaaGreatDoor
end
