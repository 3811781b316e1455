/- padic.powerOf. -/
import Derived.Test.YtidndbdjhapfaaaGreatDoorPwC
set_option linter.unusedSimpArgs false
set_option linter.unusedVariables false
set_option maxRecDepth 100000
namespace Go.Proofs.YtidndbdjhapfaaaGreatDoor
open Go.RowKit

theorem pw_le_mul {P i K : Nat} (hP : 2 ≤ P) (h : i ≤ K) : P ^ i ≤ P ^ K := Nat.pow_le_pow_right (by omega) h

set_option maxHeartbeats 1000000 in
theorem powerOf_any (p k M c a : Int) (w : World) (h : Pf p k M c a) (hT : Tb w) :
    Calls Tryz.prog 12 #[.int .i64 p, .int .i64 k] w fun e w' => e = .returned (.tuple #[.int .i64 M, .agg #[.int .i64 c, .int .i64 a]]) ∧ Below w.heap.size w w' := by
  rcases h with ⟨h, rfl, rfl, rfl⟩ | ⟨P, rfl, hP2, hP6, h⟩
  · by_cases h1 : p < 2
    · have hb : decide (p < 2) = true := decide_eq_true h1
      clear h h1
      go_enter Tryz.func12, Tryz.ntmps12
      go_wp2
      exact bodyPost_ret (v := .tuple #[.int .i64 0, .agg #[.int .i64 3, .int .i64 0]]) (by simp [results, Tryz.results12, go_sem]) rfl ⟨rfl, (Below.refl _ w).alloc (Nat.le_refl _) _⟩
    · have hb : decide (p < 2) = false := decide_eq_false h1
      have hb2 : decide (1000000 < p) = true := decide_eq_true (by omega)
      clear h h1
      go_enter Tryz.func12, Tryz.ntmps12
      go_wp2
      exact bodyPost_ret (v := .tuple #[.int .i64 0, .agg #[.int .i64 3, .int .i64 0]]) (by simp [results, Tryz.results12, go_sem]) rfl ⟨rfl, (Below.refl _ w).alloc (Nat.le_refl _) _⟩
  · obtain ⟨b, hb⟩ : ∃ b : Bool, b = true ↔ Pr P := ⟨@decide (Pr P) (Classical.propDecidable _), by simp⟩
    have HI : Hid (∀ w, Tb w → Calls Tryz.prog 32 #[.int .i64 P] w fun e w' => e = .returned (.tuple #[.bool b, .agg #[.int .i64 0, .int .i64 0]]) ∧ Below w.heap.size w w') := fun w h => Is_any P b w hP2 hP6 hb h
    have h1 : decide ((P : Int) < 2) = false := decide_eq_false (by omega)
    have h2 : decide (1000000 < (P : Int)) = false := decide_eq_false (by omega)
    have HB : Hid (b = true ↔ Pr P) := hb
    have HH : Hid ((¬ Pr P ∧ M = 0 ∧ c = 7 ∧ a = 0) ∨ (Pr P ∧ (((k < 1 ∨ 60 < k) ∧ M = 0 ∧ c = 3 ∧ a = 1) ∨
      ∃ K : Nat, k = K ∧ 1 ≤ K ∧ K ≤ 60 ∧ ((1000000000000000000 < P ^ K ∧ M = 0 ∧ c = 9 ∧ a = 1) ∨ (P ^ K ≤ 1000000000000000000 ∧ M = (P ^ K : Nat) ∧ c = 0 ∧ a = 0))))) := h
    have HT : Hid (Tb (w.alloc (.cells #[.int .i64 0, .int .i64 0] 25))) := hT.alloc _
    have HS0 : Hid (Sv w.heap.size 0 0 (w.alloc (.cells #[.int .i64 0, .int .i64 0] 25))) := Sv.new 0 0 w
    clear hb h hT
    go_enter Tryz.func12, Tryz.ntmps12
    go_wp2_with fail
    refine (HI.out _ HT.out).mono ?_
    rintro e w1 ⟨rfl, k1⟩
    have S1 := HS0.out.below k1
    have e0 : ∀ x : Obj, (w1.alloc x).cell? ⟨w.heap.size, 0, none⟩ = some (.int .i64 0) := fun x => (S1.below ((Below.refl _ _).alloc (Nat.le_refl _) x)).c0
    have e1 : ∀ x : Obj, (w1.alloc x).cell? ⟨w.heap.size, 1, none⟩ = some (.int .i64 0) := fun x => (S1.below ((Below.refl _ _).alloc (Nat.le_refl _) x)).c1
    have e2 : ∀ x : Obj, (w1.alloc x).frozen? ⟨w.heap.size, 0, none⟩ = false := fun x => (S1.below ((Below.refl _ _).alloc (Nat.le_refl _) x)).f0
    have e3 : ∀ x : Obj, (w1.alloc x).frozen? ⟨w.heap.size, 1, none⟩ = false := fun x => (S1.below ((Below.refl _ _).alloc (Nat.le_refl _) x)).f1
    have HLT : Hid (w.heap.size < w1.heap.size) := S1.lt
    have HS1 : Hid (Sv w.heap.size 0 0 w1) := S1
    have HK1 : Hid (∀ o, Below w.heap.size w (w1.alloc o)) := fun o => (((Below.refl _ w).alloc (Nat.le_refl _) _).trans (k1.mono (by simp))).alloc (Nat.le_of_lt HLT.out) _
    clear S1 k1 HI HT HS0
    rcases HH.out with ⟨hp, rfl, rfl, rfl⟩ | ⟨hp, hk⟩
    · obtain rfl : b = false := by
        cases b
        · rfl
        · exact absurd (HB.out.1 rfl) hp
      go_wp2
      have Z := (HS1.out.alloc #[.int .i64 0, .int .i64 0] 25).set 7 0
      have z0 := Z.c0
      have z1 := Z.c1
      exact bodyPost_ret (v := .tuple #[.int .i64 0, .agg #[.int .i64 7, .int .i64 0]]) (by simp [results, Tryz.results12, go_sem, z0, z1]) rfl ⟨rfl, ((HK1.out _).setCell (by simp) _).setCell (by simp) _⟩
    · obtain rfl : b = true := HB.out.2 hp
      rcases hk with ⟨hk, rfl, rfl, rfl⟩ | ⟨K, rfl, hK1, hK6, hk⟩
      · by_cases h3 : k < 1
        · have h3b : decide (k < 1) = true := decide_eq_true h3
          clear hk h3
          go_wp2
          have Z := (HS1.out.alloc #[.int .i64 0, .int .i64 0] 25).set 3 1
          have z0 := Z.c0
          have z1 := Z.c1
          exact bodyPost_ret (v := .tuple #[.int .i64 0, .agg #[.int .i64 3, .int .i64 1]]) (by simp [results, Tryz.results12, go_sem, z0, z1]) rfl ⟨rfl, ((HK1.out _).setCell (by simp) _).setCell (by simp) _⟩
        · have h3b : decide (k < 1) = false := decide_eq_false h3
          have h3c : decide (60 < k) = true := decide_eq_true (by omega)
          clear hk h3
          go_wp2
          have Z := (HS1.out.alloc #[.int .i64 0, .int .i64 0] 25).set 3 1
          have z0 := Z.c0
          have z1 := Z.c1
          exact bodyPost_ret (v := .tuple #[.int .i64 0, .agg #[.int .i64 3, .int .i64 1]]) (by simp [results, Tryz.results12, go_sem, z0, z1]) rfl ⟨rfl, ((HK1.out _).setCell (by simp) _).setCell (by simp) _⟩
      · have h3b : decide ((K : Int) < 1) = false := decide_eq_false (by omega)
        have h3c : decide (60 < (K : Int)) = false := decide_eq_false (by omega)
        have HF : Hid ((1000000000000000000 < P ^ K ∧ M = 0 ∧ c = 9 ∧ a = 1) ∨ (P ^ K ≤ 1000000000000000000 ∧ M = (P ^ K : Nat) ∧ c = 0 ∧ a = 0)) := hk
        clear hk hp
        go_wp2
        go_loop [8, 32] (fun xv iv => ∃ i x : Nat, i ≤ K ∧ iv = .int .i64 i ∧ xv = .int .i64 x ∧ x ≤ 1000000000000000000 ∧ Hid (x = P ^ i)) (fun _ iv => K - (intOf iv).toNat)
        case atStart => exact ⟨0, 1, Nat.zero_le _, rfl, rfl, by omega, by simp [Hid] <;> rfl⟩
        case round =>
          obtain ⟨i, x, hi, rfl, rfl, hx, HX⟩ := hrel
          by_cases hlt2 : i < K
          · obtain ⟨Q, hQ⟩ : ∃ Q : Nat, Q = 1000000000000000000 / P := ⟨_, rfl⟩
            have hQi : (1000000000000000000 : Int) / (P : Int) = (Q : Int) := by rw [hQ]; simp
            have hQt : (1000000000000000000 : Int).tdiv (P : Int) = (Q : Int) := by rw [Int.tdiv_eq_ediv_of_nonneg (by omega)]; exact hQi
            have hP0 : ((P : Int) == 0) = false := beq_eq_false_iff_ne.2 (by omega)
            have hQl : Q ≤ 1000000000000000000 := by rw [hQ]; exact Nat.div_le_self ..
            by_cases hm : Q < x
            · have hmb : decide ((Q : Int) < (x : Int)) = true := decide_eq_true (by omega)
              have hbig : 1000000000000000000 < P ^ K := by
                have h4 : 1000000000000000000 < x * P := by
                  have := (Nat.div_lt_iff_lt_mul (by omega)).1 (hQ ▸ hm)
                  exact this
                rw [HX.out, ← Nat.pow_succ] at h4
                exact Nat.lt_of_lt_of_le h4 (pw_le_mul hP2 (by omega))
              rcases HF.out with ⟨_, rfl, rfl, rfl⟩ | ⟨h5, _⟩
              · clear hQ hbig
                go_wp2
                have Z := (HS1.out.alloc #[.int .i64 0, .int .i64 0] 25).set 9 1
                have z0 := Z.c0
                have z1 := Z.c1
                exact bodyPost_ret (v := .tuple #[.int .i64 0, .agg #[.int .i64 9, .int .i64 1]]) (by simp [results, Tryz.results12, go_sem, z0, z1]) rfl ⟨rfl, ((HK1.out _).setCell (by simp) _).setCell (by simp) _⟩
              · omega
            · have hmb : decide ((Q : Int) < (x : Int)) = false := decide_eq_false (by omega)
              have hy : x * P ≤ 1000000000000000000 := by
                have h4 : x ≤ 1000000000000000000 / P := by omega
                exact (Nat.le_div_iff_mul_le (by omega)).1 h4
              obtain ⟨y, gy⟩ : ∃ y, y = x * P := ⟨_, rfl⟩
              have hyi : (x : Int) * (P : Int) = (y : Int) := by rw [gy]; simp
              have HY : Hid (y = P ^ (i + 1)) := by show _ = _; rw [gy, HX.out, Nat.pow_succ]
              rw [← gy] at hy
              clear hQ gy
              go_wp2
              go_round
              case rel => exact ⟨i + 1, y, by omega, by go_num, rfl, hy, HY.out⟩
              case measure => simp [intOf]; omega
          · obtain rfl : i = K := by omega
            rcases HF.out with ⟨h5, _⟩ | ⟨_, hM, rfl, rfl⟩
            · have := HX.out; omega
            · have hMx : M = (x : Int) := by rw [hM, HX.out]
              subst hMx
              clear hM
              go_wp2
              have Z := (HS1.out.alloc #[.int .i64 0, .int .i64 0] 25).set 0 0
              have z0 := Z.c0
              have z1 := Z.c1
              exact bodyPost_ret (v := .tuple #[.int .i64 (x : Int), .agg #[.int .i64 0, .int .i64 0]]) (by simp [results, Tryz.results12, go_sem, z0, z1]) rfl ⟨rfl, ((HK1.out _).setCell (by simp) _).setCell (by simp) _⟩

end Go.Proofs.YtidndbdjhapfaaaGreatDoor
