/- The program: quad.Check. -/
import Derived.Test.YtijkanilpblogaeQcA
set_option linter.unusedSimpArgs false
set_option linter.unusedVariables false
set_option maxRecDepth 100000
namespace Go.Proofs.Ytijkanilpblogae
open Go.RowKit

theorem small_cells (a b c : Int) (W : World) (B : Nat) (h : Cl B [.int .i64 a, .int .i64 b, .int .i64 c] 3 W) :
    ∀ j, j < [a, b, c].length → W.cell? ⟨B, 0 + j, none⟩ = some (.int .i64 ([a, b, c].getD j 0)) := by
  intro j hj
  match j, hj with
  | 0, _ => exact h.cell 0
  | 1, _ => exact h.cell 1
  | 2, _ => exact h.cell 2

theorem sf_three (a b c : Int) : (sf 0 [a, b, c] = (0, 0) ∧ okc a = true ∧ okc b = true ∧ okc c = true) ∨ ((sf 0 [a, b, c]).1 = 3 ∧ ∀ f : Qf, f.a = a → f.b = b → f.c = c → ffault f = sf 0 [a, b, c]) := by
  unfold sf sf sf sf
  cases h1 : okc a
  · right
    refine ⟨by simp, fun f e1 e2 e3 => ?_⟩
    subst e1 e2 e3
    simp [ffault, h1]
  cases h2 : okc b
  · right
    refine ⟨by simp, fun f e1 e2 e3 => ?_⟩
    subst e1 e2 e3
    simp [ffault, h1, h2]
  cases h3 : okc c
  · right
    refine ⟨by simp, fun f e1 e2 e3 => ?_⟩
    subst e1 e2 e3
    simp [ffault, h1, h2, h3]
  left
  simp

set_option maxHeartbeats 4000000 in
theorem Check_any (f : Qf) (w : World) : Calls Try.prog 31 #[f.v] w fun e w' => e = .returned (ffv (ffault f)) ∧ Below w.heap.size w w' := by
  obtain ⟨c0, d0, hcd⟩ : ∃ c d, ffault f = (c, d) := ⟨_, _, rfl⟩
  rw [hcd]
  have HCD : Hid (ffault f = (c0, d0)) := hcd
  clear hcd
  obtain ⟨c1, d1, hs⟩ : ∃ c d, sf 0 [f.a, f.b, f.c] = (c, d) := ⟨_, _, rfl⟩
  have HS3 : Hid ((c1 = 0 ∧ d1 = 0 ∧ okc f.a = true ∧ okc f.b = true ∧ okc f.c = true) ∨ (c1 = 3 ∧ c0 = c1 ∧ d0 = d1)) := by
    show _ ∨ _
    have h := sf_three f.a f.b f.c
    rw [hs] at h
    rcases h with ⟨h1, h2⟩ | ⟨h1, h2⟩
    · left; simp at h1; exact ⟨h1.1, h1.2, h2⟩
    · right
      have h3 := h2 f rfl rfl rfl
      rw [HCD.out] at h3
      simp at h1 h3
      exact ⟨h1, h3.1, h3.2⟩
  have HSm : Hid (sf 0 [f.a, f.b, f.c] = (c1, d1)) := hs
  clear hs
  unfold Qf.v ffv
  go_enter Try.func31, Try.ntmps31
  go_wp2_with fail
  obtain ⟨W1, hW1⟩ : ∃ W1, W1 = ((w.alloc (.cells #[.int .i64 f.a, .int .i64 f.b, .int .i64 f.c] 32)).alloc (.cells #[.int .i64 0, .int .i64 0] 24)).alloc (.cells #[.int .i64 f.a, .int .i64 f.b, .int .i64 f.c] 3) := ⟨_, rfl⟩
  have C0 : Cl w.heap.size f.l 32 W1 := by rw [hW1]; exact ((Cl.new f.l _ w).alloc _).alloc _
  have C1 : Sv (w.heap.size + 1) 0 0 W1 := by rw [hW1]; exact sv_al (sv_new0 _ _ _ (by simp) _ _) _
  have C2 : Cl (w.heap.size + 1 + 1) [.int .i64 f.a, .int .i64 f.b, .int .i64 f.c] 3 W1 := by rw [hW1]; exact cl_new0 _ _ _ _ (by simp)
  have K1 : Below w.heap.size w W1 := by rw [hW1]; exact Below.alloc (Below.alloc (Below.alloc (Below.refl _ _) (Nat.le_refl _) _) (by simp) _) (by simp; omega) _
  rw [← hW1]
  clear hW1
  refine (Smalls_any [f.a, f.b, f.c] _ 0 _ _ (by simp) C2.lt (small_cells _ _ _ _ _ C2)).mono ?_
  rw [HSm.out]
  rintro e w1 ⟨rfl, k1⟩
  have k2 : Below w1.heap.size w1 (w1.alloc (.cells #[.int .i64 c1, .int .i64 d1] 24)) := al1 _ _
  have HS : Hid (Sv (w.heap.size + 1) 0 0 (w1.alloc (.cells #[.int .i64 c1, .int .i64 d1] 24)) ∧ Cl w.heap.size f.l 32 (w1.alloc (.cells #[.int .i64 c1, .int .i64 d1] 24)) ∧ Below w.heap.size w (w1.alloc (.cells #[.int .i64 c1, .int .i64 d1] 24))) :=
    ⟨(C1.below k1).below k2, (C0.below k1).below k2, K1.trans ((k1.trans (k2.mono k1.size)).mono K1.size)⟩
  clear C0 C1 C2 K1 k1 k2 HSm
  rcases HS3.out with ⟨rfl, rfl, ha, hb, hc⟩ | ⟨rfl, rfl, rfl⟩
  · clear HS3
    have HU : Hid (f.upto 1000000) := by
      have h1 := okc_true ha; have h2 := okc_true hb; have h3 := okc_true hc
      exact ⟨h1.1, h1.2, h2.1, h2.2, h3.1, h3.2⟩
    have HF : Hid (ffault f = if f.a < 1 ∨ 0 ≤ f.disc then (7, 0) else if Int.gcd (Int.gcd f.a f.b) f.c ≠ 1 then (6, 0) else (0, 0)) := by
      show _ = _
      rw [ffault, if_neg (by simp [ha]), if_neg (by simp [hb]), if_neg (by simp [hc])]
    clear ha hb hc
    have f0 := HS.out.2.1.cell 0
    have f1 := HS.out.2.1.cell 1
    have f2 := HS.out.2.1.cell 2
    simp at f0 f1 f2
    by_cases hA : f.a < 1
    · have t1 : decide (f.a < 1) = true := decide_eq_true hA
      obtain ⟨rfl, rfl⟩ : c0 = 7 ∧ d0 = 0 := by
        have h := HCD.out
        rw [HF.out, if_pos (.inl hA)] at h
        simp at h; omega
      clear hA HF
      have q0 := HS.out.1.c0
      have q1 := HS.out.1.c1
      have q2 := HS.out.1.f0
      have q3 := HS.out.1.f1
      have q4 := HS.out.1.lt
      have HKK : Hid (Below _ _ _) := HS.out.2.2
      clear HS
      go_wp2
      refine bodyPost_ret (v := .agg #[.int .i64 _, .int .i64 _]) (by simp [results, Try.results31, go_sem, q0, q1, q4]) rfl ⟨rfl, ?_⟩
      exact (HKK.out.setCell (by show w.heap.size ≤ w.heap.size + 1; omega) _).setCell (by show w.heap.size ≤ w.heap.size + 1; omega) _
    · have t1 : decide (f.a < 1) = false := decide_eq_false hA
      have HD : Hid (∀ w, Calls Try.prog 32 #[f.v] w fun e w' => e = .returned (.int .i64 f.disc) ∧ Below w.heap.size w w') := fun w => discriminant_any f w HU.out
      have HG : Hid (∀ w, Calls Try.prog 46 #[f.v] w fun e w' => e = .returned (.int .i64 (Int.gcd (Int.gcd f.a f.b) f.c : Int)) ∧ Below w.heap.size w w') := fun w => commonDivisor_any f w HU.out
      obtain ⟨D, hD⟩ : ∃ D, f.disc = D := ⟨_, rfl⟩
      have HDD : Hid (f.disc = D) := hD
      obtain ⟨G, hG⟩ : ∃ G : Nat, Int.gcd (Int.gcd f.a f.b) f.c = G := ⟨_, rfl⟩
      have HGG : Hid (Int.gcd (Int.gcd f.a f.b) f.c = G) := hG
      rw [hD] at HD
      rw [hG] at HG
      unfold Qf.v at HD HG
      have hG1 : 1 ≤ G := by
        rcases Nat.eq_zero_or_pos G with h | h
        · exfalso
          rw [h] at hG
          have h1 := Int.gcd_eq_zero_iff.1 hG
          have h2 := Int.gcd_eq_zero_iff.1 (show Int.gcd f.a f.b = 0 by have := h1.1; omega)
          omega
        · exact h
      have HA : Hid (¬ f.a < 1 ∧ 1 ≤ G) := ⟨hA, hG1⟩
      clear hD hG hG1 hA
      go_wp2_with fail
      refine (HD.out _).mono ?_
      rintro e w3 ⟨rfl, k3⟩
      have HS' : Hid (Sv (w.heap.size + 1) 0 0 w3 ∧ Cl w.heap.size f.l 32 w3 ∧ Below w.heap.size w w3) := ⟨HS.out.1.below k3, HS.out.2.1.below k3, HS.out.2.2.trans (k3.mono HS.out.2.2.size)⟩
      clear HS k3 f0 f1 f2 HD
      have HS := HS'
      clear HS'
      by_cases hD : 0 ≤ D
      · have t2 : decide (0 ≤ D) = true := decide_eq_true hD
        obtain ⟨rfl, rfl⟩ : c0 = 7 ∧ d0 = 0 := by
          have h := HCD.out
          rw [HF.out, if_pos (.inr (by rw [HDD.out]; exact hD))] at h
          simp at h; omega
        clear hD HF
        have q0 := HS.out.1.c0
        have q1 := HS.out.1.c1
        have q2 := HS.out.1.f0
        have q3 := HS.out.1.f1
        have q4 := HS.out.1.lt
        have HKK : Hid (Below _ _ _) := HS.out.2.2
        clear HS
        go_wp2
        refine bodyPost_ret (v := .agg #[.int .i64 _, .int .i64 _]) (by simp [results, Try.results31, go_sem, q0, q1, q4]) rfl ⟨rfl, ?_⟩
        exact (HKK.out.setCell (by show w.heap.size ≤ w.heap.size + 1; omega) _).setCell (by show w.heap.size ≤ w.heap.size + 1; omega) _
      · have t2 : decide (0 ≤ D) = false := decide_eq_false hD
        have HN : Hid (¬ (f.a < 1 ∨ 0 ≤ f.disc)) := by
          show ¬ _
          rw [HDD.out]; have := HA.out.1; omega
        clear hD
        have f0 := HS.out.2.1.cell 0
        have f1 := HS.out.2.1.cell 1
        have f2 := HS.out.2.1.cell 2
        simp at f0 f1 f2
        go_wp2_with fail
        refine (HG.out _).mono ?_
        rintro e w4 ⟨rfl, k3⟩
        have HS' : Hid (Sv (w.heap.size + 1) 0 0 w4 ∧ Cl w.heap.size f.l 32 w4 ∧ Below w.heap.size w w4) := ⟨HS.out.1.below k3, HS.out.2.1.below k3, HS.out.2.2.trans (k3.mono HS.out.2.2.size)⟩
        clear HS k3 f0 f1 f2 HG
        have HS := HS'
        clear HS'
        by_cases hE : 1 < G
        · have t3 : decide (1 < (G : Int)) = true := decide_eq_true (by omega)
          obtain ⟨rfl, rfl⟩ : c0 = 6 ∧ d0 = 0 := by
            have h := HCD.out
            rw [HF.out, if_neg HN.out, if_pos (by rw [HGG.out]; omega)] at h
            simp at h; omega
          clear hE HF
          have q0 := HS.out.1.c0
          have q1 := HS.out.1.c1
          have q2 := HS.out.1.f0
          have q3 := HS.out.1.f1
          have q4 := HS.out.1.lt
          have HKK : Hid (Below _ _ _) := HS.out.2.2
          clear HS
          go_wp2
          refine bodyPost_ret (v := .agg #[.int .i64 _, .int .i64 _]) (by simp [results, Try.results31, go_sem, q0, q1, q4]) rfl ⟨rfl, ?_⟩
          exact (HKK.out.setCell (by show w.heap.size ≤ w.heap.size + 1; omega) _).setCell (by show w.heap.size ≤ w.heap.size + 1; omega) _
        · have t3 : decide (1 < (G : Int)) = false := decide_eq_false (by omega)
          obtain ⟨rfl, rfl⟩ : c0 = 0 ∧ d0 = 0 := by
            have h := HCD.out
            rw [HF.out, if_neg HN.out, if_neg (by rw [HGG.out]; have := HA.out.2; omega)] at h
            simp at h; omega
          clear hE HF
          have q0 := HS.out.1.c0
          have q1 := HS.out.1.c1
          have q2 := HS.out.1.f0
          have q3 := HS.out.1.f1
          have q4 := HS.out.1.lt
          have HKK : Hid (Below _ _ _) := HS.out.2.2
          clear HS
          go_wp2
          refine bodyPost_ret (v := .agg #[.int .i64 _, .int .i64 _]) (by simp [results, Try.results31, go_sem, q0, q1, q4]) rfl ⟨rfl, ?_⟩
          exact (HKK.out.setCell (by show w.heap.size ≤ w.heap.size + 1; omega) _).setCell (by show w.heap.size ≤ w.heap.size + 1; omega) _
  · clear HS3
    have q0 := HS.out.1.c0
    have q1 := HS.out.1.c1
    have q2 := HS.out.1.f0
    have q3 := HS.out.1.f1
    have q4 := HS.out.1.lt
    have HKK : Hid (Below _ _ _) := HS.out.2.2
    clear HS
    go_wp2
    refine bodyPost_ret (v := .agg #[.int .i64 _, .int .i64 _]) (by simp [results, Try.results31, go_sem, q0, q1, q4]) rfl ⟨rfl, ?_⟩
    exact (HKK.out.setCell (by show w.heap.size ≤ w.heap.size + 1; omega) _).setCell (by show w.heap.size ≤ w.heap.size + 1; omega) _

end Go.Proofs.Ytijkanilpblogae
