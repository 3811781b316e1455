/- The reference: TorsionFault. -/
import Derived.Test.YtknnidbdgfimbaaTpA
import Derived.Test.YtknnidbdgfimbaaJnB
set_option linter.unusedSimpArgs false
set_option linter.unusedVariables false
set_option maxRecDepth 100000
namespace Go.Proofs.Ytknnidbdgfimbaa
open Go.RowKit TN

set_option maxHeartbeats 2000000 in
theorem refTorsionFault_any (a b : Int) (w : World) :
    Calls Try.prog 7 #[.int .i64 a, .int .i64 b] w fun e w' => e = .returned (.agg #[.int .i64 (tf a b).1, .int .i64 (tf a b).2]) ∧ Below w.heap.size w w' := by
  by_cases h1 : inB 1000 a = true
  · have ha := inB_iff.1 h1
    have t1 : decide (1000 < a) = false := decide_eq_false (by omega)
    have t2 : decide (a < -1000) = false := decide_eq_false (by omega)
    by_cases h2 : inB 1000 b = true
    · have hb := inB_iff.1 h2
      have t3 : decide (1000 < b) = false := decide_eq_false (by omega)
      have t4 : decide (b < -1000) = false := decide_eq_false (by omega)
      obtain ⟨D, hD⟩ : ∃ D, dis a b = D := ⟨_, rfl⟩
      have htf : tf a b = if D = 0 then (6, 0) else (0, 0) := by unfold tf; rw [if_pos h1, if_pos h2, hD]
      rw [htf]
      unfold dis at hD
      obtain ⟨p, hp⟩ : ∃ p, 4 * a * a = p := ⟨_, rfl⟩
      have e1 := tn_abs (M := 4000) (N := 1000) (show -4000 ≤ 4 * a by omega) (by omega) (show -1000 ≤ a by omega) (by omega)
      rw [hp] at e1 hD
      obtain ⟨q, hq⟩ : ∃ q, p * a = q := ⟨_, rfl⟩
      have e2 := tn_abs (M := 4000000) (N := 1000) (show -4000000 ≤ p by omega) (by omega) (show -1000 ≤ a by omega) (by omega)
      rw [hq] at e2 hD
      obtain ⟨r, hr⟩ : ∃ r, 27 * b * b = r := ⟨_, rfl⟩
      have e3 := tn_abs (M := 27000) (N := 1000) (show -27000 ≤ 27 * b by omega) (by omega) (show -1000 ≤ b by omega) (by omega)
      rw [hr] at e3 hD
      by_cases h3 : D = 0
      · rw [if_pos h3]
        have t5 : (D == 0) = true := beq_iff_eq.2 h3
        clear h1 h2 h3 htf
        go_enter Try.func7, Try.ntmps7
        go_wp2_with fail
        refine (F_any 6 0 _).mono ?_
        rintro e w1 ⟨rfl, k1⟩
        have F1 := (Cl.new [.int .i64 0, .int .i64 0] 23 w).below k1
        have HF1 : Hid (Cl w.heap.size [.int .i64 0, .int .i64 0] 23 w1 ∧ Below w.heap.size w w1) := ⟨F1, (tala w _).trans (k1.mono (by simp))⟩
        have c0 : w1.cell? ⟨w.heap.size, 0, none⟩ = some (.int .i64 0) := F1.cell 0
        have c1 : w1.cell? ⟨w.heap.size, 1, none⟩ = some (.int .i64 0) := F1.cell 1
        have f0 := F1.frozen 0
        have f1 := F1.frozen 1
        clear F1 k1
        go_wp2
        have Z := (HF1.out.1.set 0 (.int .i64 6)).set 1 (.int .i64 0)
        have z0 := Z.cell 0
        have z1 := Z.cell 1
        simp at z0 z1
        refine bodyPost_ret (v := .agg #[.int .i64 6, .int .i64 0]) (by simp [results, Try.results7, go_sem, z0, z1]) rfl ⟨rfl, ?_⟩
        exact (HF1.out.2.setCell (by simp) _).setCell (by simp) _
      · rw [if_neg h3]
        have t5 : (D == 0) = false := beq_eq_false_iff_ne.2 h3
        clear h1 h2 h3 htf
        go_enter Try.func7, Try.ntmps7
        go_wp2
        exact bodyPost_ret (v := .agg #[.int .i64 0, .int .i64 0]) (by simp [results, Try.results7, go_sem]) rfl ⟨rfl, tala _ _⟩
    · have htf : tf a b = (3, 1) := by simp [tf, h1, h2]
      rw [htf]
      have hb : ¬ (-1000 ≤ b ∧ b ≤ 1000) := fun h => h2 (inB_iff.2 h)
      clear htf h2
      rcases Int.lt_or_le 1000 b with h3 | h3
      · have t3 : decide (1000 < b) = true := decide_eq_true h3
        clear h1 h3
        go_enter Try.func7, Try.ntmps7
        go_wp2_with fail
        refine (F_any 3 1 _).mono ?_
        rintro e w1 ⟨rfl, k1⟩
        have F1 := (Cl.new [.int .i64 0, .int .i64 0] 23 w).below k1
        have HF1 : Hid (Cl w.heap.size [.int .i64 0, .int .i64 0] 23 w1 ∧ Below w.heap.size w w1) := ⟨F1, (tala w _).trans (k1.mono (by simp))⟩
        have c0 : w1.cell? ⟨w.heap.size, 0, none⟩ = some (.int .i64 0) := F1.cell 0
        have c1 : w1.cell? ⟨w.heap.size, 1, none⟩ = some (.int .i64 0) := F1.cell 1
        have f0 := F1.frozen 0
        have f1 := F1.frozen 1
        clear F1 k1
        go_wp2
        have Z := (HF1.out.1.set 0 (.int .i64 3)).set 1 (.int .i64 1)
        have z0 := Z.cell 0
        have z1 := Z.cell 1
        simp at z0 z1
        refine bodyPost_ret (v := .agg #[.int .i64 3, .int .i64 1]) (by simp [results, Try.results7, go_sem, z0, z1]) rfl ⟨rfl, ?_⟩
        exact (HF1.out.2.setCell (by simp) _).setCell (by simp) _
      · have t3 : decide (1000 < b) = false := decide_eq_false (by omega)
        have t4 : decide (b < -1000) = true := decide_eq_true (by omega)
        clear h1 h3
        go_enter Try.func7, Try.ntmps7
        go_wp2_with fail
        refine (F_any 3 1 _).mono ?_
        rintro e w1 ⟨rfl, k1⟩
        have F1 := (Cl.new [.int .i64 0, .int .i64 0] 23 w).below k1
        have HF1 : Hid (Cl w.heap.size [.int .i64 0, .int .i64 0] 23 w1 ∧ Below w.heap.size w w1) := ⟨F1, (tala w _).trans (k1.mono (by simp))⟩
        have c0 : w1.cell? ⟨w.heap.size, 0, none⟩ = some (.int .i64 0) := F1.cell 0
        have c1 : w1.cell? ⟨w.heap.size, 1, none⟩ = some (.int .i64 0) := F1.cell 1
        have f0 := F1.frozen 0
        have f1 := F1.frozen 1
        clear F1 k1
        go_wp2
        have Z := (HF1.out.1.set 0 (.int .i64 3)).set 1 (.int .i64 1)
        have z0 := Z.cell 0
        have z1 := Z.cell 1
        simp at z0 z1
        refine bodyPost_ret (v := .agg #[.int .i64 3, .int .i64 1]) (by simp [results, Try.results7, go_sem, z0, z1]) rfl ⟨rfl, ?_⟩
        exact (HF1.out.2.setCell (by simp) _).setCell (by simp) _
  · have htf : tf a b = (3, 0) := by simp [tf, h1]
    rw [htf]
    have ha : ¬ (-1000 ≤ a ∧ a ≤ 1000) := fun h => h1 (inB_iff.2 h)
    clear htf h1
    rcases Int.lt_or_le 1000 a with h3 | h3
    · have t3 : decide (1000 < a) = true := decide_eq_true h3
      clear h3
      go_enter Try.func7, Try.ntmps7
      go_wp2_with fail
      refine (F_any 3 0 _).mono ?_
      rintro e w1 ⟨rfl, k1⟩
      have F1 := (Cl.new [.int .i64 0, .int .i64 0] 23 w).below k1
      have HF1 : Hid (Cl w.heap.size [.int .i64 0, .int .i64 0] 23 w1 ∧ Below w.heap.size w w1) := ⟨F1, (tala w _).trans (k1.mono (by simp))⟩
      have c0 : w1.cell? ⟨w.heap.size, 0, none⟩ = some (.int .i64 0) := F1.cell 0
      have c1 : w1.cell? ⟨w.heap.size, 1, none⟩ = some (.int .i64 0) := F1.cell 1
      have f0 := F1.frozen 0
      have f1 := F1.frozen 1
      clear F1 k1
      go_wp2
      have Z := (HF1.out.1.set 0 (.int .i64 3)).set 1 (.int .i64 0)
      have z0 := Z.cell 0
      have z1 := Z.cell 1
      simp at z0 z1
      refine bodyPost_ret (v := .agg #[.int .i64 3, .int .i64 0]) (by simp [results, Try.results7, go_sem, z0, z1]) rfl ⟨rfl, ?_⟩
      exact (HF1.out.2.setCell (by simp) _).setCell (by simp) _
    · have t3 : decide (1000 < a) = false := decide_eq_false (by omega)
      have t4 : decide (a < -1000) = true := decide_eq_true (by omega)
      clear h3
      go_enter Try.func7, Try.ntmps7
      go_wp2_with fail
      refine (F_any 3 0 _).mono ?_
      rintro e w1 ⟨rfl, k1⟩
      have F1 := (Cl.new [.int .i64 0, .int .i64 0] 23 w).below k1
      have HF1 : Hid (Cl w.heap.size [.int .i64 0, .int .i64 0] 23 w1 ∧ Below w.heap.size w w1) := ⟨F1, (tala w _).trans (k1.mono (by simp))⟩
      have c0 : w1.cell? ⟨w.heap.size, 0, none⟩ = some (.int .i64 0) := F1.cell 0
      have c1 : w1.cell? ⟨w.heap.size, 1, none⟩ = some (.int .i64 0) := F1.cell 1
      have f0 := F1.frozen 0
      have f1 := F1.frozen 1
      clear F1 k1
      go_wp2
      have Z := (HF1.out.1.set 0 (.int .i64 3)).set 1 (.int .i64 0)
      have z0 := Z.cell 0
      have z1 := Z.cell 1
      simp at z0 z1
      refine bodyPost_ret (v := .agg #[.int .i64 3, .int .i64 0]) (by simp [results, Try.results7, go_sem, z0, z1]) rfl ⟨rfl, ?_⟩
      exact (HF1.out.2.setCell (by simp) _).setCell (by simp) _

end Go.Proofs.Ytknnidbdgfimbaa
