/- Contracts: the calls Power and Inverse. -/
import Derived.Test.YtidndbdjhapfaaaGreatDoorWholeI
import Derived.Test.YtidndbdjhapfaaaGreatDoorJoinA
set_option linter.unusedSimpArgs false
set_option linter.unusedVariables false
set_option maxRecDepth 100000
namespace Go.Proofs.YtidndbdjhapfaaaGreatDoor
open Go.RowKit

theorem triple_cells (a b c : Int) (W : World) (B : Nat) (h0 : W.cell? ⟨B, 0, none⟩ = some (.int .i64 a)) (h1 : W.cell? ⟨B, 1, none⟩ = some (.int .i64 b)) (h2 : W.cell? ⟨B, 2, none⟩ = some (.int .i64 c)) :
    ∀ j, j < [a, b, c].length → W.cell? ⟨B, 0 + j, none⟩ = some (.int .i64 ([a, b, c].getD j 0)) := by
  intro j hj
  match j, hj with
  | 0, _ => exact h0
  | 1, _ => exact h1
  | 2, _ => exact h2

def okB3 (a b c : Int) : Bool := numB a && numB b && numB c

theorem okB3_bounds {a b c : Int} (h : okB3 a b c = true) : a.natAbs ≤ 1000000000000000000 ∧ b.natAbs ≤ 1000000000000000000 ∧ c.natAbs ≤ 1000000000000000000 := by
  unfold okB3 at h; rw [Bool.and_eq_true, Bool.and_eq_true] at h
  have h1 := numB_true h.1.1; have h2 := numB_true h.1.2; have h3 := numB_true h.2; omega
theorem okB3_nf {a b c : Int} (h : okB3 a b c = true) : nf 0 [a, b, c] = (0, 0) := by
  unfold okB3 at h; rw [Bool.and_eq_true, Bool.and_eq_true] at h
  simp [nf, h.1.1, h.1.2, h.2]
theorem okB3_ne {a b c : Int} (h : okB3 a b c = false) : ((nf 0 [a, b, c]).1 != 0) = true := by
  unfold okB3 at h; unfold nf nf nf nf; cases h1 : numB a <;> cases h2 : numB b <;> cases h3 : numB c <;> simp_all

theorem okB_ne {a b : Int} (h : okB a b = false) : ((nf 0 [a, b]).1 != 0) = true := by
  unfold okB at h; unfold nf nf nf; cases h1 : numB a <;> cases h2 : numB b <;> simp_all

theorem inv_of_bez {a m u v : Int} (hm : 0 < m) (hg : Int.gcd a m = 1) (h : Bez a m u v) : 0 ≤ u ∧ u < m ∧ (u * a) % m = 1 % m := by
  have h1 := h.low (by omega)
  have h2 := h.high (by omega)
  have h3 := h.lin
  rw [hg] at h2 h3
  refine ⟨h1, by rw [Nat.div_one] at h2; omega, ?_⟩
  have e : u * a = 1 + m * (-v) := by rw [Int.mul_neg, Int.mul_comm m]; omega
  rw [e, Int.add_mul_emod_self_left]

set_option maxHeartbeats 400000 in
theorem Inverse_bad (a m : Int) (w : World) (h : okB a m = false) :
    Calls Tryz.prog 26 #[.int .i64 a, .int .i64 m] w fun e w' => e = .returned (.tuple #[.int .i64 0, .agg #[.int .i64 (nf 0 [a, m]).1, .int .i64 (nf 0 [a, m]).2]]) ∧ Below w.heap.size w w' := by
  have hne : ((nf 0 [a, m]).1 != 0) = true := okB_ne h
  obtain ⟨c', d', hcd⟩ : ∃ c' d', nf 0 [a, m] = (c', d') := ⟨_, _, rfl⟩
  rw [hcd] at hne ⊢
  have HCD : Hid (nf 0 [a, m] = (c', d')) := hcd
  clear hcd h
  simp only at hne ⊢
  go_enter Tryz.func26, Tryz.ntmps26
  go_wp2_with fail
  refine (numbersFault_any [a, m] _ 0 _ _ (by simp) ?_ ?_).mono ?_
  · simp
  · exact two_cells a m _ _ (by simp) (by simp)
  rw [HCD.out]
  rintro e w1 ⟨rfl, hb⟩
  have hz : w.heap.size < w1.heap.size := by have := hb.size; simp at this; omega
  have q0 : w1.cell? ⟨w.heap.size, 0, none⟩ = some (.int .i64 0) := cell_later hb (by simp)
  have q1 : w1.cell? ⟨w.heap.size, 1, none⟩ = some (.int .i64 0) := cell_later hb (by simp)
  have q2 : w1.frozen? ⟨w.heap.size, 0, none⟩ = false := (hb.frozen (p := ⟨w.heap.size, 0, none⟩) (by simp; omega)).trans (by simp)
  have q3 : w1.frozen? ⟨w.heap.size, 1, none⟩ = false := (hb.frozen (p := ⟨w.heap.size, 1, none⟩) (by simp; omega)).trans (by simp)
  go_wp2
  go_region
  all_goals
    go_wp2
    refine bodyPost_ret (v := .tuple #[.int .i64 0, .agg #[.int .i64 c', .int .i64 d']]) (by simp [results, Tryz.results26, go_sem, q0, q1, hz]) rfl ⟨rfl, ?_⟩
    refine Below.drew (Below.alloc (Below.setCell (Below.setCell (Below.trans (Below.alloc (Below.alloc (Below.refl _ _) ?_ _) ?_ _) (hb.mono ?_)) ?_ _) ?_ _) ?_ _) <;> first | omega | (simp; done) | (simp; omega)

set_option maxHeartbeats 400000 in
theorem Inverse_low (a m : Int) (w : World) (h : okB a m = true) (hm : m < 1) :
    Calls Tryz.prog 26 #[.int .i64 a, .int .i64 m] w fun e w' => e = .returned (.tuple #[.int .i64 0, .agg #[.int .i64 3, .int .i64 1]]) ∧ Below w.heap.size w w' := by
  have HCD : Hid (nf 0 [a, m] = (0, 0)) := okB_nf h
  clear h
  go_enter Tryz.func26, Tryz.ntmps26
  go_wp2_with fail
  refine (numbersFault_any [a, m] _ 0 _ _ (by simp) ?_ ?_).mono ?_
  · simp
  · exact two_cells a m _ _ (by simp) (by simp)
  rw [HCD.out]
  rintro e w1 ⟨rfl, hb⟩
  have hz : w.heap.size < w1.heap.size := by have := hb.size; simp at this; omega
  have q0 : w1.cell? ⟨w.heap.size, 0, none⟩ = some (.int .i64 0) := cell_later hb (by simp)
  have q1 : w1.cell? ⟨w.heap.size, 1, none⟩ = some (.int .i64 0) := cell_later hb (by simp)
  have q2 : w1.frozen? ⟨w.heap.size, 0, none⟩ = false := (hb.frozen (p := ⟨w.heap.size, 0, none⟩) (by simp; omega)).trans (by simp)
  have q3 : w1.frozen? ⟨w.heap.size, 1, none⟩ = false := (hb.frozen (p := ⟨w.heap.size, 1, none⟩) (by simp; omega)).trans (by simp)
  go_wp2
  refine bodyPost_ret (v := .tuple #[.int .i64 0, .agg #[.int .i64 3, .int .i64 1]]) (by simp [results, Tryz.results26, go_sem, q0, q1, hz]) rfl ⟨rfl, ?_⟩
  refine Below.alloc (Below.setCell (Below.setCell (Below.trans (Below.alloc (Below.alloc (Below.refl _ _) ?_ _) ?_ _) (hb.mono ?_)) ?_ _) ?_ _) ?_ _ <;> first | omega | (simp; done) | (simp; omega)

set_option maxHeartbeats 400000 in
theorem Inverse_none (a m : Int) (w : World) (h : okB a m = true) (hm : ¬ m < 1) (hg : Int.gcd a m ≠ 1) :
    Calls Tryz.prog 26 #[.int .i64 a, .int .i64 m] w fun e w' => e = .returned (.tuple #[.int .i64 0, .agg #[.int .i64 5, .int .i64 0]]) ∧ Below w.heap.size w w' := by
  have HCD : Hid (nf 0 [a, m] = (0, 0)) := okB_nf h
  obtain ⟨b1, b2⟩ := okB_bounds h
  have t1 : ((Int.gcd a m : Int) != 1) = true := by simp; omega
  clear h
  go_enter Tryz.func26, Tryz.ntmps26
  go_wp2_with fail
  refine (numbersFault_any [a, m] _ 0 _ _ (by simp) ?_ ?_).mono ?_
  · simp
  · exact two_cells a m _ _ (by simp) (by simp)
  rw [HCD.out]
  rintro e w1 ⟨rfl, hb⟩
  have hz : w.heap.size < w1.heap.size := by have := hb.size; simp at this; omega
  have q0 : w1.cell? ⟨w.heap.size, 0, none⟩ = some (.int .i64 0) := cell_later hb (by simp)
  have q1 : w1.cell? ⟨w.heap.size, 1, none⟩ = some (.int .i64 0) := cell_later hb (by simp)
  have q2 : w1.frozen? ⟨w.heap.size, 0, none⟩ = false := (hb.frozen (p := ⟨w.heap.size, 0, none⟩) (by simp; omega)).trans (by simp)
  have q3 : w1.frozen? ⟨w.heap.size, 1, none⟩ = false := (hb.frozen (p := ⟨w.heap.size, 1, none⟩) (by simp; omega)).trans (by simp)
  go_wp2_with fail
  refine (bezout_any a m _ b1 b2).mono ?_
  rintro e w2 ⟨u, v, rfl, hbz, q, rfl⟩
  go_wp2
  refine bodyPost_ret (v := .tuple #[.int .i64 0, .agg #[.int .i64 5, .int .i64 0]]) (by simp [results, Tryz.results26, go_sem, q0, q1, hz]) rfl ⟨rfl, ?_⟩
  refine Below.setCell (Below.setCell (below_drewN' (Below.alloc (Below.trans (Below.alloc (Below.alloc (Below.refl _ _) ?_ _) ?_ _) (hb.mono ?_)) ?_ _)) ?_ _) ?_ _ <;> first | omega | (simp; done) | (simp; omega)

set_option maxHeartbeats 400000 in
theorem Inverse_ok (a m : Int) (w : World) (h : okB a m = true) (hm : ¬ m < 1) (hg : Int.gcd a m = 1) :
    Calls Tryz.prog 26 #[.int .i64 a, .int .i64 m] w fun e w' => ∃ u : Int, e = .returned (.tuple #[.int .i64 u, .agg #[.int .i64 0, .int .i64 0]]) ∧ 0 ≤ u ∧ u < m ∧ (u * a) % m = 1 % m ∧ Below w.heap.size w w' := by
  have HCD : Hid (nf 0 [a, m] = (0, 0)) := okB_nf h
  obtain ⟨b1, b2⟩ := okB_bounds h
  have HG : Hid (Int.gcd a m = 1) := hg
  clear hg
  clear h
  go_enter Tryz.func26, Tryz.ntmps26
  go_wp2_with fail
  refine (numbersFault_any [a, m] _ 0 _ _ (by simp) ?_ ?_).mono ?_
  · simp
  · exact two_cells a m _ _ (by simp) (by simp)
  rw [HCD.out]
  rintro e w1 ⟨rfl, hb⟩
  have hz : w.heap.size < w1.heap.size := by have := hb.size; simp at this; omega
  have q0 : w1.cell? ⟨w.heap.size, 0, none⟩ = some (.int .i64 0) := cell_later hb (by simp)
  have q1 : w1.cell? ⟨w.heap.size, 1, none⟩ = some (.int .i64 0) := cell_later hb (by simp)
  have q2 : w1.frozen? ⟨w.heap.size, 0, none⟩ = false := (hb.frozen (p := ⟨w.heap.size, 0, none⟩) (by simp; omega)).trans (by simp)
  have q3 : w1.frozen? ⟨w.heap.size, 1, none⟩ = false := (hb.frozen (p := ⟨w.heap.size, 1, none⟩) (by simp; omega)).trans (by simp)
  go_wp2_with fail
  refine (bezout_any a m _ b1 b2).mono ?_
  rw [HG.out]
  rintro e w2 ⟨u, v, rfl, hbz, q, rfl⟩
  have HU : Hid (0 ≤ u ∧ u < m ∧ (u * a) % m = 1 % m) := inv_of_bez (by omega) HG.out hbz
  clear hbz
  go_wp2
  refine bodyPost_ret (v := .tuple #[.int .i64 u, .agg #[.int .i64 0, .int .i64 0]]) (by simp [results, Tryz.results26, go_sem, q0, q1, hz]) rfl ⟨u, rfl, HU.out.1, HU.out.2.1, HU.out.2.2, ?_⟩
  refine Below.setCell (Below.setCell (below_drewN' (Below.alloc (Below.trans (Below.alloc (Below.alloc (Below.refl _ _) ?_ _) ?_ _) (hb.mono ?_)) ?_ _)) ?_ _) ?_ _ <;> first | omega | (simp; done) | (simp; omega)


end Go.Proofs.YtidndbdjhapfaaaGreatDoor
