import Derived.Test.YtcnfhndejkngkaaGreatDoorJtR
import Derived.Test.YtcnfhndejkngkaaGreatDoorJtM
import Derived.Test.YtcnfhndejkngkaaGreatDoorJtB
section
/- The program: cont.Expand. -/
set_option linter.unusedSimpArgs false
set_option linter.unusedVariables false
set_option maxRecDepth 100000
namespace Go.Proofs.YtcnfhndejkngkaaGreatDoor
open Go.RowKit

set_option maxHeartbeats 400000 in
theorem Expand_bad (a b : Int) (w : World) (h : okB a b = false) :
    Calls Tryz.prog 71 #[.int .i64 a, .int .i64 b] w fun e w' => e = .returned (.tuple #[.slice none 0 0, .agg #[.int .i64 (nf 0 [a, b]).1, .int .i64 (nf 0 [a, b]).2]]) ∧ Below w.heap.size w w' := by
  have hne : ((nf 0 [a, b]).1 != 0) = true := by
    unfold okB at h; unfold nf nf nf; cases h1 : numB a <;> cases h2 : numB b <;> simp_all
  obtain ⟨c, d, hcd⟩ : ∃ c d, nf 0 [a, b] = (c, d) := ⟨_, _, rfl⟩
  rw [hcd] at hne ⊢
  have HCD : Hid (nf 0 [a, b] = (c, d)) := hcd
  clear hcd h
  simp only at hne ⊢
  go_enter Tryz.func71, Tryz.ntmps71
  go_wp2_with fail
  refine (numbersFault_any [a, b] _ 0 _ _ (by simp) ?_ ?_).mono ?_
  · simp
  · exact two_cells a b _ _ (by simp) (by simp)
  rw [HCD.out]
  rintro e w1 ⟨rfl, hb⟩
  have hz : w.heap.size < w1.heap.size := by have := hb.size; simp at this; omega
  have q0 : w1.cell? ⟨w.heap.size, 0, none⟩ = some (.int .i64 0) := cell_later hb (by simp)
  have q1 : w1.cell? ⟨w.heap.size, 1, none⟩ = some (.int .i64 0) := cell_later hb (by simp)
  have q2 : w1.frozen? ⟨w.heap.size, 0, none⟩ = false := (hb.frozen (p := ⟨w.heap.size, 0, none⟩) (by simp; omega)).trans (by simp)
  have q3 : w1.frozen? ⟨w.heap.size, 1, none⟩ = false := (hb.frozen (p := ⟨w.heap.size, 1, none⟩) (by simp; omega)).trans (by simp)
  go_wp2
  go_region
  all_goals
    go_wp2
    refine bodyPost_ret (v := .tuple #[.slice none 0 0, .agg #[.int .i64 c, .int .i64 d]]) (by simp [results, Tryz.results71, go_sem, q0, q1, hz]) rfl ⟨rfl, ?_⟩
    refine Below.drew (Below.alloc (Below.setCell (Below.setCell (Below.trans (Below.alloc (Below.alloc (Below.refl _ _) ?_ _) ?_ _) (hb.mono ?_)) ?_ _) ?_ _) ?_ _) <;> first | omega | (simp; done) | (simp; omega)

set_option maxHeartbeats 400000 in
theorem Expand_zero (a : Int) (w : World) (h : okB a 0 = true) :
    Calls Tryz.prog 71 #[.int .i64 a, .int .i64 0] w fun e w' => e = .returned (.tuple #[.slice none 0 0, .agg #[.int .i64 4, .int .i64 1]]) ∧ Below w.heap.size w w' := by
  have hcd := okB_nf h
  have HCD : Hid (nf 0 [a, 0] = (0, 0)) := hcd
  clear hcd h
  go_enter Tryz.func71, Tryz.ntmps71
  go_wp2_with fail
  refine (numbersFault_any [a, 0] _ 0 _ _ (by simp) ?_ ?_).mono ?_
  · simp
  · exact two_cells a 0 _ _ (by simp) (by simp)
  rw [HCD.out]
  rintro e w1 ⟨rfl, hb⟩
  have hz : w.heap.size < w1.heap.size := by have := hb.size; simp at this; omega
  have q0 : w1.cell? ⟨w.heap.size, 0, none⟩ = some (.int .i64 0) := cell_later hb (by simp)
  have q1 : w1.cell? ⟨w.heap.size, 1, none⟩ = some (.int .i64 0) := cell_later hb (by simp)
  have q2 : w1.frozen? ⟨w.heap.size, 0, none⟩ = false := (hb.frozen (p := ⟨w.heap.size, 0, none⟩) (by simp; omega)).trans (by simp)
  have q3 : w1.frozen? ⟨w.heap.size, 1, none⟩ = false := (hb.frozen (p := ⟨w.heap.size, 1, none⟩) (by simp; omega)).trans (by simp)
  go_wp2
  refine bodyPost_ret (v := .tuple #[.slice none 0 0, .agg #[.int .i64 4, .int .i64 1]]) (by simp [results, Tryz.results71, go_sem, q0, q1, hz]) rfl ⟨rfl, ?_⟩
  refine Below.alloc (Below.setCell (Below.setCell (Below.trans (Below.alloc (Below.alloc (Below.refl _ _) ?_ _) ?_ _) (hb.mono ?_)) ?_ _) ?_ _) ?_ _ <;> first | omega | (simp; done) | (simp; omega)

/-- What Expand answers of a and b, where b isn't 0. -/
def ExIs (a b : Int) (xs : List Int) : Prop := ∃ (A B : Int) (N : Nat), CnQ.En A B N ∧ xs = CnQ.ek A B N ∧ N ≤ 120 ∧ A * b = a * B ∧ A.natAbs ≤ 1000000000000000000 ∧ B.natAbs ≤ 1000000000000000000

theorem en_of (A B : Int) (h0 : 0 < B) (hb : B ≤ 1000000000000000000) : ∃ N, N ≤ 120 ∧ CnQ.En A B N := by
  obtain ⟨N, h1, h2⟩ := CnQ.half 60 A B h0 (by omega)
  exact ⟨N, by omega, h2⟩

set_option maxHeartbeats 2000000 in
theorem Expand_pos (a b : Int) (w : World) (h : okB a b = true) (hb0 : 0 < b) :
    Calls Tryz.prog 71 #[.int .i64 a, .int .i64 b] w fun e w' => ∃ xs p c, e = .returned (.tuple #[.slice p xs.length c, .agg #[.int .i64 0, .int .i64 0]]) ∧ ExIs a b xs ∧ w'.ownsRow w.heap.size 3 1 (.slice p xs.length c) xs.length (ints xs) ∧ Below w.heap.size w w' := by
  obtain ⟨ha, hb'⟩ := okB_bounds h
  have hcd := okB_nf h
  have HCD : Hid (nf 0 [a, b] = (0, 0)) := hcd
  obtain ⟨N, hN, hE⟩ := en_of (a) (b) (by omega) (by omega)
  have HEx : Hid (ExIs a b (CnQ.ek (a) (b) N)) := ⟨a, b, N, hE, rfl, hN, by grind, by omega, by omega⟩
  have hbz : (b == 0) = false := beq_eq_false_iff_ne.2 (by omega)
  have HQ : Hid (∀ w, Calls Tryz.prog 101 #[.int .i64 (a), .int .i64 (b)] w fun e w' => e = .returned (.func (.func 128) #[] #[.pointer (some ⟨w.heap.size, 0, none⟩), .pointer (some ⟨w.heap.size + 1, 0, none⟩)]) ∧ w' = (w.alloc (.cells #[.int .i64 (a)] 3)).alloc (.cells #[.int .i64 (b)] 3)) := fun w => quotients_any _ _ w
  have HCl : Hid (∀ (w W : World), W = (w.alloc (.cells #[.int .i64 (a)] 3)).alloc (.cells #[.int .i64 (b)] 3) → Calls Tryz.prog 100 #[.func (.func 128) #[] #[.pointer (some ⟨w.heap.size, 0, none⟩), .pointer (some ⟨w.heap.size + 1, 0, none⟩)]] W fun e w' => ∃ p c, e = .returned (.slice p N c) ∧ w'.ownsRow W.heap.size 3 1 (.slice p N c) N (ints (CnQ.ek (a) (b) N)) ∧ Below W.heap.size W w') := fun w W hW => by
    have c1 : Cl w.heap.size [.int .i64 (a)] 3 W := by rw [hW]; exact (Cl.new [.int .i64 (a)] 3 w).alloc _
    have c2 : Cl (w.heap.size + 1) [.int .i64 (b)] 3 W := by
      rw [hW]
      have := Cl.new [.int .i64 (b)] 3 (w.alloc (.cells #[.int .i64 (a)] 3))
      rw [World.size_alloc] at this; exact this
    have := Collect_any 128 #[.pointer (some ⟨w.heap.size, 0, none⟩), .pointer (some ⟨w.heap.size + 1, 0, none⟩)] _ (CnQ.ek (a) (b) N) (by rw [CnQ.ek_len]; omega) W (fun n hn => quotients_yields (a) (b) N w.heap.size (w.heap.size + 1) hE (by omega) (by omega) n hn) (enters_of Tryz.func128 (by kernel_rfl) rfl) (fun X k => ⟨c1.below k, c2.below k⟩)
    rw [CnQ.ek_len] at this
    exact this
  clear hcd h hE
  go_enter Tryz.func71, Tryz.ntmps71
  go_wp2_with fail
  refine (numbersFault_any [a, b] _ 0 _ _ (by simp) ?_ ?_).mono ?_
  · simp
  · exact two_cells a b _ _ (by simp) (by simp)
  rw [HCD.out]
  rintro e w1 ⟨rfl, hb⟩
  have hz : w.heap.size < w1.heap.size := by have := hb.size; simp at this; omega
  have q0 : w1.cell? ⟨w.heap.size, 0, none⟩ = some (.int .i64 0) := cell_later hb (by simp)
  have q1 : w1.cell? ⟨w.heap.size, 1, none⟩ = some (.int .i64 0) := cell_later hb (by simp)
  have q2 : w1.frozen? ⟨w.heap.size, 0, none⟩ = false := (hb.frozen (p := ⟨w.heap.size, 0, none⟩) (by simp; omega)).trans (by simp)
  have q3 : w1.frozen? ⟨w.heap.size, 1, none⟩ = false := (hb.frozen (p := ⟨w.heap.size, 1, none⟩) (by simp; omega)).trans (by simp)
  have HB1 : Hid (Below w.heap.size w w1) := Below.trans (Below.alloc (Below.alloc (Below.refl _ _) (Nat.le_refl _) _) (by simp) _) (hb.mono (by simp; omega))
  clear hb
  go_wp2_with fail
  obtain ⟨w2, hw2⟩ : ∃ w2, w2 = w1.alloc (.cells #[.int .i64 0, .int .i64 0] 25) := ⟨_, rfl⟩
  rw [← hw2]
  have HB2 : Hid (Below w.heap.size w w2) := by rw [hw2]; exact HB1.out.alloc (by omega) _
  have r0 : w2.cell? ⟨w.heap.size, 0, none⟩ = some (.int .i64 0) := by rw [hw2, cell_old_at _ _ _ hz]; exact q0
  have r1 : w2.cell? ⟨w.heap.size, 1, none⟩ = some (.int .i64 0) := by rw [hw2, cell_old_at _ _ _ hz]; exact q1
  have r2 : w2.frozen? ⟨w.heap.size, 0, none⟩ = false := by rw [hw2, frozen_old_at _ _ _ hz]; exact q2
  have r3 : w2.frozen? ⟨w.heap.size, 1, none⟩ = false := by rw [hw2, frozen_old_at _ _ _ hz]; exact q3
  have hz2 : w.heap.size < w2.heap.size := by rw [hw2, World.size_alloc]; omega
  clear q0 q1 q2 q3 hw2 HB1
  refine (HQ.out w2).mono ?_
  rintro e w3 ⟨rfl, hw3⟩
  have HW3 : Hid (w3 = (w2.alloc (.cells #[.int .i64 (a)] 3)).alloc (.cells #[.int .i64 (b)] 3)) := hw3
  clear hw3
  go_wp2_with fail
  refine (HCl.out w2 w3 HW3.out).mono ?_
  rintro e w4 ⟨p, c, rfl, h4, k4⟩
  have hw3 := HW3.out
  have K3 : Below w2.heap.size w2 w3 := by rw [hw3]; exact ((Below.refl _ _).alloc (Nat.le_refl _) _).alloc (by simp) _
  have K4 : Below w2.heap.size w2 w4 := K3.trans (k4.mono K3.size)
  have HB4 : Hid (Below w.heap.size w w4) := HB2.out.trans (K4.mono (by omega))
  have s0 : w4.cell? ⟨w.heap.size, 0, none⟩ = some (.int .i64 0) := (K4.cell (p := ⟨w.heap.size, 0, none⟩) hz2).trans r0
  have s1 : w4.cell? ⟨w.heap.size, 1, none⟩ = some (.int .i64 0) := (K4.cell (p := ⟨w.heap.size, 1, none⟩) hz2).trans r1
  have s2 : w4.frozen? ⟨w.heap.size, 0, none⟩ = false := (K4.frozen (p := ⟨w.heap.size, 0, none⟩) hz2).trans r2
  have s3 : w4.frozen? ⟨w.heap.size, 1, none⟩ = false := (K4.frozen (p := ⟨w.heap.size, 1, none⟩) hz2).trans r3
  have HR : Hid (w4.ownsRow w3.heap.size 3 1 (.slice p N c) N (ints (CnQ.ek (a) (b) N))) := h4
  have hz3 := K3.size
  have hz4 := K4.size
  have HZ : Hid (w.heap.size < w3.heap.size) := by show _ < _; omega
  have hz5 : w.heap.size < w4.heap.size := by omega
  clear r0 r1 r2 r3 hw3 h4 k4 K3 K4 hz2 hz3 hz4 hz
  go_wp2
  refine bodyPost_ret (v := .tuple #[.slice p N c, .agg #[.int .i64 0, .int .i64 0]]) (by simp [results, Tryz.results71, go_sem, s0, s1, hz5]) rfl ⟨CnQ.ek (a) (b) N, p, c, ?_, HEx.out, ?_, ?_⟩
  · rw [CnQ.ek_len]
  · rw [CnQ.ek_len]
    exact ownsRow_lower (ownsRow_setCell_below (ownsRow_setCell_below HR.out HZ.out _) HZ.out _) (Nat.le_of_lt HZ.out)
  · exact (HB4.out.setCell (Nat.le_refl _) _).setCell (Nat.le_refl _) _
set_option maxHeartbeats 2000000 in
theorem Expand_neg (a b : Int) (w : World) (h : okB a b = true) (hb0 : b < 0) :
    Calls Tryz.prog 71 #[.int .i64 a, .int .i64 b] w fun e w' => ∃ xs p c, e = .returned (.tuple #[.slice p xs.length c, .agg #[.int .i64 0, .int .i64 0]]) ∧ ExIs a b xs ∧ w'.ownsRow w.heap.size 3 1 (.slice p xs.length c) xs.length (ints xs) ∧ Below w.heap.size w w' := by
  obtain ⟨ha, hb'⟩ := okB_bounds h
  have hcd := okB_nf h
  have HCD : Hid (nf 0 [a, b] = (0, 0)) := hcd
  obtain ⟨N, hN, hE⟩ := en_of (-a) (-b) (by omega) (by omega)
  have HEx : Hid (ExIs a b (CnQ.ek (-a) (-b) N)) := ⟨-a, -b, N, hE, rfl, hN, by grind, by omega, by omega⟩
  have hbz : (b == 0) = false := beq_eq_false_iff_ne.2 (by omega)
  have HQ : Hid (∀ w, Calls Tryz.prog 101 #[.int .i64 (-a), .int .i64 (-b)] w fun e w' => e = .returned (.func (.func 128) #[] #[.pointer (some ⟨w.heap.size, 0, none⟩), .pointer (some ⟨w.heap.size + 1, 0, none⟩)]) ∧ w' = (w.alloc (.cells #[.int .i64 (-a)] 3)).alloc (.cells #[.int .i64 (-b)] 3)) := fun w => quotients_any _ _ w
  have HCl : Hid (∀ (w W : World), W = (w.alloc (.cells #[.int .i64 (-a)] 3)).alloc (.cells #[.int .i64 (-b)] 3) → Calls Tryz.prog 100 #[.func (.func 128) #[] #[.pointer (some ⟨w.heap.size, 0, none⟩), .pointer (some ⟨w.heap.size + 1, 0, none⟩)]] W fun e w' => ∃ p c, e = .returned (.slice p N c) ∧ w'.ownsRow W.heap.size 3 1 (.slice p N c) N (ints (CnQ.ek (-a) (-b) N)) ∧ Below W.heap.size W w') := fun w W hW => by
    have c1 : Cl w.heap.size [.int .i64 (-a)] 3 W := by rw [hW]; exact (Cl.new [.int .i64 (-a)] 3 w).alloc _
    have c2 : Cl (w.heap.size + 1) [.int .i64 (-b)] 3 W := by
      rw [hW]
      have := Cl.new [.int .i64 (-b)] 3 (w.alloc (.cells #[.int .i64 (-a)] 3))
      rw [World.size_alloc] at this; exact this
    have := Collect_any 128 #[.pointer (some ⟨w.heap.size, 0, none⟩), .pointer (some ⟨w.heap.size + 1, 0, none⟩)] _ (CnQ.ek (-a) (-b) N) (by rw [CnQ.ek_len]; omega) W (fun n hn => quotients_yields (-a) (-b) N w.heap.size (w.heap.size + 1) hE (by omega) (by omega) n hn) (enters_of Tryz.func128 (by kernel_rfl) rfl) (fun X k => ⟨c1.below k, c2.below k⟩)
    rw [CnQ.ek_len] at this
    exact this
  clear hcd h hE
  go_enter Tryz.func71, Tryz.ntmps71
  go_wp2_with fail
  refine (numbersFault_any [a, b] _ 0 _ _ (by simp) ?_ ?_).mono ?_
  · simp
  · exact two_cells a b _ _ (by simp) (by simp)
  rw [HCD.out]
  rintro e w1 ⟨rfl, hb⟩
  have hz : w.heap.size < w1.heap.size := by have := hb.size; simp at this; omega
  have q0 : w1.cell? ⟨w.heap.size, 0, none⟩ = some (.int .i64 0) := cell_later hb (by simp)
  have q1 : w1.cell? ⟨w.heap.size, 1, none⟩ = some (.int .i64 0) := cell_later hb (by simp)
  have q2 : w1.frozen? ⟨w.heap.size, 0, none⟩ = false := (hb.frozen (p := ⟨w.heap.size, 0, none⟩) (by simp; omega)).trans (by simp)
  have q3 : w1.frozen? ⟨w.heap.size, 1, none⟩ = false := (hb.frozen (p := ⟨w.heap.size, 1, none⟩) (by simp; omega)).trans (by simp)
  have HB1 : Hid (Below w.heap.size w w1) := Below.trans (Below.alloc (Below.alloc (Below.refl _ _) (Nat.le_refl _) _) (by simp) _) (hb.mono (by simp; omega))
  clear hb
  go_wp2_with fail
  obtain ⟨w2, hw2⟩ : ∃ w2, w2 = w1.alloc (.cells #[.int .i64 0, .int .i64 0] 25) := ⟨_, rfl⟩
  rw [← hw2]
  have HB2 : Hid (Below w.heap.size w w2) := by rw [hw2]; exact HB1.out.alloc (by omega) _
  have r0 : w2.cell? ⟨w.heap.size, 0, none⟩ = some (.int .i64 0) := by rw [hw2, cell_old_at _ _ _ hz]; exact q0
  have r1 : w2.cell? ⟨w.heap.size, 1, none⟩ = some (.int .i64 0) := by rw [hw2, cell_old_at _ _ _ hz]; exact q1
  have r2 : w2.frozen? ⟨w.heap.size, 0, none⟩ = false := by rw [hw2, frozen_old_at _ _ _ hz]; exact q2
  have r3 : w2.frozen? ⟨w.heap.size, 1, none⟩ = false := by rw [hw2, frozen_old_at _ _ _ hz]; exact q3
  have hz2 : w.heap.size < w2.heap.size := by rw [hw2, World.size_alloc]; omega
  clear q0 q1 q2 q3 hw2 HB1
  refine (HQ.out w2).mono ?_
  rintro e w3 ⟨rfl, hw3⟩
  have HW3 : Hid (w3 = (w2.alloc (.cells #[.int .i64 (-a)] 3)).alloc (.cells #[.int .i64 (-b)] 3)) := hw3
  clear hw3
  go_wp2_with fail
  refine (HCl.out w2 w3 HW3.out).mono ?_
  rintro e w4 ⟨p, c, rfl, h4, k4⟩
  have hw3 := HW3.out
  have K3 : Below w2.heap.size w2 w3 := by rw [hw3]; exact ((Below.refl _ _).alloc (Nat.le_refl _) _).alloc (by simp) _
  have K4 : Below w2.heap.size w2 w4 := K3.trans (k4.mono K3.size)
  have HB4 : Hid (Below w.heap.size w w4) := HB2.out.trans (K4.mono (by omega))
  have s0 : w4.cell? ⟨w.heap.size, 0, none⟩ = some (.int .i64 0) := (K4.cell (p := ⟨w.heap.size, 0, none⟩) hz2).trans r0
  have s1 : w4.cell? ⟨w.heap.size, 1, none⟩ = some (.int .i64 0) := (K4.cell (p := ⟨w.heap.size, 1, none⟩) hz2).trans r1
  have s2 : w4.frozen? ⟨w.heap.size, 0, none⟩ = false := (K4.frozen (p := ⟨w.heap.size, 0, none⟩) hz2).trans r2
  have s3 : w4.frozen? ⟨w.heap.size, 1, none⟩ = false := (K4.frozen (p := ⟨w.heap.size, 1, none⟩) hz2).trans r3
  have HR : Hid (w4.ownsRow w3.heap.size 3 1 (.slice p N c) N (ints (CnQ.ek (-a) (-b) N))) := h4
  have hz3 := K3.size
  have hz4 := K4.size
  have HZ : Hid (w.heap.size < w3.heap.size) := by show _ < _; omega
  have hz5 : w.heap.size < w4.heap.size := by omega
  clear r0 r1 r2 r3 hw3 h4 k4 K3 K4 hz2 hz3 hz4 hz
  go_wp2
  refine bodyPost_ret (v := .tuple #[.slice p N c, .agg #[.int .i64 0, .int .i64 0]]) (by simp [results, Tryz.results71, go_sem, s0, s1, hz5]) rfl ⟨CnQ.ek (-a) (-b) N, p, c, ?_, HEx.out, ?_, ?_⟩
  · rw [CnQ.ek_len]
  · rw [CnQ.ek_len]
    exact ownsRow_lower (ownsRow_setCell_below (ownsRow_setCell_below HR.out HZ.out _) HZ.out _) (Nat.le_of_lt HZ.out)
  · exact (HB4.out.setCell (Nat.le_refl _) _).setCell (Nat.le_refl _) _

end Go.Proofs.YtcnfhndejkngkaaGreatDoor
end

section
/- frac.check. -/
set_option linter.unusedSimpArgs false
set_option linter.unusedVariables false
set_option maxRecDepth 100000
namespace Go.Proofs.YtcnfhndejkngkaaGreatDoor
open Go.RowKit

set_option maxHeartbeats 4000000 in
theorem check_any (x y : Int) (w : World) :
    Calls Tryz.prog 37 #[.agg #[.int .i64 x, .int .i64 y]] w fun e w' => e = .returned (.agg #[.int .i64 (ffF x y), .int .i64 0]) ∧ Below w.heap.size w w' := by
  obtain ⟨W9, hW0⟩ : ∃ W0, W0 = (w.alloc (.cells #[.int .i64 x, .int .i64 y] 23)).alloc (.cells #[.int .i64 0, .int .i64 0] 25) := ⟨_, rfl⟩
  have H0 : Hid (Cl w.heap.size [.int .i64 x, .int .i64 y] 23 W9 ∧ Cl (w.heap.size + 1) [.int .i64 0, .int .i64 0] 25 W9 ∧ Below w.heap.size w W9) := by
    have h1 := Cl.new [.int .i64 0, .int .i64 0] 25 (w.alloc (.cells #[.int .i64 x, .int .i64 y] 23))
    show _ ∧ _
    rw [hW0]
    exact ⟨(Cl.new _ _ _).alloc _, by simpa using h1, ((Below.refl _ _).alloc (Nat.le_refl _) _).alloc (by simp) _⟩
  have HNx : Hid (∀ W b, b = numB x → Calls Tryz.prog 64 #[.int .i64 x] W fun e w' => e = .returned (.bool b) ∧ w' = W) := fun W b h => by rw [h]; exact isNumber_any x W
  have HNy : Hid (∀ W b, b = numB y → Calls Tryz.prog 64 #[.int .i64 y] W fun e w' => e = .returned (.bool b) ∧ w' = W) := fun W b h => by rw [h]; exact isNumber_any y W
  have q0 := H0.out.1.cell 0
  have q1 := H0.out.1.cell 1
  simp at q0 q1
  go_enter Tryz.func37, Tryz.ntmps37
  go_wp2_with fail
  rw [← hW0]
  clear hW0
  obtain ⟨bx, hbx⟩ : ∃ b, b = numB x := ⟨_, rfl⟩
  obtain ⟨by', hby⟩ : ∃ b, b = numB y := ⟨_, rfl⟩
  refine (HNx.out _ bx hbx).mono ?_
  rintro e w1 ⟨rfl, hw1⟩
  rw [hw1]
  clear hw1 w1
  cases bx with
  | false =>
    have HC : Hid (ffF x y = 3) := ffF_3 (by rw [← hbx]; simp)
    clear hbx hby q0 q1
    have q0 := H0.out.2.1.cell 0
    have q1 := H0.out.2.1.cell 1
    have q2 := H0.out.2.1.frozen 0
    have q3 := H0.out.2.1.frozen 1
    simp at q0 q1
    have HF : Hid (Below w.heap.size w ((W9.setCell ⟨w.heap.size + 1, 0, none⟩ (.int .i64 3)).setCell ⟨w.heap.size + 1, 1, none⟩ (.int .i64 0)) ∧ Cl (w.heap.size + 1) [.int .i64 3, .int .i64 0] 25 ((W9.setCell ⟨w.heap.size + 1, 0, none⟩ (.int .i64 3)).setCell ⟨w.heap.size + 1, 1, none⟩ (.int .i64 0))) :=
      ⟨(H0.out.2.2.setCell (by simp) _).setCell (by simp) _, (H0.out.2.1.set 0 _).set 1 _⟩
    clear H0
    go_wp2
    have C := HF.out.2
    have e1 := C.cell 0
    have e2 := C.cell 1
    simp at e1 e2
    exact bodyPost_ret (v := .agg #[.int .i64 3, .int .i64 0]) (by simp [results, Tryz.results37, go_sem, e1, e2]) rfl ⟨by rw [HC.out], HF.out.1⟩
  | true =>
    have Hbx : Hid (true = numB x) := hbx
    have Hby : Hid (by' = numB y) := hby
    clear hbx hby
    go_wp2_with fail
    refine (HNy.out _ by' Hby.out).mono ?_
    rintro e w1 ⟨rfl, hw1⟩
    rw [hw1]
    clear hw1 w1
    cases by' with
    | false =>
      have HC : Hid (ffF x y = 3) := ffF_3 (by rw [← Hby.out]; simp)
      clear Hbx Hby q0 q1
      have q0 := H0.out.2.1.cell 0
      have q1 := H0.out.2.1.cell 1
      have q2 := H0.out.2.1.frozen 0
      have q3 := H0.out.2.1.frozen 1
      simp at q0 q1
      have HF : Hid (Below w.heap.size w ((W9.setCell ⟨w.heap.size + 1, 0, none⟩ (.int .i64 3)).setCell ⟨w.heap.size + 1, 1, none⟩ (.int .i64 0)) ∧ Cl (w.heap.size + 1) [.int .i64 3, .int .i64 0] 25 ((W9.setCell ⟨w.heap.size + 1, 0, none⟩ (.int .i64 3)).setCell ⟨w.heap.size + 1, 1, none⟩ (.int .i64 0))) :=
        ⟨(H0.out.2.2.setCell (by simp) _).setCell (by simp) _, (H0.out.2.1.set 0 _).set 1 _⟩
      clear H0
      go_wp2
      have C := HF.out.2
      have e1 := C.cell 0
      have e2 := C.cell 1
      simp at e1 e2
      exact bodyPost_ret (v := .agg #[.int .i64 3, .int .i64 0]) (by simp [results, Tryz.results37, go_sem, e1, e2]) rfl ⟨by rw [HC.out], HF.out.1⟩
    | true =>
      have hx := Hbx.out.symm
      have hy := Hby.out.symm
      have HB : Hid (numB x = true ∧ numB y = true) := ⟨hx, hy⟩
      have HGc : Hid (∀ W, Calls Tryz.prog 65 #[.int .i64 x, .int .i64 y] W fun e w' => e = .returned (.tuple #[.int .i64 (Int.gcd x y : Int), .agg #[.int .i64 0, .int .i64 0]]) ∧ Below W.heap.size W w') := fun W => Gcd_ok x y W (by unfold okB; rw [hx, hy]; rfl)
      clear Hbx Hby hx hy
      obtain ⟨G, hG⟩ : ∃ G, G = Int.gcd x y := ⟨_, rfl⟩
      rw [← hG] at HGc
      go_wp2_with fail
      refine (HGc.out _).mono ?_
      rintro e w1 ⟨rfl, k1⟩
      have X1 := H0.out.1.below k1
      have Y1 := H0.out.2.1.below k1
      have r0 := X1.cell 0
      have r1 := X1.cell 1
      have r2 := X1.lt
      have r3 := Y1.cell 0
      have r4 := Y1.cell 1
      have r5 := Y1.lt
      have r6 := Y1.frozen 0
      have r7 := Y1.frozen 1
      simp at r0 r1 r3 r4
      have H1 : Hid (Cl (w.heap.size + 1) [.int .i64 0, .int .i64 0] 25 w1 ∧ Below w.heap.size w w1) := ⟨Y1, H0.out.2.2.trans (k1.mono H0.out.2.2.size)⟩
      clear k1 q0 q1 X1 Y1
      by_cases h1 : y < 1
      · have d1 : decide (y < 1) = true := decide_eq_true h1
        have HC : Hid (ffF x y = 6) := ffF_6 HB.out (.inl h1)
        clear h1 hG
        have HF : Hid (Below w.heap.size w (((w1.setCell ⟨w.heap.size + 1, 0, none⟩ (.int .i64 6)).setCell ⟨w.heap.size + 1, 1, none⟩ (.int .i64 0)).alloc (.cells #[.int .i64 0, .int .i64 0] 25)) ∧ Cl (w.heap.size + 1) [.int .i64 6, .int .i64 0] 25 (((w1.setCell ⟨w.heap.size + 1, 0, none⟩ (.int .i64 6)).setCell ⟨w.heap.size + 1, 1, none⟩ (.int .i64 0)).alloc (.cells #[.int .i64 0, .int .i64 0] 25))) := by
          have h := (H1.out.2.setCell (p := ⟨w.heap.size + 1, 0, none⟩) (by simp) (.int .i64 6)).setCell (p := ⟨w.heap.size + 1, 1, none⟩) (by simp) (.int .i64 0)
          exact ⟨h.alloc h.size _, ((H1.out.1.set 0 _).set 1 _).alloc _⟩
        clear H0 H1
        go_wp2
        have C := HF.out.2
        have e1 := C.cell 0
        have e2 := C.cell 1
        simp at e1 e2
        exact bodyPost_ret (v := .agg #[.int .i64 6, .int .i64 0]) (by simp [results, Tryz.results37, go_sem, e1, e2]) rfl ⟨by rw [HC.out], HF.out.1⟩
      · have d1 : decide (y < 1) = false := decide_eq_false h1
        have hG1 : 1 ≤ G := by
          rw [hG]
          rcases Nat.eq_zero_or_pos (Int.gcd x y) with h | h
          · rw [Int.gcd_eq_zero_iff] at h; omega
          · exact h
        by_cases h2 : G = 1
        · have d2 : decide (1 < (G : Int)) = false := decide_eq_false (by omega)
          have HC : Hid (ffF x y = 0) := ffF_0 HB.out (by rw [← hG]; rintro (h | h); exact h1 h; exact h h2)
          clear h1 h2 hG1 hG
          have HF : Hid (Below w.heap.size w (((w1.setCell ⟨w.heap.size + 1, 0, none⟩ (.int .i64 0)).setCell ⟨w.heap.size + 1, 1, none⟩ (.int .i64 0)).alloc (.cells #[.int .i64 0, .int .i64 0] 25)) ∧ Cl (w.heap.size + 1) [.int .i64 0, .int .i64 0] 25 (((w1.setCell ⟨w.heap.size + 1, 0, none⟩ (.int .i64 0)).setCell ⟨w.heap.size + 1, 1, none⟩ (.int .i64 0)).alloc (.cells #[.int .i64 0, .int .i64 0] 25))) := by
            have h := (H1.out.2.setCell (p := ⟨w.heap.size + 1, 0, none⟩) (by simp) (.int .i64 0)).setCell (p := ⟨w.heap.size + 1, 1, none⟩) (by simp) (.int .i64 0)
            exact ⟨h.alloc h.size _, ((H1.out.1.set 0 _).set 1 _).alloc _⟩
          clear H0 H1
          go_wp2
          have C := HF.out.2
          have e1 := C.cell 0
          have e2 := C.cell 1
          simp at e1 e2
          exact bodyPost_ret (v := .agg #[.int .i64 0, .int .i64 0]) (by simp [results, Tryz.results37, go_sem, e1, e2]) rfl ⟨by rw [HC.out], HF.out.1⟩
        · have d2 : decide (1 < (G : Int)) = true := decide_eq_true (by omega)
          have HC : Hid (ffF x y = 6) := ffF_6 HB.out (.inr (by rw [← hG]; exact h2))
          clear h1 h2 hG1 hG
          have HF : Hid (Below w.heap.size w (((w1.setCell ⟨w.heap.size + 1, 0, none⟩ (.int .i64 6)).setCell ⟨w.heap.size + 1, 1, none⟩ (.int .i64 0)).alloc (.cells #[.int .i64 0, .int .i64 0] 25)) ∧ Cl (w.heap.size + 1) [.int .i64 6, .int .i64 0] 25 (((w1.setCell ⟨w.heap.size + 1, 0, none⟩ (.int .i64 6)).setCell ⟨w.heap.size + 1, 1, none⟩ (.int .i64 0)).alloc (.cells #[.int .i64 0, .int .i64 0] 25))) := by
            have h := (H1.out.2.setCell (p := ⟨w.heap.size + 1, 0, none⟩) (by simp) (.int .i64 6)).setCell (p := ⟨w.heap.size + 1, 1, none⟩) (by simp) (.int .i64 0)
            exact ⟨h.alloc h.size _, ((H1.out.1.set 0 _).set 1 _).alloc _⟩
          clear H0 H1
          go_wp2
          have C := HF.out.2
          have e1 := C.cell 0
          have e2 := C.cell 1
          simp at e1 e2
          exact bodyPost_ret (v := .agg #[.int .i64 6, .int .i64 0]) (by simp [results, Tryz.results37, go_sem, e1, e2]) rfl ⟨by rw [HC.out], HF.out.1⟩
end Go.Proofs.YtcnfhndejkngkaaGreatDoor
end
