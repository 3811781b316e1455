/- The law WholePowers: the walk, part Wb. Written by powers.py. -/
import Derived.Test.YtknmfohipdjlpaaWholeK
import Derived.Test.YtknmfohipdjlpaaRefA
import Derived.Test.YtknmfohipdjlpaaWholeL
set_option linter.unusedSimpArgs false
set_option linter.unusedVariables false
namespace Go.Proofs.Ytknmfohipdjlpaa.wholePowers
open Go.RowKit

set_option maxHeartbeats 800000 in
set_option maxRecDepth 100000 in
theorem walk_low_nn (a n m k : Int) (w : World) (h2 : okB a m = true) (hm : m < 1) (hNB : numB n = false) :
    Calls Try.prog 4 #[.int .i64 a, .int .i64 n, .int .i64 m, .int .i64 k] w fun e w' => e = .returned (.bool true) ∧ Below w.heap.size w w' := by
  have h3 : okB3 a n m = false := by unfold okB3; rw [hNB]; simp
  obtain ⟨b1, b3⟩ := okB_bounds h2
  have hN := fun W B hB h0 h1 h2 => refNumbersFault_any [a, n, m] B 0 3 W (by simp) hB (triple_cells a n m W B h0 h1 h2)
  have hP := fun w => Power_bad a n m w h3
  have hne1 := okB3_ne h3
  obtain ⟨c1, d1, hcd⟩ : ∃ c d, nf 0 [a, n, m] = (c, d) := ⟨_, _, rfl⟩
  rw [hcd] at hN hP hne1
  simp only at hN hP hne1
  have heq1 : (c1 == 0) = false := by simpa using hne1
  have HP : Hid (∀ w, _) := hP
  clear hcd hP
  have HN : Hid (∀ W B _ _ _ _, _) := hN
  clear hN
  have hN2 := fun W B hB h0 h1 => refNumbersFault_any [a, m] B 0 2 W (by simp) hB (two_cells a m W B h0 h1)
  rw [okB_nf h2] at hN2
  simp only at hN2
  have HI : Hid (∀ w, _) := fun w => Inverse_low a m w h2 hm
  have HN2 : Hid (∀ W B _ _ _, _) := hN2
  clear hN2
  have HH : Hid (okB3 a n m = false) := h3
  clear h3
  go_enter Try.func4, Try.ntmps4
  go_wp2_with fail
  refine (HN.out _ _ ?_ ?_ ?_ ?_).mono ?_
  · simp
  · go_simp
  · go_simp
  · go_simp
  rintro e w1 ⟨rfl, k1⟩
  have K1 : Hid (Below w.heap.size w w1) := (Below.alloc_self w _).trans (k1.mono (by simp))
  have zw1 : w.heap.size ≤ w1.heap.size := K1.out.size
  clear k1
  go_wp2_with fail
  refine (HP.out _).mono ?_
  rintro e w2 ⟨rfl, k2⟩
  have A2 : Hid (Sv w1.heap.size c1 d1 w2) := (Sv.new c1 d1 w1).below k2
  have K2 : Hid (Below w.heap.size w w2) := K1.out.trans (((Below.alloc_self w1 _).trans (k2.mono (by simp))).mono K1.out.size)
  clear k2 K1
  have z12 : w1.heap.size < w2.heap.size := A2.out.lt
  have zw2 : w.heap.size ≤ w2.heap.size := by omega
  obtain ⟨a0, a1, a2, a3, a4⟩ := A2.out
  go_wp2_with fail
  refine (begun_any _).mono ?_
  rintro e w3 ⟨rfl, k3⟩
  have F3 : Hid (Sv w2.heap.size c1 d1 w3) := (Sv.new c1 d1 w2).below k3
  have A3 : Hid (Sv w1.heap.size c1 d1 w3) := (A2.out.alloc _ _).below k3
  have K3 : Hid (Below w.heap.size w w3) := K2.out.trans (((Below.alloc_self w2 _).trans (k3.mono (by simp))).mono K2.out.size)
  clear a0 a1 a2 a3 a4 A2 K2 k3
  obtain ⟨a0, a1, a2, a3, a4⟩ := A3.out
  obtain ⟨f0, f1, f2, f3, f4⟩ := F3.out
  go_wp2_with fail
  refine (HN2.out _ _ ?_ ?_ ?_).mono ?_
  · simp
  · go_simp
  · go_simp
  rintro e w4 ⟨rfl, k4⟩
  have A4 : Hid (Sv w1.heap.size c1 d1 w4) := (A3.out.alloc _ _).below k4
  have F4 : Hid (Sv w2.heap.size c1 d1 w4) := (F3.out.alloc _ _).below k4
  have K4 : Hid (Below w.heap.size w w4) := K3.out.trans (((Below.alloc_self w3 _).trans (k4.mono (by simp))).mono K3.out.size)
  clear a0 a1 a2 a3 a4 f0 f1 f2 f3 f4 A3 F3 K3 k4
  obtain ⟨a0, a1, a2, a3, a4⟩ := A4.out
  obtain ⟨f0, f1, f2, f3, f4⟩ := F4.out
  go_wp2_with fail
  obtain ⟨w5s, hw5⟩ : ∃ x, x = (w4.setCell ⟨w1.heap.size, 0, none⟩ (.int .i64 0)).setCell ⟨w1.heap.size, 1, none⟩ (.int .i64 0) := ⟨_, rfl⟩
  rw [← hw5]
  have A5s : Hid (Sv w1.heap.size 0 0 w5s) := by rw [hw5]; exact A4.out.set 0 0
  have F5s : Hid (Sv w2.heap.size c1 d1 w5s) := by rw [hw5]; exact F4.out.other _ _ (by omega)
  have K5s : Hid (Below w.heap.size w w5s) := by rw [hw5]; exact (K4.out.setCell zw1 _).setCell zw1 _
  clear a0 a1 a2 a3 a4 f0 f1 f2 f3 f4 A4 F4 K4 hw5
  refine (F_any 3 1 _).mono ?_
  rintro e w6 ⟨rfl, k6⟩
  have A6 : Hid (Sv w1.heap.size 0 0 w6) := A5s.out.below k6
  have F6 : Hid (Sv w2.heap.size c1 d1 w6) := F5s.out.below k6
  have K6 : Hid (Below w.heap.size w w6) := K5s.out.trans (k6.mono K5s.out.size)
  clear A5s F5s K5s k6
  obtain ⟨a0, a1, a2, a3, a4⟩ := A6.out
  obtain ⟨f0, f1, f2, f3, f4⟩ := F6.out
  go_wp2_with fail
  obtain ⟨w7s, hw7⟩ : ∃ x, x = (w6.setCell ⟨w1.heap.size, 0, none⟩ (.int .i64 3)).setCell ⟨w1.heap.size, 1, none⟩ (.int .i64 1) := ⟨_, rfl⟩
  rw [← hw7]
  have A7s : Hid (Sv w1.heap.size 3 1 w7s) := by rw [hw7]; exact A6.out.set 3 1
  have F7s : Hid (Sv w2.heap.size c1 d1 w7s) := by rw [hw7]; exact F6.out.other _ _ (by omega)
  have K7s : Hid (Below w.heap.size w w7s) := by rw [hw7]; exact (K6.out.setCell zw1 _).setCell zw1 _
  clear a0 a1 a2 a3 a4 f0 f1 f2 f3 f4 A6 F6 K6 hw7
  refine (HI.out _).mono ?_
  rintro e w8 ⟨rfl, k8⟩
  have A8 : Hid (Sv w1.heap.size 3 1 w8) := A7s.out.below k8
  have F8 : Hid (Sv w2.heap.size c1 d1 w8) := F7s.out.below k8
  have K8 : Hid (Below w.heap.size w w8) := K7s.out.trans (k8.mono K7s.out.size)
  clear A7s F7s K7s k8
  obtain ⟨a0, a1, a2, a3, a4⟩ := A8.out
  obtain ⟨f0, f1, f2, f3, f4⟩ := F8.out
  go_wp2_with fail
  obtain ⟨w9s, hw9⟩ : ∃ x, x = (w8.setCell ⟨w2.heap.size, 0, none⟩ (.int .i64 3)).setCell ⟨w2.heap.size, 1, none⟩ (.int .i64 1) := ⟨_, rfl⟩
  rw [← hw9]
  have A9s : Hid (Sv w1.heap.size 3 1 w9s) := by rw [hw9]; exact A8.out.other _ _ (by omega)
  have F9s : Hid (Sv w2.heap.size 3 1 w9s) := by rw [hw9]; exact F8.out.set 3 1
  have K9s : Hid (Below w.heap.size w w9s) := by rw [hw9]; exact (K8.out.setCell zw2 _).setCell zw2 _
  clear a0 a1 a2 a3 a4 f0 f1 f2 f3 f4 A8 F8 K8 hw9
  obtain ⟨a0, a1, a2, a3, a4⟩ := A9s.out
  obtain ⟨f0, f1, f2, f3, f4⟩ := F9s.out
  go_quiet (fail)
  obtain ⟨w10, hw10⟩ : ∃ x, x = w9s.drewN nq := ⟨_, rfl⟩
  rw [← hw10]
  have A10 : Hid (Sv w1.heap.size 3 1 w10) := by rw [hw10]; exact A9s.out.drewN
  have F10 : Hid (Sv w2.heap.size 3 1 w10) := by rw [hw10]; exact F9s.out.drewN
  have K10 : Hid (Below w.heap.size w w10) := by rw [hw10]; exact below_drewN' K9s.out
  clear a0 a1 a2 a3 a4 f0 f1 f2 f3 f4 A9s F9s K9s hw10
  obtain ⟨a0, a1, a2, a3, a4⟩ := A10.out
  obtain ⟨f0, f1, f2, f3, f4⟩ := F10.out
  go_wp2_with fail
  obtain ⟨w11s, hw11⟩ : ∃ x, x = (w10.setCell ⟨w1.heap.size, 0, none⟩ (.int .i64 0)).setCell ⟨w1.heap.size, 1, none⟩ (.int .i64 0) := ⟨_, rfl⟩
  rw [← hw11]
  have A11s : Hid (Sv w1.heap.size 0 0 w11s) := by rw [hw11]; exact A10.out.set 0 0
  have F11s : Hid (Sv w2.heap.size 3 1 w11s) := by rw [hw11]; exact F10.out.other _ _ (by omega)
  have K11s : Hid (Below w.heap.size w w11s) := by rw [hw11]; exact (K10.out.setCell zw1 _).setCell zw1 _
  clear a0 a1 a2 a3 a4 f0 f1 f2 f3 f4 A10 F10 K10 hw11
  refine (number_any _ _).mono ?_
  rw [hNB]
  rintro e wn12 ⟨rfl, hwn⟩
  subst hwn
  obtain ⟨a0, a1, a2, a3, a4⟩ := A11s.out
  obtain ⟨f0, f1, f2, f3, f4⟩ := F11s.out
  go_wp2_with fail
  refine (F_any 3 0 _).mono ?_
  rintro e w13 ⟨rfl, k13⟩
  have A13 : Hid (Sv w1.heap.size 0 0 w13) := A11s.out.below k13
  have F13 : Hid (Sv w2.heap.size 3 1 w13) := F11s.out.below k13
  have K13 : Hid (Below w.heap.size w w13) := K11s.out.trans (k13.mono K11s.out.size)
  clear a0 a1 a2 a3 a4 f0 f1 f2 f3 f4 A11s F11s K11s k13
  obtain ⟨a0, a1, a2, a3, a4⟩ := A13.out
  obtain ⟨f0, f1, f2, f3, f4⟩ := F13.out
  go_wp2_with fail
  obtain ⟨w14s, hw14⟩ : ∃ x, x = (w13.setCell ⟨w1.heap.size, 0, none⟩ (.int .i64 3)).setCell ⟨w1.heap.size, 1, none⟩ (.int .i64 0) := ⟨_, rfl⟩
  rw [← hw14]
  have A14s : Hid (Sv w1.heap.size 3 0 w14s) := by rw [hw14]; exact A13.out.set 3 0
  have F14s : Hid (Sv w2.heap.size 3 1 w14s) := by rw [hw14]; exact F13.out.other _ _ (by omega)
  have K14s : Hid (Below w.heap.size w w14s) := by rw [hw14]; exact (K13.out.setCell zw1 _).setCell zw1 _
  clear a0 a1 a2 a3 a4 f0 f1 f2 f3 f4 A13 F13 K13 hw14
  refine (Root_far n k _ (Or.inl hNB)).mono ?_
  rintro e w15 ⟨rfl, k15⟩
  have A15 : Hid (Sv w1.heap.size 3 0 w15) := A14s.out.below k15
  have F15 : Hid (Sv w2.heap.size 3 1 w15) := F14s.out.below k15
  have K15 : Hid (Below w.heap.size w w15) := K14s.out.trans (k15.mono K14s.out.size)
  clear A14s F14s K14s k15
  obtain ⟨a0, a1, a2, a3, a4⟩ := A15.out
  obtain ⟨f0, f1, f2, f3, f4⟩ := F15.out
  go_wp2
  go_ret
  exact ⟨rfl, (K15.out.setCell zw2 _).setCell zw2 _⟩

set_option maxHeartbeats 800000 in
set_option maxRecDepth 100000 in
theorem walk_low_neg (a n m k : Int) (w : World) (h2 : okB a m = true) (hm : m < 1) (hNB : numB n = true) (hn : n < 0) :
    Calls Try.prog 4 #[.int .i64 a, .int .i64 n, .int .i64 m, .int .i64 k] w fun e w' => e = .returned (.bool true) ∧ Below w.heap.size w w' := by
  have h3 : okB3 a n m = true := by unfold okB at h2; unfold okB3; rw [hNB]; simpa using h2
  obtain ⟨b1, b3⟩ := okB_bounds h2
  have hN := fun W B hB h0 h1 h2 => refNumbersFault_any [a, n, m] B 0 3 W (by simp) hB (triple_cells a n m W B h0 h1 h2)
  rw [okB3_nf h3] at hN
  simp only at hN
  have HP : Hid (∀ w, _) := fun w => Power_neg a n m w h3 hn
  have HN : Hid (∀ W B _ _ _ _, _) := hN
  clear hN
  have hN2 := fun W B hB h0 h1 => refNumbersFault_any [a, m] B 0 2 W (by simp) hB (two_cells a m W B h0 h1)
  rw [okB_nf h2] at hN2
  simp only at hN2
  have HI : Hid (∀ w, _) := fun w => Inverse_low a m w h2 hm
  have HN2 : Hid (∀ W B _ _ _, _) := hN2
  clear hN2
  have HH : Hid (okB3 a n m = true) := h3
  clear h3
  go_enter Try.func4, Try.ntmps4
  go_wp2_with fail
  refine (HN.out _ _ ?_ ?_ ?_ ?_).mono ?_
  · simp
  · go_simp
  · go_simp
  · go_simp
  rintro e w1 ⟨rfl, k1⟩
  have K1 : Hid (Below w.heap.size w w1) := (Below.alloc_self w _).trans (k1.mono (by simp))
  have zw1 : w.heap.size ≤ w1.heap.size := K1.out.size
  clear k1
  go_wp2_with fail
  refine (F_any 3 1 _).mono ?_
  rintro e w1b ⟨rfl, k1b⟩
  have A1b : Hid (Sv w1.heap.size 0 0 w1b) := (Sv.new 0 0 w1).below k1b
  have K1b : Hid (Below w.heap.size w w1b) := K1.out.trans (((Below.alloc_self w1 _).trans (k1b.mono (by simp))).mono K1.out.size)
  clear k1b K1
  obtain ⟨a0, a1, a2, a3, a4⟩ := A1b.out
  go_wp2_with fail
  obtain ⟨w2s, hw2⟩ : ∃ x, x = (w1b.setCell ⟨w1.heap.size, 0, none⟩ (.int .i64 3)).setCell ⟨w1.heap.size, 1, none⟩ (.int .i64 1) := ⟨_, rfl⟩
  rw [← hw2]
  have A2s : Hid (Sv w1.heap.size 3 1 w2s) := by rw [hw2]; exact A1b.out.set 3 1
  have K2s : Hid (Below w.heap.size w w2s) := by rw [hw2]; exact (K1b.out.setCell zw1 _).setCell zw1 _
  clear a0 a1 a2 a3 a4 A1b K1b hw2
  refine (HP.out _).mono ?_
  rintro e w2 ⟨rfl, k2⟩
  have A2 : Hid (Sv w1.heap.size 3 1 w2) := A2s.out.below k2
  have K2 : Hid (Below w.heap.size w w2) := K2s.out.trans (k2.mono K2s.out.size)
  clear A2s K2s k2
  have z12 : w1.heap.size < w2.heap.size := A2.out.lt
  have zw2 : w.heap.size ≤ w2.heap.size := by omega
  obtain ⟨a0, a1, a2, a3, a4⟩ := A2.out
  go_wp2_with fail
  refine (begun_any _).mono ?_
  rintro e w3 ⟨rfl, k3⟩
  have F3 : Hid (Sv w2.heap.size 3 1 w3) := (Sv.new 3 1 w2).below k3
  have A3 : Hid (Sv w1.heap.size 3 1 w3) := (A2.out.alloc _ _).below k3
  have K3 : Hid (Below w.heap.size w w3) := K2.out.trans (((Below.alloc_self w2 _).trans (k3.mono (by simp))).mono K2.out.size)
  clear a0 a1 a2 a3 a4 A2 K2 k3
  obtain ⟨a0, a1, a2, a3, a4⟩ := A3.out
  obtain ⟨f0, f1, f2, f3, f4⟩ := F3.out
  go_wp2_with fail
  refine (HN2.out _ _ ?_ ?_ ?_).mono ?_
  · simp
  · go_simp
  · go_simp
  rintro e w4 ⟨rfl, k4⟩
  have A4 : Hid (Sv w1.heap.size 3 1 w4) := (A3.out.alloc _ _).below k4
  have F4 : Hid (Sv w2.heap.size 3 1 w4) := (F3.out.alloc _ _).below k4
  have K4 : Hid (Below w.heap.size w w4) := K3.out.trans (((Below.alloc_self w3 _).trans (k4.mono (by simp))).mono K3.out.size)
  clear a0 a1 a2 a3 a4 f0 f1 f2 f3 f4 A3 F3 K3 k4
  obtain ⟨a0, a1, a2, a3, a4⟩ := A4.out
  obtain ⟨f0, f1, f2, f3, f4⟩ := F4.out
  go_wp2_with fail
  obtain ⟨w5s, hw5⟩ : ∃ x, x = (w4.setCell ⟨w1.heap.size, 0, none⟩ (.int .i64 0)).setCell ⟨w1.heap.size, 1, none⟩ (.int .i64 0) := ⟨_, rfl⟩
  rw [← hw5]
  have A5s : Hid (Sv w1.heap.size 0 0 w5s) := by rw [hw5]; exact A4.out.set 0 0
  have F5s : Hid (Sv w2.heap.size 3 1 w5s) := by rw [hw5]; exact F4.out.other _ _ (by omega)
  have K5s : Hid (Below w.heap.size w w5s) := by rw [hw5]; exact (K4.out.setCell zw1 _).setCell zw1 _
  clear a0 a1 a2 a3 a4 f0 f1 f2 f3 f4 A4 F4 K4 hw5
  refine (F_any 3 1 _).mono ?_
  rintro e w6 ⟨rfl, k6⟩
  have A6 : Hid (Sv w1.heap.size 0 0 w6) := A5s.out.below k6
  have F6 : Hid (Sv w2.heap.size 3 1 w6) := F5s.out.below k6
  have K6 : Hid (Below w.heap.size w w6) := K5s.out.trans (k6.mono K5s.out.size)
  clear A5s F5s K5s k6
  obtain ⟨a0, a1, a2, a3, a4⟩ := A6.out
  obtain ⟨f0, f1, f2, f3, f4⟩ := F6.out
  go_wp2_with fail
  obtain ⟨w7s, hw7⟩ : ∃ x, x = (w6.setCell ⟨w1.heap.size, 0, none⟩ (.int .i64 3)).setCell ⟨w1.heap.size, 1, none⟩ (.int .i64 1) := ⟨_, rfl⟩
  rw [← hw7]
  have A7s : Hid (Sv w1.heap.size 3 1 w7s) := by rw [hw7]; exact A6.out.set 3 1
  have F7s : Hid (Sv w2.heap.size 3 1 w7s) := by rw [hw7]; exact F6.out.other _ _ (by omega)
  have K7s : Hid (Below w.heap.size w w7s) := by rw [hw7]; exact (K6.out.setCell zw1 _).setCell zw1 _
  clear a0 a1 a2 a3 a4 f0 f1 f2 f3 f4 A6 F6 K6 hw7
  refine (HI.out _).mono ?_
  rintro e w8 ⟨rfl, k8⟩
  have A8 : Hid (Sv w1.heap.size 3 1 w8) := A7s.out.below k8
  have F8 : Hid (Sv w2.heap.size 3 1 w8) := F7s.out.below k8
  have K8 : Hid (Below w.heap.size w w8) := K7s.out.trans (k8.mono K7s.out.size)
  clear A7s F7s K7s k8
  obtain ⟨a0, a1, a2, a3, a4⟩ := A8.out
  obtain ⟨f0, f1, f2, f3, f4⟩ := F8.out
  go_wp2_with fail
  obtain ⟨w9s, hw9⟩ : ∃ x, x = (w8.setCell ⟨w2.heap.size, 0, none⟩ (.int .i64 3)).setCell ⟨w2.heap.size, 1, none⟩ (.int .i64 1) := ⟨_, rfl⟩
  rw [← hw9]
  have A9s : Hid (Sv w1.heap.size 3 1 w9s) := by rw [hw9]; exact A8.out.other _ _ (by omega)
  have F9s : Hid (Sv w2.heap.size 3 1 w9s) := by rw [hw9]; exact F8.out.set 3 1
  have K9s : Hid (Below w.heap.size w w9s) := by rw [hw9]; exact (K8.out.setCell zw2 _).setCell zw2 _
  clear a0 a1 a2 a3 a4 f0 f1 f2 f3 f4 A8 F8 K8 hw9
  obtain ⟨a0, a1, a2, a3, a4⟩ := A9s.out
  obtain ⟨f0, f1, f2, f3, f4⟩ := F9s.out
  go_quiet (fail)
  obtain ⟨w10, hw10⟩ : ∃ x, x = w9s.drewN nq := ⟨_, rfl⟩
  rw [← hw10]
  have A10 : Hid (Sv w1.heap.size 3 1 w10) := by rw [hw10]; exact A9s.out.drewN
  have F10 : Hid (Sv w2.heap.size 3 1 w10) := by rw [hw10]; exact F9s.out.drewN
  have K10 : Hid (Below w.heap.size w w10) := by rw [hw10]; exact below_drewN' K9s.out
  clear a0 a1 a2 a3 a4 f0 f1 f2 f3 f4 A9s F9s K9s hw10
  obtain ⟨a0, a1, a2, a3, a4⟩ := A10.out
  obtain ⟨f0, f1, f2, f3, f4⟩ := F10.out
  go_wp2_with fail
  obtain ⟨w11s, hw11⟩ : ∃ x, x = (w10.setCell ⟨w1.heap.size, 0, none⟩ (.int .i64 0)).setCell ⟨w1.heap.size, 1, none⟩ (.int .i64 0) := ⟨_, rfl⟩
  rw [← hw11]
  have A11s : Hid (Sv w1.heap.size 0 0 w11s) := by rw [hw11]; exact A10.out.set 0 0
  have F11s : Hid (Sv w2.heap.size 3 1 w11s) := by rw [hw11]; exact F10.out.other _ _ (by omega)
  have K11s : Hid (Below w.heap.size w w11s) := by rw [hw11]; exact (K10.out.setCell zw1 _).setCell zw1 _
  clear a0 a1 a2 a3 a4 f0 f1 f2 f3 f4 A10 F10 K10 hw11
  refine (number_any _ _).mono ?_
  rw [hNB]
  rintro e wn12 ⟨rfl, hwn⟩
  subst hwn
  obtain ⟨a0, a1, a2, a3, a4⟩ := A11s.out
  obtain ⟨f0, f1, f2, f3, f4⟩ := F11s.out
  go_wp2_with fail
  refine (F_any 3 0 _).mono ?_
  rintro e w13 ⟨rfl, k13⟩
  have A13 : Hid (Sv w1.heap.size 0 0 w13) := A11s.out.below k13
  have F13 : Hid (Sv w2.heap.size 3 1 w13) := F11s.out.below k13
  have K13 : Hid (Below w.heap.size w w13) := K11s.out.trans (k13.mono K11s.out.size)
  clear a0 a1 a2 a3 a4 f0 f1 f2 f3 f4 A11s F11s K11s k13
  obtain ⟨a0, a1, a2, a3, a4⟩ := A13.out
  obtain ⟨f0, f1, f2, f3, f4⟩ := F13.out
  go_wp2_with fail
  obtain ⟨w14s, hw14⟩ : ∃ x, x = (w13.setCell ⟨w1.heap.size, 0, none⟩ (.int .i64 3)).setCell ⟨w1.heap.size, 1, none⟩ (.int .i64 0) := ⟨_, rfl⟩
  rw [← hw14]
  have A14s : Hid (Sv w1.heap.size 3 0 w14s) := by rw [hw14]; exact A13.out.set 3 0
  have F14s : Hid (Sv w2.heap.size 3 1 w14s) := by rw [hw14]; exact F13.out.other _ _ (by omega)
  have K14s : Hid (Below w.heap.size w w14s) := by rw [hw14]; exact (K13.out.setCell zw1 _).setCell zw1 _
  clear a0 a1 a2 a3 a4 f0 f1 f2 f3 f4 A13 F13 K13 hw14
  refine (Root_far n k _ (Or.inr hn)).mono ?_
  rintro e w15 ⟨rfl, k15⟩
  have A15 : Hid (Sv w1.heap.size 3 0 w15) := A14s.out.below k15
  have F15 : Hid (Sv w2.heap.size 3 1 w15) := F14s.out.below k15
  have K15 : Hid (Below w.heap.size w w15) := K14s.out.trans (k15.mono K14s.out.size)
  clear A14s F14s K14s k15
  obtain ⟨a0, a1, a2, a3, a4⟩ := A15.out
  obtain ⟨f0, f1, f2, f3, f4⟩ := F15.out
  go_wp2
  go_ret
  exact ⟨rfl, (K15.out.setCell zw2 _).setCell zw2 _⟩

set_option maxHeartbeats 800000 in
set_option maxRecDepth 100000 in
theorem walk_low_manyL (a n m k : Int) (w : World) (h2 : okB a m = true) (hm : m < 1) (hNB : numB n = true) (N : Nat) (eN : n = N) (hk : k < 1) :
    Calls Try.prog 4 #[.int .i64 a, .int .i64 n, .int .i64 m, .int .i64 k] w fun e w' => e = .returned (.bool true) ∧ Below w.heap.size w w' := by
  subst eN
  have h3 : okB3 a (N : Int) m = true := by unfold okB at h2; unfold okB3; rw [hNB]; simpa using h2
  obtain ⟨b1, b3⟩ := okB_bounds h2
  have b2 := numB_true hNB
  have hN := fun W B hB h0 h1 h2 => refNumbersFault_any [a, (N : Int), m] B 0 3 W (by simp) hB (triple_cells a (N : Int) m W B h0 h1 h2)
  rw [okB3_nf h3] at hN
  simp only at hN
  have HP : Hid (∀ w, _) := fun w => Power_low a (N : Int) m w h3 (by omega) hm
  have HN : Hid (∀ W B _ _ _ _, _) := hN
  clear hN
  have hN2 := fun W B hB h0 h1 => refNumbersFault_any [a, m] B 0 2 W (by simp) hB (two_cells a m W B h0 h1)
  rw [okB_nf h2] at hN2
  simp only at hN2
  have HI : Hid (∀ w, _) := fun w => Inverse_low a m w h2 hm
  have HN2 : Hid (∀ W B _ _ _, _) := hN2
  clear hN2
  have HH : Hid (okB3 a (N : Int) m = true) := h3
  clear h3
  go_enter Try.func4, Try.ntmps4
  go_wp2_with fail
  refine (HN.out _ _ ?_ ?_ ?_ ?_).mono ?_
  · simp
  · go_simp
  · go_simp
  · go_simp
  rintro e w1 ⟨rfl, k1⟩
  have K1 : Hid (Below w.heap.size w w1) := (Below.alloc_self w _).trans (k1.mono (by simp))
  have zw1 : w.heap.size ≤ w1.heap.size := K1.out.size
  clear k1
  go_wp2_with fail
  refine (F_any 3 2 _).mono ?_
  rintro e w1b ⟨rfl, k1b⟩
  have A1b : Hid (Sv w1.heap.size 0 0 w1b) := (Sv.new 0 0 w1).below k1b
  have K1b : Hid (Below w.heap.size w w1b) := K1.out.trans (((Below.alloc_self w1 _).trans (k1b.mono (by simp))).mono K1.out.size)
  clear k1b K1
  obtain ⟨a0, a1, a2, a3, a4⟩ := A1b.out
  go_wp2_with fail
  obtain ⟨w2s, hw2⟩ : ∃ x, x = (w1b.setCell ⟨w1.heap.size, 0, none⟩ (.int .i64 3)).setCell ⟨w1.heap.size, 1, none⟩ (.int .i64 2) := ⟨_, rfl⟩
  rw [← hw2]
  have A2s : Hid (Sv w1.heap.size 3 2 w2s) := by rw [hw2]; exact A1b.out.set 3 2
  have K2s : Hid (Below w.heap.size w w2s) := by rw [hw2]; exact (K1b.out.setCell zw1 _).setCell zw1 _
  clear a0 a1 a2 a3 a4 A1b K1b hw2
  refine (HP.out _).mono ?_
  rintro e w2 ⟨rfl, k2⟩
  have A2 : Hid (Sv w1.heap.size 3 2 w2) := A2s.out.below k2
  have K2 : Hid (Below w.heap.size w w2) := K2s.out.trans (k2.mono K2s.out.size)
  clear A2s K2s k2
  have z12 : w1.heap.size < w2.heap.size := A2.out.lt
  have zw2 : w.heap.size ≤ w2.heap.size := by omega
  obtain ⟨a0, a1, a2, a3, a4⟩ := A2.out
  go_wp2_with fail
  refine (begun_any _).mono ?_
  rintro e w3 ⟨rfl, k3⟩
  have F3 : Hid (Sv w2.heap.size 3 2 w3) := (Sv.new 3 2 w2).below k3
  have A3 : Hid (Sv w1.heap.size 3 2 w3) := (A2.out.alloc _ _).below k3
  have K3 : Hid (Below w.heap.size w w3) := K2.out.trans (((Below.alloc_self w2 _).trans (k3.mono (by simp))).mono K2.out.size)
  clear a0 a1 a2 a3 a4 A2 K2 k3
  obtain ⟨a0, a1, a2, a3, a4⟩ := A3.out
  obtain ⟨f0, f1, f2, f3, f4⟩ := F3.out
  go_wp2_with fail
  refine (HN2.out _ _ ?_ ?_ ?_).mono ?_
  · simp
  · go_simp
  · go_simp
  rintro e w4 ⟨rfl, k4⟩
  have A4 : Hid (Sv w1.heap.size 3 2 w4) := (A3.out.alloc _ _).below k4
  have F4 : Hid (Sv w2.heap.size 3 2 w4) := (F3.out.alloc _ _).below k4
  have K4 : Hid (Below w.heap.size w w4) := K3.out.trans (((Below.alloc_self w3 _).trans (k4.mono (by simp))).mono K3.out.size)
  clear a0 a1 a2 a3 a4 f0 f1 f2 f3 f4 A3 F3 K3 k4
  obtain ⟨a0, a1, a2, a3, a4⟩ := A4.out
  obtain ⟨f0, f1, f2, f3, f4⟩ := F4.out
  go_wp2_with fail
  obtain ⟨w5s, hw5⟩ : ∃ x, x = (w4.setCell ⟨w1.heap.size, 0, none⟩ (.int .i64 0)).setCell ⟨w1.heap.size, 1, none⟩ (.int .i64 0) := ⟨_, rfl⟩
  rw [← hw5]
  have A5s : Hid (Sv w1.heap.size 0 0 w5s) := by rw [hw5]; exact A4.out.set 0 0
  have F5s : Hid (Sv w2.heap.size 3 2 w5s) := by rw [hw5]; exact F4.out.other _ _ (by omega)
  have K5s : Hid (Below w.heap.size w w5s) := by rw [hw5]; exact (K4.out.setCell zw1 _).setCell zw1 _
  clear a0 a1 a2 a3 a4 f0 f1 f2 f3 f4 A4 F4 K4 hw5
  refine (F_any 3 1 _).mono ?_
  rintro e w6 ⟨rfl, k6⟩
  have A6 : Hid (Sv w1.heap.size 0 0 w6) := A5s.out.below k6
  have F6 : Hid (Sv w2.heap.size 3 2 w6) := F5s.out.below k6
  have K6 : Hid (Below w.heap.size w w6) := K5s.out.trans (k6.mono K5s.out.size)
  clear A5s F5s K5s k6
  obtain ⟨a0, a1, a2, a3, a4⟩ := A6.out
  obtain ⟨f0, f1, f2, f3, f4⟩ := F6.out
  go_wp2_with fail
  obtain ⟨w7s, hw7⟩ : ∃ x, x = (w6.setCell ⟨w1.heap.size, 0, none⟩ (.int .i64 3)).setCell ⟨w1.heap.size, 1, none⟩ (.int .i64 1) := ⟨_, rfl⟩
  rw [← hw7]
  have A7s : Hid (Sv w1.heap.size 3 1 w7s) := by rw [hw7]; exact A6.out.set 3 1
  have F7s : Hid (Sv w2.heap.size 3 2 w7s) := by rw [hw7]; exact F6.out.other _ _ (by omega)
  have K7s : Hid (Below w.heap.size w w7s) := by rw [hw7]; exact (K6.out.setCell zw1 _).setCell zw1 _
  clear a0 a1 a2 a3 a4 f0 f1 f2 f3 f4 A6 F6 K6 hw7
  refine (HI.out _).mono ?_
  rintro e w8 ⟨rfl, k8⟩
  have A8 : Hid (Sv w1.heap.size 3 1 w8) := A7s.out.below k8
  have F8 : Hid (Sv w2.heap.size 3 2 w8) := F7s.out.below k8
  have K8 : Hid (Below w.heap.size w w8) := K7s.out.trans (k8.mono K7s.out.size)
  clear A7s F7s K7s k8
  obtain ⟨a0, a1, a2, a3, a4⟩ := A8.out
  obtain ⟨f0, f1, f2, f3, f4⟩ := F8.out
  go_wp2_with fail
  obtain ⟨w9s, hw9⟩ : ∃ x, x = (w8.setCell ⟨w2.heap.size, 0, none⟩ (.int .i64 3)).setCell ⟨w2.heap.size, 1, none⟩ (.int .i64 1) := ⟨_, rfl⟩
  rw [← hw9]
  have A9s : Hid (Sv w1.heap.size 3 1 w9s) := by rw [hw9]; exact A8.out.other _ _ (by omega)
  have F9s : Hid (Sv w2.heap.size 3 1 w9s) := by rw [hw9]; exact F8.out.set 3 1
  have K9s : Hid (Below w.heap.size w w9s) := by rw [hw9]; exact (K8.out.setCell zw2 _).setCell zw2 _
  clear a0 a1 a2 a3 a4 f0 f1 f2 f3 f4 A8 F8 K8 hw9
  obtain ⟨a0, a1, a2, a3, a4⟩ := A9s.out
  obtain ⟨f0, f1, f2, f3, f4⟩ := F9s.out
  go_quiet (fail)
  obtain ⟨w10, hw10⟩ : ∃ x, x = w9s.drewN nq := ⟨_, rfl⟩
  rw [← hw10]
  have A10 : Hid (Sv w1.heap.size 3 1 w10) := by rw [hw10]; exact A9s.out.drewN
  have F10 : Hid (Sv w2.heap.size 3 1 w10) := by rw [hw10]; exact F9s.out.drewN
  have K10 : Hid (Below w.heap.size w w10) := by rw [hw10]; exact below_drewN' K9s.out
  clear a0 a1 a2 a3 a4 f0 f1 f2 f3 f4 A9s F9s K9s hw10
  obtain ⟨a0, a1, a2, a3, a4⟩ := A10.out
  obtain ⟨f0, f1, f2, f3, f4⟩ := F10.out
  go_wp2_with fail
  obtain ⟨w11s, hw11⟩ : ∃ x, x = (w10.setCell ⟨w1.heap.size, 0, none⟩ (.int .i64 0)).setCell ⟨w1.heap.size, 1, none⟩ (.int .i64 0) := ⟨_, rfl⟩
  rw [← hw11]
  have A11s : Hid (Sv w1.heap.size 0 0 w11s) := by rw [hw11]; exact A10.out.set 0 0
  have F11s : Hid (Sv w2.heap.size 3 1 w11s) := by rw [hw11]; exact F10.out.other _ _ (by omega)
  have K11s : Hid (Below w.heap.size w w11s) := by rw [hw11]; exact (K10.out.setCell zw1 _).setCell zw1 _
  clear a0 a1 a2 a3 a4 f0 f1 f2 f3 f4 A10 F10 K10 hw11
  refine (number_any _ _).mono ?_
  rw [hNB]
  rintro e wn12 ⟨rfl, hwn⟩
  subst hwn
  obtain ⟨a0, a1, a2, a3, a4⟩ := A11s.out
  obtain ⟨f0, f1, f2, f3, f4⟩ := F11s.out
  go_wp2_with fail
  refine (F_any 3 1 _).mono ?_
  rintro e w13 ⟨rfl, k13⟩
  have A13 : Hid (Sv w1.heap.size 0 0 w13) := A11s.out.below k13
  have F13 : Hid (Sv w2.heap.size 3 1 w13) := F11s.out.below k13
  have K13 : Hid (Below w.heap.size w w13) := K11s.out.trans (k13.mono K11s.out.size)
  clear a0 a1 a2 a3 a4 f0 f1 f2 f3 f4 A11s F11s K11s k13
  obtain ⟨a0, a1, a2, a3, a4⟩ := A13.out
  obtain ⟨f0, f1, f2, f3, f4⟩ := F13.out
  go_wp2_with fail
  obtain ⟨w14s, hw14⟩ : ∃ x, x = (w13.setCell ⟨w1.heap.size, 0, none⟩ (.int .i64 3)).setCell ⟨w1.heap.size, 1, none⟩ (.int .i64 1) := ⟨_, rfl⟩
  rw [← hw14]
  have A14s : Hid (Sv w1.heap.size 3 1 w14s) := by rw [hw14]; exact A13.out.set 3 1
  have F14s : Hid (Sv w2.heap.size 3 1 w14s) := by rw [hw14]; exact F13.out.other _ _ (by omega)
  have K14s : Hid (Below w.heap.size w w14s) := by rw [hw14]; exact (K13.out.setCell zw1 _).setCell zw1 _
  clear a0 a1 a2 a3 a4 f0 f1 f2 f3 f4 A13 F13 K13 hw14
  refine (Root_many (N : Int) k _ hNB (by omega) (Or.inl hk)).mono ?_
  rintro e w15 ⟨rfl, k15⟩
  have A15 : Hid (Sv w1.heap.size 3 1 w15) := A14s.out.below k15
  have F15 : Hid (Sv w2.heap.size 3 1 w15) := F14s.out.below k15
  have K15 : Hid (Below w.heap.size w w15) := K14s.out.trans (k15.mono K14s.out.size)
  clear A14s F14s K14s k15
  obtain ⟨a0, a1, a2, a3, a4⟩ := A15.out
  obtain ⟨f0, f1, f2, f3, f4⟩ := F15.out
  go_wp2
  go_ret
  exact ⟨rfl, (K15.out.setCell zw2 _).setCell zw2 _⟩

set_option maxHeartbeats 800000 in
set_option maxRecDepth 100000 in
theorem walk_low_manyH (a n m k : Int) (w : World) (h2 : okB a m = true) (hm : m < 1) (hNB : numB n = true) (N : Nat) (eN : n = N) (hk : 60 < k) :
    Calls Try.prog 4 #[.int .i64 a, .int .i64 n, .int .i64 m, .int .i64 k] w fun e w' => e = .returned (.bool true) ∧ Below w.heap.size w w' := by
  subst eN
  have h3 : okB3 a (N : Int) m = true := by unfold okB at h2; unfold okB3; rw [hNB]; simpa using h2
  obtain ⟨b1, b3⟩ := okB_bounds h2
  have b2 := numB_true hNB
  have hN := fun W B hB h0 h1 h2 => refNumbersFault_any [a, (N : Int), m] B 0 3 W (by simp) hB (triple_cells a (N : Int) m W B h0 h1 h2)
  rw [okB3_nf h3] at hN
  simp only at hN
  have HP : Hid (∀ w, _) := fun w => Power_low a (N : Int) m w h3 (by omega) hm
  have HN : Hid (∀ W B _ _ _ _, _) := hN
  clear hN
  have hN2 := fun W B hB h0 h1 => refNumbersFault_any [a, m] B 0 2 W (by simp) hB (two_cells a m W B h0 h1)
  rw [okB_nf h2] at hN2
  simp only at hN2
  have HI : Hid (∀ w, _) := fun w => Inverse_low a m w h2 hm
  have HN2 : Hid (∀ W B _ _ _, _) := hN2
  clear hN2
  have HH : Hid (okB3 a (N : Int) m = true) := h3
  clear h3
  go_enter Try.func4, Try.ntmps4
  go_wp2_with fail
  refine (HN.out _ _ ?_ ?_ ?_ ?_).mono ?_
  · simp
  · go_simp
  · go_simp
  · go_simp
  rintro e w1 ⟨rfl, k1⟩
  have K1 : Hid (Below w.heap.size w w1) := (Below.alloc_self w _).trans (k1.mono (by simp))
  have zw1 : w.heap.size ≤ w1.heap.size := K1.out.size
  clear k1
  go_wp2_with fail
  refine (F_any 3 2 _).mono ?_
  rintro e w1b ⟨rfl, k1b⟩
  have A1b : Hid (Sv w1.heap.size 0 0 w1b) := (Sv.new 0 0 w1).below k1b
  have K1b : Hid (Below w.heap.size w w1b) := K1.out.trans (((Below.alloc_self w1 _).trans (k1b.mono (by simp))).mono K1.out.size)
  clear k1b K1
  obtain ⟨a0, a1, a2, a3, a4⟩ := A1b.out
  go_wp2_with fail
  obtain ⟨w2s, hw2⟩ : ∃ x, x = (w1b.setCell ⟨w1.heap.size, 0, none⟩ (.int .i64 3)).setCell ⟨w1.heap.size, 1, none⟩ (.int .i64 2) := ⟨_, rfl⟩
  rw [← hw2]
  have A2s : Hid (Sv w1.heap.size 3 2 w2s) := by rw [hw2]; exact A1b.out.set 3 2
  have K2s : Hid (Below w.heap.size w w2s) := by rw [hw2]; exact (K1b.out.setCell zw1 _).setCell zw1 _
  clear a0 a1 a2 a3 a4 A1b K1b hw2
  refine (HP.out _).mono ?_
  rintro e w2 ⟨rfl, k2⟩
  have A2 : Hid (Sv w1.heap.size 3 2 w2) := A2s.out.below k2
  have K2 : Hid (Below w.heap.size w w2) := K2s.out.trans (k2.mono K2s.out.size)
  clear A2s K2s k2
  have z12 : w1.heap.size < w2.heap.size := A2.out.lt
  have zw2 : w.heap.size ≤ w2.heap.size := by omega
  obtain ⟨a0, a1, a2, a3, a4⟩ := A2.out
  go_wp2_with fail
  refine (begun_any _).mono ?_
  rintro e w3 ⟨rfl, k3⟩
  have F3 : Hid (Sv w2.heap.size 3 2 w3) := (Sv.new 3 2 w2).below k3
  have A3 : Hid (Sv w1.heap.size 3 2 w3) := (A2.out.alloc _ _).below k3
  have K3 : Hid (Below w.heap.size w w3) := K2.out.trans (((Below.alloc_self w2 _).trans (k3.mono (by simp))).mono K2.out.size)
  clear a0 a1 a2 a3 a4 A2 K2 k3
  obtain ⟨a0, a1, a2, a3, a4⟩ := A3.out
  obtain ⟨f0, f1, f2, f3, f4⟩ := F3.out
  go_wp2_with fail
  refine (HN2.out _ _ ?_ ?_ ?_).mono ?_
  · simp
  · go_simp
  · go_simp
  rintro e w4 ⟨rfl, k4⟩
  have A4 : Hid (Sv w1.heap.size 3 2 w4) := (A3.out.alloc _ _).below k4
  have F4 : Hid (Sv w2.heap.size 3 2 w4) := (F3.out.alloc _ _).below k4
  have K4 : Hid (Below w.heap.size w w4) := K3.out.trans (((Below.alloc_self w3 _).trans (k4.mono (by simp))).mono K3.out.size)
  clear a0 a1 a2 a3 a4 f0 f1 f2 f3 f4 A3 F3 K3 k4
  obtain ⟨a0, a1, a2, a3, a4⟩ := A4.out
  obtain ⟨f0, f1, f2, f3, f4⟩ := F4.out
  go_wp2_with fail
  obtain ⟨w5s, hw5⟩ : ∃ x, x = (w4.setCell ⟨w1.heap.size, 0, none⟩ (.int .i64 0)).setCell ⟨w1.heap.size, 1, none⟩ (.int .i64 0) := ⟨_, rfl⟩
  rw [← hw5]
  have A5s : Hid (Sv w1.heap.size 0 0 w5s) := by rw [hw5]; exact A4.out.set 0 0
  have F5s : Hid (Sv w2.heap.size 3 2 w5s) := by rw [hw5]; exact F4.out.other _ _ (by omega)
  have K5s : Hid (Below w.heap.size w w5s) := by rw [hw5]; exact (K4.out.setCell zw1 _).setCell zw1 _
  clear a0 a1 a2 a3 a4 f0 f1 f2 f3 f4 A4 F4 K4 hw5
  refine (F_any 3 1 _).mono ?_
  rintro e w6 ⟨rfl, k6⟩
  have A6 : Hid (Sv w1.heap.size 0 0 w6) := A5s.out.below k6
  have F6 : Hid (Sv w2.heap.size 3 2 w6) := F5s.out.below k6
  have K6 : Hid (Below w.heap.size w w6) := K5s.out.trans (k6.mono K5s.out.size)
  clear A5s F5s K5s k6
  obtain ⟨a0, a1, a2, a3, a4⟩ := A6.out
  obtain ⟨f0, f1, f2, f3, f4⟩ := F6.out
  go_wp2_with fail
  obtain ⟨w7s, hw7⟩ : ∃ x, x = (w6.setCell ⟨w1.heap.size, 0, none⟩ (.int .i64 3)).setCell ⟨w1.heap.size, 1, none⟩ (.int .i64 1) := ⟨_, rfl⟩
  rw [← hw7]
  have A7s : Hid (Sv w1.heap.size 3 1 w7s) := by rw [hw7]; exact A6.out.set 3 1
  have F7s : Hid (Sv w2.heap.size 3 2 w7s) := by rw [hw7]; exact F6.out.other _ _ (by omega)
  have K7s : Hid (Below w.heap.size w w7s) := by rw [hw7]; exact (K6.out.setCell zw1 _).setCell zw1 _
  clear a0 a1 a2 a3 a4 f0 f1 f2 f3 f4 A6 F6 K6 hw7
  refine (HI.out _).mono ?_
  rintro e w8 ⟨rfl, k8⟩
  have A8 : Hid (Sv w1.heap.size 3 1 w8) := A7s.out.below k8
  have F8 : Hid (Sv w2.heap.size 3 2 w8) := F7s.out.below k8
  have K8 : Hid (Below w.heap.size w w8) := K7s.out.trans (k8.mono K7s.out.size)
  clear A7s F7s K7s k8
  obtain ⟨a0, a1, a2, a3, a4⟩ := A8.out
  obtain ⟨f0, f1, f2, f3, f4⟩ := F8.out
  go_wp2_with fail
  obtain ⟨w9s, hw9⟩ : ∃ x, x = (w8.setCell ⟨w2.heap.size, 0, none⟩ (.int .i64 3)).setCell ⟨w2.heap.size, 1, none⟩ (.int .i64 1) := ⟨_, rfl⟩
  rw [← hw9]
  have A9s : Hid (Sv w1.heap.size 3 1 w9s) := by rw [hw9]; exact A8.out.other _ _ (by omega)
  have F9s : Hid (Sv w2.heap.size 3 1 w9s) := by rw [hw9]; exact F8.out.set 3 1
  have K9s : Hid (Below w.heap.size w w9s) := by rw [hw9]; exact (K8.out.setCell zw2 _).setCell zw2 _
  clear a0 a1 a2 a3 a4 f0 f1 f2 f3 f4 A8 F8 K8 hw9
  obtain ⟨a0, a1, a2, a3, a4⟩ := A9s.out
  obtain ⟨f0, f1, f2, f3, f4⟩ := F9s.out
  go_quiet (fail)
  obtain ⟨w10, hw10⟩ : ∃ x, x = w9s.drewN nq := ⟨_, rfl⟩
  rw [← hw10]
  have A10 : Hid (Sv w1.heap.size 3 1 w10) := by rw [hw10]; exact A9s.out.drewN
  have F10 : Hid (Sv w2.heap.size 3 1 w10) := by rw [hw10]; exact F9s.out.drewN
  have K10 : Hid (Below w.heap.size w w10) := by rw [hw10]; exact below_drewN' K9s.out
  clear a0 a1 a2 a3 a4 f0 f1 f2 f3 f4 A9s F9s K9s hw10
  obtain ⟨a0, a1, a2, a3, a4⟩ := A10.out
  obtain ⟨f0, f1, f2, f3, f4⟩ := F10.out
  go_wp2_with fail
  obtain ⟨w11s, hw11⟩ : ∃ x, x = (w10.setCell ⟨w1.heap.size, 0, none⟩ (.int .i64 0)).setCell ⟨w1.heap.size, 1, none⟩ (.int .i64 0) := ⟨_, rfl⟩
  rw [← hw11]
  have A11s : Hid (Sv w1.heap.size 0 0 w11s) := by rw [hw11]; exact A10.out.set 0 0
  have F11s : Hid (Sv w2.heap.size 3 1 w11s) := by rw [hw11]; exact F10.out.other _ _ (by omega)
  have K11s : Hid (Below w.heap.size w w11s) := by rw [hw11]; exact (K10.out.setCell zw1 _).setCell zw1 _
  clear a0 a1 a2 a3 a4 f0 f1 f2 f3 f4 A10 F10 K10 hw11
  refine (number_any _ _).mono ?_
  rw [hNB]
  rintro e wn12 ⟨rfl, hwn⟩
  subst hwn
  obtain ⟨a0, a1, a2, a3, a4⟩ := A11s.out
  obtain ⟨f0, f1, f2, f3, f4⟩ := F11s.out
  go_wp2_with fail
  refine (F_any 3 1 _).mono ?_
  rintro e w13 ⟨rfl, k13⟩
  have A13 : Hid (Sv w1.heap.size 0 0 w13) := A11s.out.below k13
  have F13 : Hid (Sv w2.heap.size 3 1 w13) := F11s.out.below k13
  have K13 : Hid (Below w.heap.size w w13) := K11s.out.trans (k13.mono K11s.out.size)
  clear a0 a1 a2 a3 a4 f0 f1 f2 f3 f4 A11s F11s K11s k13
  obtain ⟨a0, a1, a2, a3, a4⟩ := A13.out
  obtain ⟨f0, f1, f2, f3, f4⟩ := F13.out
  go_wp2_with fail
  obtain ⟨w14s, hw14⟩ : ∃ x, x = (w13.setCell ⟨w1.heap.size, 0, none⟩ (.int .i64 3)).setCell ⟨w1.heap.size, 1, none⟩ (.int .i64 1) := ⟨_, rfl⟩
  rw [← hw14]
  have A14s : Hid (Sv w1.heap.size 3 1 w14s) := by rw [hw14]; exact A13.out.set 3 1
  have F14s : Hid (Sv w2.heap.size 3 1 w14s) := by rw [hw14]; exact F13.out.other _ _ (by omega)
  have K14s : Hid (Below w.heap.size w w14s) := by rw [hw14]; exact (K13.out.setCell zw1 _).setCell zw1 _
  clear a0 a1 a2 a3 a4 f0 f1 f2 f3 f4 A13 F13 K13 hw14
  refine (Root_many (N : Int) k _ hNB (by omega) (Or.inr hk)).mono ?_
  rintro e w15 ⟨rfl, k15⟩
  have A15 : Hid (Sv w1.heap.size 3 1 w15) := A14s.out.below k15
  have F15 : Hid (Sv w2.heap.size 3 1 w15) := F14s.out.below k15
  have K15 : Hid (Below w.heap.size w w15) := K14s.out.trans (k15.mono K14s.out.size)
  clear A14s F14s K14s k15
  obtain ⟨a0, a1, a2, a3, a4⟩ := A15.out
  obtain ⟨f0, f1, f2, f3, f4⟩ := F15.out
  go_wp2
  go_ret
  exact ⟨rfl, (K15.out.setCell zw2 _).setCell zw2 _⟩

set_option maxHeartbeats 800000 in
set_option maxRecDepth 100000 in
theorem walk_low_ok (a n m k : Int) (w : World) (h2 : okB a m = true) (hm : m < 1) (hNB : numB n = true) (N : Nat) (eN : n = N) (K : Nat) (eK : k = K) (hK1 : 1 ≤ K) (hK2 : K ≤ 60) :
    Calls Try.prog 4 #[.int .i64 a, .int .i64 n, .int .i64 m, .int .i64 k] w fun e w' => e = .returned (.bool true) ∧ Below w.heap.size w w' := by
  subst eN eK
  have h3 : okB3 a (N : Int) m = true := by unfold okB at h2; unfold okB3; rw [hNB]; simpa using h2
  obtain ⟨b1, b3⟩ := okB_bounds h2
  have b2 := numB_true hNB
  have hN := fun W B hB h0 h1 h2 => refNumbersFault_any [a, (N : Int), m] B 0 3 W (by simp) hB (triple_cells a (N : Int) m W B h0 h1 h2)
  rw [okB3_nf h3] at hN
  simp only at hN
  have HP : Hid (∀ w, _) := fun w => Power_low a (N : Int) m w h3 (by omega) hm
  have HN : Hid (∀ W B _ _ _ _, _) := hN
  clear hN
  have hN2 := fun W B hB h0 h1 => refNumbersFault_any [a, m] B 0 2 W (by simp) hB (two_cells a m W B h0 h1)
  rw [okB_nf h2] at hN2
  simp only at hN2
  have HI : Hid (∀ w, _) := fun w => Inverse_low a m w h2 hm
  have HN2 : Hid (∀ W B _ _ _, _) := hN2
  clear hN2
  have HH : Hid (okB3 a (N : Int) m = true) := h3
  clear h3
  go_enter Try.func4, Try.ntmps4
  go_wp2_with fail
  refine (HN.out _ _ ?_ ?_ ?_ ?_).mono ?_
  · simp
  · go_simp
  · go_simp
  · go_simp
  rintro e w1 ⟨rfl, k1⟩
  have K1 : Hid (Below w.heap.size w w1) := (Below.alloc_self w _).trans (k1.mono (by simp))
  have zw1 : w.heap.size ≤ w1.heap.size := K1.out.size
  clear k1
  go_wp2_with fail
  refine (F_any 3 2 _).mono ?_
  rintro e w1b ⟨rfl, k1b⟩
  have A1b : Hid (Sv w1.heap.size 0 0 w1b) := (Sv.new 0 0 w1).below k1b
  have K1b : Hid (Below w.heap.size w w1b) := K1.out.trans (((Below.alloc_self w1 _).trans (k1b.mono (by simp))).mono K1.out.size)
  clear k1b K1
  obtain ⟨a0, a1, a2, a3, a4⟩ := A1b.out
  go_wp2_with fail
  obtain ⟨w2s, hw2⟩ : ∃ x, x = (w1b.setCell ⟨w1.heap.size, 0, none⟩ (.int .i64 3)).setCell ⟨w1.heap.size, 1, none⟩ (.int .i64 2) := ⟨_, rfl⟩
  rw [← hw2]
  have A2s : Hid (Sv w1.heap.size 3 2 w2s) := by rw [hw2]; exact A1b.out.set 3 2
  have K2s : Hid (Below w.heap.size w w2s) := by rw [hw2]; exact (K1b.out.setCell zw1 _).setCell zw1 _
  clear a0 a1 a2 a3 a4 A1b K1b hw2
  refine (HP.out _).mono ?_
  rintro e w2 ⟨rfl, k2⟩
  have A2 : Hid (Sv w1.heap.size 3 2 w2) := A2s.out.below k2
  have K2 : Hid (Below w.heap.size w w2) := K2s.out.trans (k2.mono K2s.out.size)
  clear A2s K2s k2
  have z12 : w1.heap.size < w2.heap.size := A2.out.lt
  have zw2 : w.heap.size ≤ w2.heap.size := by omega
  obtain ⟨a0, a1, a2, a3, a4⟩ := A2.out
  go_wp2_with fail
  refine (begun_any _).mono ?_
  rintro e w3 ⟨rfl, k3⟩
  have F3 : Hid (Sv w2.heap.size 3 2 w3) := (Sv.new 3 2 w2).below k3
  have A3 : Hid (Sv w1.heap.size 3 2 w3) := (A2.out.alloc _ _).below k3
  have K3 : Hid (Below w.heap.size w w3) := K2.out.trans (((Below.alloc_self w2 _).trans (k3.mono (by simp))).mono K2.out.size)
  clear a0 a1 a2 a3 a4 A2 K2 k3
  obtain ⟨a0, a1, a2, a3, a4⟩ := A3.out
  obtain ⟨f0, f1, f2, f3, f4⟩ := F3.out
  go_wp2_with fail
  refine (HN2.out _ _ ?_ ?_ ?_).mono ?_
  · simp
  · go_simp
  · go_simp
  rintro e w4 ⟨rfl, k4⟩
  have A4 : Hid (Sv w1.heap.size 3 2 w4) := (A3.out.alloc _ _).below k4
  have F4 : Hid (Sv w2.heap.size 3 2 w4) := (F3.out.alloc _ _).below k4
  have K4 : Hid (Below w.heap.size w w4) := K3.out.trans (((Below.alloc_self w3 _).trans (k4.mono (by simp))).mono K3.out.size)
  clear a0 a1 a2 a3 a4 f0 f1 f2 f3 f4 A3 F3 K3 k4
  obtain ⟨a0, a1, a2, a3, a4⟩ := A4.out
  obtain ⟨f0, f1, f2, f3, f4⟩ := F4.out
  go_wp2_with fail
  obtain ⟨w5s, hw5⟩ : ∃ x, x = (w4.setCell ⟨w1.heap.size, 0, none⟩ (.int .i64 0)).setCell ⟨w1.heap.size, 1, none⟩ (.int .i64 0) := ⟨_, rfl⟩
  rw [← hw5]
  have A5s : Hid (Sv w1.heap.size 0 0 w5s) := by rw [hw5]; exact A4.out.set 0 0
  have F5s : Hid (Sv w2.heap.size 3 2 w5s) := by rw [hw5]; exact F4.out.other _ _ (by omega)
  have K5s : Hid (Below w.heap.size w w5s) := by rw [hw5]; exact (K4.out.setCell zw1 _).setCell zw1 _
  clear a0 a1 a2 a3 a4 f0 f1 f2 f3 f4 A4 F4 K4 hw5
  refine (F_any 3 1 _).mono ?_
  rintro e w6 ⟨rfl, k6⟩
  have A6 : Hid (Sv w1.heap.size 0 0 w6) := A5s.out.below k6
  have F6 : Hid (Sv w2.heap.size 3 2 w6) := F5s.out.below k6
  have K6 : Hid (Below w.heap.size w w6) := K5s.out.trans (k6.mono K5s.out.size)
  clear A5s F5s K5s k6
  obtain ⟨a0, a1, a2, a3, a4⟩ := A6.out
  obtain ⟨f0, f1, f2, f3, f4⟩ := F6.out
  go_wp2_with fail
  obtain ⟨w7s, hw7⟩ : ∃ x, x = (w6.setCell ⟨w1.heap.size, 0, none⟩ (.int .i64 3)).setCell ⟨w1.heap.size, 1, none⟩ (.int .i64 1) := ⟨_, rfl⟩
  rw [← hw7]
  have A7s : Hid (Sv w1.heap.size 3 1 w7s) := by rw [hw7]; exact A6.out.set 3 1
  have F7s : Hid (Sv w2.heap.size 3 2 w7s) := by rw [hw7]; exact F6.out.other _ _ (by omega)
  have K7s : Hid (Below w.heap.size w w7s) := by rw [hw7]; exact (K6.out.setCell zw1 _).setCell zw1 _
  clear a0 a1 a2 a3 a4 f0 f1 f2 f3 f4 A6 F6 K6 hw7
  refine (HI.out _).mono ?_
  rintro e w8 ⟨rfl, k8⟩
  have A8 : Hid (Sv w1.heap.size 3 1 w8) := A7s.out.below k8
  have F8 : Hid (Sv w2.heap.size 3 2 w8) := F7s.out.below k8
  have K8 : Hid (Below w.heap.size w w8) := K7s.out.trans (k8.mono K7s.out.size)
  clear A7s F7s K7s k8
  obtain ⟨a0, a1, a2, a3, a4⟩ := A8.out
  obtain ⟨f0, f1, f2, f3, f4⟩ := F8.out
  go_wp2_with fail
  obtain ⟨w9s, hw9⟩ : ∃ x, x = (w8.setCell ⟨w2.heap.size, 0, none⟩ (.int .i64 3)).setCell ⟨w2.heap.size, 1, none⟩ (.int .i64 1) := ⟨_, rfl⟩
  rw [← hw9]
  have A9s : Hid (Sv w1.heap.size 3 1 w9s) := by rw [hw9]; exact A8.out.other _ _ (by omega)
  have F9s : Hid (Sv w2.heap.size 3 1 w9s) := by rw [hw9]; exact F8.out.set 3 1
  have K9s : Hid (Below w.heap.size w w9s) := by rw [hw9]; exact (K8.out.setCell zw2 _).setCell zw2 _
  clear a0 a1 a2 a3 a4 f0 f1 f2 f3 f4 A8 F8 K8 hw9
  obtain ⟨a0, a1, a2, a3, a4⟩ := A9s.out
  obtain ⟨f0, f1, f2, f3, f4⟩ := F9s.out
  go_quiet (fail)
  obtain ⟨w10, hw10⟩ : ∃ x, x = w9s.drewN nq := ⟨_, rfl⟩
  rw [← hw10]
  have A10 : Hid (Sv w1.heap.size 3 1 w10) := by rw [hw10]; exact A9s.out.drewN
  have F10 : Hid (Sv w2.heap.size 3 1 w10) := by rw [hw10]; exact F9s.out.drewN
  have K10 : Hid (Below w.heap.size w w10) := by rw [hw10]; exact below_drewN' K9s.out
  clear a0 a1 a2 a3 a4 f0 f1 f2 f3 f4 A9s F9s K9s hw10
  obtain ⟨a0, a1, a2, a3, a4⟩ := A10.out
  obtain ⟨f0, f1, f2, f3, f4⟩ := F10.out
  go_wp2_with fail
  obtain ⟨w11s, hw11⟩ : ∃ x, x = (w10.setCell ⟨w1.heap.size, 0, none⟩ (.int .i64 0)).setCell ⟨w1.heap.size, 1, none⟩ (.int .i64 0) := ⟨_, rfl⟩
  rw [← hw11]
  have A11s : Hid (Sv w1.heap.size 0 0 w11s) := by rw [hw11]; exact A10.out.set 0 0
  have F11s : Hid (Sv w2.heap.size 3 1 w11s) := by rw [hw11]; exact F10.out.other _ _ (by omega)
  have K11s : Hid (Below w.heap.size w w11s) := by rw [hw11]; exact (K10.out.setCell zw1 _).setCell zw1 _
  clear a0 a1 a2 a3 a4 f0 f1 f2 f3 f4 A10 F10 K10 hw11
  refine (number_any _ _).mono ?_
  rw [hNB]
  rintro e wn12 ⟨rfl, hwn⟩
  subst hwn
  obtain ⟨a0, a1, a2, a3, a4⟩ := A11s.out
  obtain ⟨f0, f1, f2, f3, f4⟩ := F11s.out
  go_wp2_with fail
  refine (Root_ok N K _ hNB hK1 hK2).mono ?_
  rintro e w13 ⟨r, rfl, r1, r2, r3, k13⟩
  have HR1 : Hid (decide ((N : Int) < (r : Int) ^ K) = false) := by
    show _ = _
    rw [← Int.natCast_pow]
    simp only [decide_eq_false_iff_not]
    omega
  have HR2 : Hid (decide ((N : Int) < ((r : Int) + 1) ^ K) = true) := by
    show _ = _
    rw [show (r : Int) + 1 = ((r + 1 : Nat) : Int) by omega, ← Int.natCast_pow]
    simp only [decide_eq_true_iff]
    omega
  have hrN : numB (r : Int) = true := by
    have h5 : r ≤ N := Nat.le_trans (le_pow r K hK1) r1
    simp [numB]; omega
  clear r1 r2
  have A13 : Hid (Sv w1.heap.size 0 0 w13) := A11s.out.below k13
  have F13 : Hid (Sv w2.heap.size 3 1 w13) := F11s.out.below k13
  have K13 : Hid (Below w.heap.size w w13) := K11s.out.trans (k13.mono K11s.out.size)
  clear a0 a1 a2 a3 a4 f0 f1 f2 f3 f4 A11s F11s K11s k13
  obtain ⟨a0, a1, a2, a3, a4⟩ := A13.out
  obtain ⟨f0, f1, f2, f3, f4⟩ := F13.out
  go_wp2_with fail
  obtain ⟨w14s, hw14⟩ : ∃ x, x = (w13.setCell ⟨w2.heap.size, 0, none⟩ (.int .i64 0)).setCell ⟨w2.heap.size, 1, none⟩ (.int .i64 0) := ⟨_, rfl⟩
  rw [← hw14]
  have A14s : Hid (Sv w1.heap.size 0 0 w14s) := by rw [hw14]; exact A13.out.other _ _ (by omega)
  have F14s : Hid (Sv w2.heap.size 0 0 w14s) := by rw [hw14]; exact F13.out.set 0 0
  have K14s : Hid (Below w.heap.size w w14s) := by rw [hw14]; exact (K13.out.setCell zw2 _).setCell zw2 _
  clear a0 a1 a2 a3 a4 f0 f1 f2 f3 f4 A13 F13 K13 hw14
  refine (number_any _ _).mono ?_
  rw [hrN]
  rintro e wn15 ⟨rfl, hwn⟩
  subst hwn
  go_wp2_with fail
  refine (refAbove_any (r : Int) K N _ (by omega) (by omega) (by omega)).mono ?_
  rw [HR1.out]
  rintro e w16 ⟨rfl, k16⟩
  have A16 : Hid (Sv w1.heap.size 0 0 w16) := A14s.out.below k16
  have F16 : Hid (Sv w2.heap.size 0 0 w16) := F14s.out.below k16
  have K16 : Hid (Below w.heap.size w w16) := K14s.out.trans (k16.mono K14s.out.size)
  clear A14s F14s K14s k16
  go_wp2_with fail
  refine (refAbove_any ((r : Int) + 1) K N _ (by omega) (by omega) (by omega)).mono ?_
  rw [HR2.out]
  rintro e w17 ⟨rfl, k17⟩
  have A17 : Hid (Sv w1.heap.size 0 0 w17) := A16.out.below k17
  have F17 : Hid (Sv w2.heap.size 0 0 w17) := F16.out.below k17
  have K17 : Hid (Below w.heap.size w w17) := K16.out.trans (k17.mono K16.out.size)
  clear A16 F16 K16 k17
  go_wp2
  go_ret
  exact ⟨rfl, K17.out⟩

end Go.Proofs.Ytknmfohipdjlpaa.wholePowers
