/- The law WholePowers: the walk, part Wc. Written by powers.py. -/
import Derived.Test.YtknmfohipdjlpaaWholeK
import Derived.Test.YtknmfohipdjlpaaRefA
import Derived.Test.YtknmfohipdjlpaaWholeL
set_option linter.unusedSimpArgs false
set_option linter.unusedVariables false
namespace Go.Proofs.Ytknmfohipdjlpaa.wholePowers
open Go.RowKit

set_option maxHeartbeats 800000 in
set_option maxRecDepth 100000 in
theorem walk_none_nn (a n m k : Int) (w : World) (h2 : okB a m = true) (M : Nat) (eM : m = M) (hM : 1 ≤ M) (hg : Int.gcd a m ≠ 1) (hNB : numB n = false) :
    Calls Try.prog 4 #[.int .i64 a, .int .i64 n, .int .i64 m, .int .i64 k] w fun e w' => e = .returned (.bool true) ∧ Below w.heap.size w w' := by
  subst eM
  have h3 : okB3 a n (M : Int) = false := by unfold okB3; rw [hNB]; simp
  obtain ⟨b1, b3⟩ := okB_bounds h2
  have hN := fun W B hB h0 h1 h2 => refNumbersFault_any [a, n, (M : Int)] B 0 3 W (by simp) hB (triple_cells a n (M : Int) W B h0 h1 h2)
  have hP := fun w => Power_bad a n (M : Int) w h3
  have hne1 := okB3_ne h3
  obtain ⟨c1, d1, hcd⟩ : ∃ c d, nf 0 [a, n, (M : Int)] = (c, d) := ⟨_, _, rfl⟩
  rw [hcd] at hN hP hne1
  simp only at hN hP hne1
  have heq1 : (c1 == 0) = false := by simpa using hne1
  have HP : Hid (∀ w, _) := hP
  clear hcd hP
  have HN : Hid (∀ W B _ _ _ _, _) := hN
  clear hN
  have hN2 := fun W B hB h0 h1 => refNumbersFault_any [a, (M : Int)] B 0 2 W (by simp) hB (two_cells a (M : Int) W B h0 h1)
  rw [okB_nf h2] at hN2
  simp only at hN2
  have HI : Hid (∀ w, _) := fun w => Inverse_none a (M : Int) w h2 (by omega) hg
  have t1 : ((Int.gcd a (M : Int) : Int) != 1) = true := by simp; omega
  have HN2 : Hid (∀ W B _ _ _, _) := hN2
  clear hN2
  have HH : Hid (okB3 a n (M : Int) = false) := h3
  clear h3
  go_enter Try.func4, Try.ntmps4
  go_wp2_with fail
  refine (HN.out _ _ ?_ ?_ ?_ ?_).mono ?_
  · simp
  · go_simp
  · go_simp
  · go_simp
  rintro e w1 ⟨rfl, k1⟩
  have K1 : Hid (Below w.heap.size w w1) := (Below.alloc_self w _).trans (k1.mono (by simp))
  have zw1 : w.heap.size ≤ w1.heap.size := K1.out.size
  clear k1
  go_wp2_with fail
  refine (HP.out _).mono ?_
  rintro e w2 ⟨rfl, k2⟩
  have A2 : Hid (Sv w1.heap.size c1 d1 w2) := (Sv.new c1 d1 w1).below k2
  have K2 : Hid (Below w.heap.size w w2) := K1.out.trans (((Below.alloc_self w1 _).trans (k2.mono (by simp))).mono K1.out.size)
  clear k2 K1
  have z12 : w1.heap.size < w2.heap.size := A2.out.lt
  have zw2 : w.heap.size ≤ w2.heap.size := by omega
  obtain ⟨a0, a1, a2, a3, a4⟩ := A2.out
  go_wp2_with fail
  refine (begun_any _).mono ?_
  rintro e w3 ⟨rfl, k3⟩
  have F3 : Hid (Sv w2.heap.size c1 d1 w3) := (Sv.new c1 d1 w2).below k3
  have A3 : Hid (Sv w1.heap.size c1 d1 w3) := (A2.out.alloc _ _).below k3
  have K3 : Hid (Below w.heap.size w w3) := K2.out.trans (((Below.alloc_self w2 _).trans (k3.mono (by simp))).mono K2.out.size)
  clear a0 a1 a2 a3 a4 A2 K2 k3
  obtain ⟨a0, a1, a2, a3, a4⟩ := A3.out
  obtain ⟨f0, f1, f2, f3, f4⟩ := F3.out
  go_wp2_with fail
  refine (HN2.out _ _ ?_ ?_ ?_).mono ?_
  · simp
  · go_simp
  · go_simp
  rintro e w4 ⟨rfl, k4⟩
  have A4 : Hid (Sv w1.heap.size c1 d1 w4) := (A3.out.alloc _ _).below k4
  have F4 : Hid (Sv w2.heap.size c1 d1 w4) := (F3.out.alloc _ _).below k4
  have K4 : Hid (Below w.heap.size w w4) := K3.out.trans (((Below.alloc_self w3 _).trans (k4.mono (by simp))).mono K3.out.size)
  clear a0 a1 a2 a3 a4 f0 f1 f2 f3 f4 A3 F3 K3 k4
  obtain ⟨a0, a1, a2, a3, a4⟩ := A4.out
  obtain ⟨f0, f1, f2, f3, f4⟩ := F4.out
  go_wp2_with fail
  obtain ⟨w5s, hw5⟩ : ∃ x, x = (w4.setCell ⟨w1.heap.size, 0, none⟩ (.int .i64 0)).setCell ⟨w1.heap.size, 1, none⟩ (.int .i64 0) := ⟨_, rfl⟩
  rw [← hw5]
  have A5s : Hid (Sv w1.heap.size 0 0 w5s) := by rw [hw5]; exact A4.out.set 0 0
  have F5s : Hid (Sv w2.heap.size c1 d1 w5s) := by rw [hw5]; exact F4.out.other _ _ (by omega)
  have K5s : Hid (Below w.heap.size w w5s) := by rw [hw5]; exact (K4.out.setCell zw1 _).setCell zw1 _
  clear a0 a1 a2 a3 a4 f0 f1 f2 f3 f4 A4 F4 K4 hw5
  refine (refGcd_nat a.natAbs M _ b1 (by omega) a (M : Int) rfl (by simp)).mono ?_
  rintro e wg6 ⟨rfl, hwg⟩
  subst hwg
  obtain ⟨a0, a1, a2, a3, a4⟩ := A5s.out
  obtain ⟨f0, f1, f2, f3, f4⟩ := F5s.out
  go_wp2_with fail
  refine (F_any 5 0 _).mono ?_
  rintro e w7 ⟨rfl, k7⟩
  have A7 : Hid (Sv w1.heap.size 0 0 w7) := A5s.out.below k7
  have F7 : Hid (Sv w2.heap.size c1 d1 w7) := F5s.out.below k7
  have K7 : Hid (Below w.heap.size w w7) := K5s.out.trans (k7.mono K5s.out.size)
  clear a0 a1 a2 a3 a4 f0 f1 f2 f3 f4 A5s F5s K5s k7
  obtain ⟨a0, a1, a2, a3, a4⟩ := A7.out
  obtain ⟨f0, f1, f2, f3, f4⟩ := F7.out
  go_wp2_with fail
  obtain ⟨w8s, hw8⟩ : ∃ x, x = (w7.setCell ⟨w1.heap.size, 0, none⟩ (.int .i64 5)).setCell ⟨w1.heap.size, 1, none⟩ (.int .i64 0) := ⟨_, rfl⟩
  rw [← hw8]
  have A8s : Hid (Sv w1.heap.size 5 0 w8s) := by rw [hw8]; exact A7.out.set 5 0
  have F8s : Hid (Sv w2.heap.size c1 d1 w8s) := by rw [hw8]; exact F7.out.other _ _ (by omega)
  have K8s : Hid (Below w.heap.size w w8s) := by rw [hw8]; exact (K7.out.setCell zw1 _).setCell zw1 _
  clear a0 a1 a2 a3 a4 f0 f1 f2 f3 f4 A7 F7 K7 hw8
  refine (HI.out _).mono ?_
  rintro e w9 ⟨rfl, k9⟩
  have A9 : Hid (Sv w1.heap.size 5 0 w9) := A8s.out.below k9
  have F9 : Hid (Sv w2.heap.size c1 d1 w9) := F8s.out.below k9
  have K9 : Hid (Below w.heap.size w w9) := K8s.out.trans (k9.mono K8s.out.size)
  clear A8s F8s K8s k9
  obtain ⟨a0, a1, a2, a3, a4⟩ := A9.out
  obtain ⟨f0, f1, f2, f3, f4⟩ := F9.out
  go_wp2_with fail
  obtain ⟨w10s, hw10⟩ : ∃ x, x = (w9.setCell ⟨w2.heap.size, 0, none⟩ (.int .i64 5)).setCell ⟨w2.heap.size, 1, none⟩ (.int .i64 0) := ⟨_, rfl⟩
  rw [← hw10]
  have A10s : Hid (Sv w1.heap.size 5 0 w10s) := by rw [hw10]; exact A9.out.other _ _ (by omega)
  have F10s : Hid (Sv w2.heap.size 5 0 w10s) := by rw [hw10]; exact F9.out.set 5 0
  have K10s : Hid (Below w.heap.size w w10s) := by rw [hw10]; exact (K9.out.setCell zw2 _).setCell zw2 _
  clear a0 a1 a2 a3 a4 f0 f1 f2 f3 f4 A9 F9 K9 hw10
  obtain ⟨a0, a1, a2, a3, a4⟩ := A10s.out
  obtain ⟨f0, f1, f2, f3, f4⟩ := F10s.out
  go_quiet (fail)
  obtain ⟨w11, hw11⟩ : ∃ x, x = w10s.drewN nq := ⟨_, rfl⟩
  rw [← hw11]
  have A11 : Hid (Sv w1.heap.size 5 0 w11) := by rw [hw11]; exact A10s.out.drewN
  have F11 : Hid (Sv w2.heap.size 5 0 w11) := by rw [hw11]; exact F10s.out.drewN
  have K11 : Hid (Below w.heap.size w w11) := by rw [hw11]; exact below_drewN' K10s.out
  clear a0 a1 a2 a3 a4 f0 f1 f2 f3 f4 A10s F10s K10s hw11
  obtain ⟨a0, a1, a2, a3, a4⟩ := A11.out
  obtain ⟨f0, f1, f2, f3, f4⟩ := F11.out
  go_wp2_with fail
  obtain ⟨w12s, hw12⟩ : ∃ x, x = (w11.setCell ⟨w1.heap.size, 0, none⟩ (.int .i64 0)).setCell ⟨w1.heap.size, 1, none⟩ (.int .i64 0) := ⟨_, rfl⟩
  rw [← hw12]
  have A12s : Hid (Sv w1.heap.size 0 0 w12s) := by rw [hw12]; exact A11.out.set 0 0
  have F12s : Hid (Sv w2.heap.size 5 0 w12s) := by rw [hw12]; exact F11.out.other _ _ (by omega)
  have K12s : Hid (Below w.heap.size w w12s) := by rw [hw12]; exact (K11.out.setCell zw1 _).setCell zw1 _
  clear a0 a1 a2 a3 a4 f0 f1 f2 f3 f4 A11 F11 K11 hw12
  refine (number_any _ _).mono ?_
  rw [hNB]
  rintro e wn13 ⟨rfl, hwn⟩
  subst hwn
  obtain ⟨a0, a1, a2, a3, a4⟩ := A12s.out
  obtain ⟨f0, f1, f2, f3, f4⟩ := F12s.out
  go_wp2_with fail
  refine (F_any 3 0 _).mono ?_
  rintro e w14 ⟨rfl, k14⟩
  have A14 : Hid (Sv w1.heap.size 0 0 w14) := A12s.out.below k14
  have F14 : Hid (Sv w2.heap.size 5 0 w14) := F12s.out.below k14
  have K14 : Hid (Below w.heap.size w w14) := K12s.out.trans (k14.mono K12s.out.size)
  clear a0 a1 a2 a3 a4 f0 f1 f2 f3 f4 A12s F12s K12s k14
  obtain ⟨a0, a1, a2, a3, a4⟩ := A14.out
  obtain ⟨f0, f1, f2, f3, f4⟩ := F14.out
  go_wp2_with fail
  obtain ⟨w15s, hw15⟩ : ∃ x, x = (w14.setCell ⟨w1.heap.size, 0, none⟩ (.int .i64 3)).setCell ⟨w1.heap.size, 1, none⟩ (.int .i64 0) := ⟨_, rfl⟩
  rw [← hw15]
  have A15s : Hid (Sv w1.heap.size 3 0 w15s) := by rw [hw15]; exact A14.out.set 3 0
  have F15s : Hid (Sv w2.heap.size 5 0 w15s) := by rw [hw15]; exact F14.out.other _ _ (by omega)
  have K15s : Hid (Below w.heap.size w w15s) := by rw [hw15]; exact (K14.out.setCell zw1 _).setCell zw1 _
  clear a0 a1 a2 a3 a4 f0 f1 f2 f3 f4 A14 F14 K14 hw15
  refine (Root_far n k _ (Or.inl hNB)).mono ?_
  rintro e w16 ⟨rfl, k16⟩
  have A16 : Hid (Sv w1.heap.size 3 0 w16) := A15s.out.below k16
  have F16 : Hid (Sv w2.heap.size 5 0 w16) := F15s.out.below k16
  have K16 : Hid (Below w.heap.size w w16) := K15s.out.trans (k16.mono K15s.out.size)
  clear A15s F15s K15s k16
  obtain ⟨a0, a1, a2, a3, a4⟩ := A16.out
  obtain ⟨f0, f1, f2, f3, f4⟩ := F16.out
  go_wp2
  go_ret
  exact ⟨rfl, (K16.out.setCell zw2 _).setCell zw2 _⟩

set_option maxHeartbeats 800000 in
set_option maxRecDepth 100000 in
theorem walk_none_neg (a n m k : Int) (w : World) (h2 : okB a m = true) (M : Nat) (eM : m = M) (hM : 1 ≤ M) (hg : Int.gcd a m ≠ 1) (hNB : numB n = true) (hn : n < 0) :
    Calls Try.prog 4 #[.int .i64 a, .int .i64 n, .int .i64 m, .int .i64 k] w fun e w' => e = .returned (.bool true) ∧ Below w.heap.size w w' := by
  subst eM
  have h3 : okB3 a n (M : Int) = true := by unfold okB at h2; unfold okB3; rw [hNB]; simpa using h2
  obtain ⟨b1, b3⟩ := okB_bounds h2
  have hN := fun W B hB h0 h1 h2 => refNumbersFault_any [a, n, (M : Int)] B 0 3 W (by simp) hB (triple_cells a n (M : Int) W B h0 h1 h2)
  rw [okB3_nf h3] at hN
  simp only at hN
  have HP : Hid (∀ w, _) := fun w => Power_neg a n (M : Int) w h3 hn
  have HN : Hid (∀ W B _ _ _ _, _) := hN
  clear hN
  have hN2 := fun W B hB h0 h1 => refNumbersFault_any [a, (M : Int)] B 0 2 W (by simp) hB (two_cells a (M : Int) W B h0 h1)
  rw [okB_nf h2] at hN2
  simp only at hN2
  have HI : Hid (∀ w, _) := fun w => Inverse_none a (M : Int) w h2 (by omega) hg
  have t1 : ((Int.gcd a (M : Int) : Int) != 1) = true := by simp; omega
  have HN2 : Hid (∀ W B _ _ _, _) := hN2
  clear hN2
  have HH : Hid (okB3 a n (M : Int) = true) := h3
  clear h3
  go_enter Try.func4, Try.ntmps4
  go_wp2_with fail
  refine (HN.out _ _ ?_ ?_ ?_ ?_).mono ?_
  · simp
  · go_simp
  · go_simp
  · go_simp
  rintro e w1 ⟨rfl, k1⟩
  have K1 : Hid (Below w.heap.size w w1) := (Below.alloc_self w _).trans (k1.mono (by simp))
  have zw1 : w.heap.size ≤ w1.heap.size := K1.out.size
  clear k1
  go_wp2_with fail
  refine (F_any 3 1 _).mono ?_
  rintro e w1b ⟨rfl, k1b⟩
  have A1b : Hid (Sv w1.heap.size 0 0 w1b) := (Sv.new 0 0 w1).below k1b
  have K1b : Hid (Below w.heap.size w w1b) := K1.out.trans (((Below.alloc_self w1 _).trans (k1b.mono (by simp))).mono K1.out.size)
  clear k1b K1
  obtain ⟨a0, a1, a2, a3, a4⟩ := A1b.out
  go_wp2_with fail
  obtain ⟨w2s, hw2⟩ : ∃ x, x = (w1b.setCell ⟨w1.heap.size, 0, none⟩ (.int .i64 3)).setCell ⟨w1.heap.size, 1, none⟩ (.int .i64 1) := ⟨_, rfl⟩
  rw [← hw2]
  have A2s : Hid (Sv w1.heap.size 3 1 w2s) := by rw [hw2]; exact A1b.out.set 3 1
  have K2s : Hid (Below w.heap.size w w2s) := by rw [hw2]; exact (K1b.out.setCell zw1 _).setCell zw1 _
  clear a0 a1 a2 a3 a4 A1b K1b hw2
  refine (HP.out _).mono ?_
  rintro e w2 ⟨rfl, k2⟩
  have A2 : Hid (Sv w1.heap.size 3 1 w2) := A2s.out.below k2
  have K2 : Hid (Below w.heap.size w w2) := K2s.out.trans (k2.mono K2s.out.size)
  clear A2s K2s k2
  have z12 : w1.heap.size < w2.heap.size := A2.out.lt
  have zw2 : w.heap.size ≤ w2.heap.size := by omega
  obtain ⟨a0, a1, a2, a3, a4⟩ := A2.out
  go_wp2_with fail
  refine (begun_any _).mono ?_
  rintro e w3 ⟨rfl, k3⟩
  have F3 : Hid (Sv w2.heap.size 3 1 w3) := (Sv.new 3 1 w2).below k3
  have A3 : Hid (Sv w1.heap.size 3 1 w3) := (A2.out.alloc _ _).below k3
  have K3 : Hid (Below w.heap.size w w3) := K2.out.trans (((Below.alloc_self w2 _).trans (k3.mono (by simp))).mono K2.out.size)
  clear a0 a1 a2 a3 a4 A2 K2 k3
  obtain ⟨a0, a1, a2, a3, a4⟩ := A3.out
  obtain ⟨f0, f1, f2, f3, f4⟩ := F3.out
  go_wp2_with fail
  refine (HN2.out _ _ ?_ ?_ ?_).mono ?_
  · simp
  · go_simp
  · go_simp
  rintro e w4 ⟨rfl, k4⟩
  have A4 : Hid (Sv w1.heap.size 3 1 w4) := (A3.out.alloc _ _).below k4
  have F4 : Hid (Sv w2.heap.size 3 1 w4) := (F3.out.alloc _ _).below k4
  have K4 : Hid (Below w.heap.size w w4) := K3.out.trans (((Below.alloc_self w3 _).trans (k4.mono (by simp))).mono K3.out.size)
  clear a0 a1 a2 a3 a4 f0 f1 f2 f3 f4 A3 F3 K3 k4
  obtain ⟨a0, a1, a2, a3, a4⟩ := A4.out
  obtain ⟨f0, f1, f2, f3, f4⟩ := F4.out
  go_wp2_with fail
  obtain ⟨w5s, hw5⟩ : ∃ x, x = (w4.setCell ⟨w1.heap.size, 0, none⟩ (.int .i64 0)).setCell ⟨w1.heap.size, 1, none⟩ (.int .i64 0) := ⟨_, rfl⟩
  rw [← hw5]
  have A5s : Hid (Sv w1.heap.size 0 0 w5s) := by rw [hw5]; exact A4.out.set 0 0
  have F5s : Hid (Sv w2.heap.size 3 1 w5s) := by rw [hw5]; exact F4.out.other _ _ (by omega)
  have K5s : Hid (Below w.heap.size w w5s) := by rw [hw5]; exact (K4.out.setCell zw1 _).setCell zw1 _
  clear a0 a1 a2 a3 a4 f0 f1 f2 f3 f4 A4 F4 K4 hw5
  refine (refGcd_nat a.natAbs M _ b1 (by omega) a (M : Int) rfl (by simp)).mono ?_
  rintro e wg6 ⟨rfl, hwg⟩
  subst hwg
  obtain ⟨a0, a1, a2, a3, a4⟩ := A5s.out
  obtain ⟨f0, f1, f2, f3, f4⟩ := F5s.out
  go_wp2_with fail
  refine (F_any 5 0 _).mono ?_
  rintro e w7 ⟨rfl, k7⟩
  have A7 : Hid (Sv w1.heap.size 0 0 w7) := A5s.out.below k7
  have F7 : Hid (Sv w2.heap.size 3 1 w7) := F5s.out.below k7
  have K7 : Hid (Below w.heap.size w w7) := K5s.out.trans (k7.mono K5s.out.size)
  clear a0 a1 a2 a3 a4 f0 f1 f2 f3 f4 A5s F5s K5s k7
  obtain ⟨a0, a1, a2, a3, a4⟩ := A7.out
  obtain ⟨f0, f1, f2, f3, f4⟩ := F7.out
  go_wp2_with fail
  obtain ⟨w8s, hw8⟩ : ∃ x, x = (w7.setCell ⟨w1.heap.size, 0, none⟩ (.int .i64 5)).setCell ⟨w1.heap.size, 1, none⟩ (.int .i64 0) := ⟨_, rfl⟩
  rw [← hw8]
  have A8s : Hid (Sv w1.heap.size 5 0 w8s) := by rw [hw8]; exact A7.out.set 5 0
  have F8s : Hid (Sv w2.heap.size 3 1 w8s) := by rw [hw8]; exact F7.out.other _ _ (by omega)
  have K8s : Hid (Below w.heap.size w w8s) := by rw [hw8]; exact (K7.out.setCell zw1 _).setCell zw1 _
  clear a0 a1 a2 a3 a4 f0 f1 f2 f3 f4 A7 F7 K7 hw8
  refine (HI.out _).mono ?_
  rintro e w9 ⟨rfl, k9⟩
  have A9 : Hid (Sv w1.heap.size 5 0 w9) := A8s.out.below k9
  have F9 : Hid (Sv w2.heap.size 3 1 w9) := F8s.out.below k9
  have K9 : Hid (Below w.heap.size w w9) := K8s.out.trans (k9.mono K8s.out.size)
  clear A8s F8s K8s k9
  obtain ⟨a0, a1, a2, a3, a4⟩ := A9.out
  obtain ⟨f0, f1, f2, f3, f4⟩ := F9.out
  go_wp2_with fail
  obtain ⟨w10s, hw10⟩ : ∃ x, x = (w9.setCell ⟨w2.heap.size, 0, none⟩ (.int .i64 5)).setCell ⟨w2.heap.size, 1, none⟩ (.int .i64 0) := ⟨_, rfl⟩
  rw [← hw10]
  have A10s : Hid (Sv w1.heap.size 5 0 w10s) := by rw [hw10]; exact A9.out.other _ _ (by omega)
  have F10s : Hid (Sv w2.heap.size 5 0 w10s) := by rw [hw10]; exact F9.out.set 5 0
  have K10s : Hid (Below w.heap.size w w10s) := by rw [hw10]; exact (K9.out.setCell zw2 _).setCell zw2 _
  clear a0 a1 a2 a3 a4 f0 f1 f2 f3 f4 A9 F9 K9 hw10
  obtain ⟨a0, a1, a2, a3, a4⟩ := A10s.out
  obtain ⟨f0, f1, f2, f3, f4⟩ := F10s.out
  go_quiet (fail)
  obtain ⟨w11, hw11⟩ : ∃ x, x = w10s.drewN nq := ⟨_, rfl⟩
  rw [← hw11]
  have A11 : Hid (Sv w1.heap.size 5 0 w11) := by rw [hw11]; exact A10s.out.drewN
  have F11 : Hid (Sv w2.heap.size 5 0 w11) := by rw [hw11]; exact F10s.out.drewN
  have K11 : Hid (Below w.heap.size w w11) := by rw [hw11]; exact below_drewN' K10s.out
  clear a0 a1 a2 a3 a4 f0 f1 f2 f3 f4 A10s F10s K10s hw11
  obtain ⟨a0, a1, a2, a3, a4⟩ := A11.out
  obtain ⟨f0, f1, f2, f3, f4⟩ := F11.out
  go_wp2_with fail
  obtain ⟨w12s, hw12⟩ : ∃ x, x = (w11.setCell ⟨w1.heap.size, 0, none⟩ (.int .i64 0)).setCell ⟨w1.heap.size, 1, none⟩ (.int .i64 0) := ⟨_, rfl⟩
  rw [← hw12]
  have A12s : Hid (Sv w1.heap.size 0 0 w12s) := by rw [hw12]; exact A11.out.set 0 0
  have F12s : Hid (Sv w2.heap.size 5 0 w12s) := by rw [hw12]; exact F11.out.other _ _ (by omega)
  have K12s : Hid (Below w.heap.size w w12s) := by rw [hw12]; exact (K11.out.setCell zw1 _).setCell zw1 _
  clear a0 a1 a2 a3 a4 f0 f1 f2 f3 f4 A11 F11 K11 hw12
  refine (number_any _ _).mono ?_
  rw [hNB]
  rintro e wn13 ⟨rfl, hwn⟩
  subst hwn
  obtain ⟨a0, a1, a2, a3, a4⟩ := A12s.out
  obtain ⟨f0, f1, f2, f3, f4⟩ := F12s.out
  go_wp2_with fail
  refine (F_any 3 0 _).mono ?_
  rintro e w14 ⟨rfl, k14⟩
  have A14 : Hid (Sv w1.heap.size 0 0 w14) := A12s.out.below k14
  have F14 : Hid (Sv w2.heap.size 5 0 w14) := F12s.out.below k14
  have K14 : Hid (Below w.heap.size w w14) := K12s.out.trans (k14.mono K12s.out.size)
  clear a0 a1 a2 a3 a4 f0 f1 f2 f3 f4 A12s F12s K12s k14
  obtain ⟨a0, a1, a2, a3, a4⟩ := A14.out
  obtain ⟨f0, f1, f2, f3, f4⟩ := F14.out
  go_wp2_with fail
  obtain ⟨w15s, hw15⟩ : ∃ x, x = (w14.setCell ⟨w1.heap.size, 0, none⟩ (.int .i64 3)).setCell ⟨w1.heap.size, 1, none⟩ (.int .i64 0) := ⟨_, rfl⟩
  rw [← hw15]
  have A15s : Hid (Sv w1.heap.size 3 0 w15s) := by rw [hw15]; exact A14.out.set 3 0
  have F15s : Hid (Sv w2.heap.size 5 0 w15s) := by rw [hw15]; exact F14.out.other _ _ (by omega)
  have K15s : Hid (Below w.heap.size w w15s) := by rw [hw15]; exact (K14.out.setCell zw1 _).setCell zw1 _
  clear a0 a1 a2 a3 a4 f0 f1 f2 f3 f4 A14 F14 K14 hw15
  refine (Root_far n k _ (Or.inr hn)).mono ?_
  rintro e w16 ⟨rfl, k16⟩
  have A16 : Hid (Sv w1.heap.size 3 0 w16) := A15s.out.below k16
  have F16 : Hid (Sv w2.heap.size 5 0 w16) := F15s.out.below k16
  have K16 : Hid (Below w.heap.size w w16) := K15s.out.trans (k16.mono K15s.out.size)
  clear A15s F15s K15s k16
  obtain ⟨a0, a1, a2, a3, a4⟩ := A16.out
  obtain ⟨f0, f1, f2, f3, f4⟩ := F16.out
  go_wp2
  go_ret
  exact ⟨rfl, (K16.out.setCell zw2 _).setCell zw2 _⟩

set_option maxHeartbeats 800000 in
set_option maxRecDepth 100000 in
theorem walk_none_manyL (a n m k : Int) (w : World) (h2 : okB a m = true) (M : Nat) (eM : m = M) (hM : 1 ≤ M) (hg : Int.gcd a m ≠ 1) (hNB : numB n = true) (N : Nat) (eN : n = N) (hk : k < 1) :
    Calls Try.prog 4 #[.int .i64 a, .int .i64 n, .int .i64 m, .int .i64 k] w fun e w' => e = .returned (.bool true) ∧ Below w.heap.size w w' := by
  subst eM eN
  have h3 : okB3 a (N : Int) (M : Int) = true := by unfold okB at h2; unfold okB3; rw [hNB]; simpa using h2
  obtain ⟨b1, b3⟩ := okB_bounds h2
  have b2 := numB_true hNB
  have hN := fun W B hB h0 h1 h2 => refNumbersFault_any [a, (N : Int), (M : Int)] B 0 3 W (by simp) hB (triple_cells a (N : Int) (M : Int) W B h0 h1 h2)
  rw [okB3_nf h3] at hN
  simp only at hN
  have HP : Hid (∀ w, _) := fun w => Power_ok a (N : Int) (M : Int) w h3 N M rfl rfl hM
  have hPl : (a % (M : Int)).toNat ^ N % M < M := Nat.mod_lt _ hM
  have HPR : Hid (∀ w, _) := fun w => refPower_any a N M w (by omega) (by omega) (by omega) (by omega)
  obtain ⟨R, gR⟩ : ∃ R, R = (a % (M : Int)).toNat ^ N % M := ⟨_, rfl⟩
  rw [← gR] at HP HPR hPl
  clear gR
  have HN : Hid (∀ W B _ _ _ _, _) := hN
  clear hN
  have hN2 := fun W B hB h0 h1 => refNumbersFault_any [a, (M : Int)] B 0 2 W (by simp) hB (two_cells a (M : Int) W B h0 h1)
  rw [okB_nf h2] at hN2
  simp only at hN2
  have HI : Hid (∀ w, _) := fun w => Inverse_none a (M : Int) w h2 (by omega) hg
  have t1 : ((Int.gcd a (M : Int) : Int) != 1) = true := by simp; omega
  have HN2 : Hid (∀ W B _ _ _, _) := hN2
  clear hN2
  have HH : Hid (okB3 a (N : Int) (M : Int) = true) := h3
  clear h3
  go_enter Try.func4, Try.ntmps4
  go_wp2_with fail
  refine (HN.out _ _ ?_ ?_ ?_ ?_).mono ?_
  · simp
  · go_simp
  · go_simp
  · go_simp
  rintro e w1 ⟨rfl, k1⟩
  have K1 : Hid (Below w.heap.size w w1) := (Below.alloc_self w _).trans (k1.mono (by simp))
  have zw1 : w.heap.size ≤ w1.heap.size := K1.out.size
  clear k1
  go_wp2_with fail
  refine (HP.out _).mono ?_
  rintro e w2 ⟨rfl, k2⟩
  have A2 : Hid (Sv w1.heap.size 0 0 w2) := (Sv.new 0 0 w1).below k2
  have K2 : Hid (Below w.heap.size w w2) := K1.out.trans (((Below.alloc_self w1 _).trans (k2.mono (by simp))).mono K1.out.size)
  clear k2 K1
  have z12 : w1.heap.size < w2.heap.size := A2.out.lt
  have zw2 : w.heap.size ≤ w2.heap.size := by omega
  obtain ⟨a0, a1, a2, a3, a4⟩ := A2.out
  go_wp2_with fail
  refine (begun_any _).mono ?_
  rintro e w3 ⟨rfl, k3⟩
  have F3 : Hid (Sv w2.heap.size 0 0 w3) := (Sv.new 0 0 w2).below k3
  have A3 : Hid (Sv w1.heap.size 0 0 w3) := (A2.out.alloc _ _).below k3
  have K3 : Hid (Below w.heap.size w w3) := K2.out.trans (((Below.alloc_self w2 _).trans (k3.mono (by simp))).mono K2.out.size)
  clear a0 a1 a2 a3 a4 A2 K2 k3
  obtain ⟨a0, a1, a2, a3, a4⟩ := A3.out
  obtain ⟨f0, f1, f2, f3, f4⟩ := F3.out
  go_wp2_with fail
  refine (HPR.out _).mono ?_
  rintro e w4 ⟨rfl, k4⟩
  have A4 : Hid (Sv w1.heap.size 0 0 w4) := A3.out.below k4
  have F4 : Hid (Sv w2.heap.size 0 0 w4) := F3.out.below k4
  have K4 : Hid (Below w.heap.size w w4) := K3.out.trans (k4.mono K3.out.size)
  clear a0 a1 a2 a3 a4 f0 f1 f2 f3 f4 A3 F3 K3 k4
  obtain ⟨a0, a1, a2, a3, a4⟩ := A4.out
  obtain ⟨f0, f1, f2, f3, f4⟩ := F4.out
  go_wp2_with fail
  refine (HN2.out _ _ ?_ ?_ ?_).mono ?_
  · simp
  · go_simp
  · go_simp
  rintro e w5 ⟨rfl, k5⟩
  have A5 : Hid (Sv w1.heap.size 0 0 w5) := (A4.out.alloc _ _).below k5
  have F5 : Hid (Sv w2.heap.size 0 0 w5) := (F4.out.alloc _ _).below k5
  have K5 : Hid (Below w.heap.size w w5) := K4.out.trans (((Below.alloc_self w4 _).trans (k5.mono (by simp))).mono K4.out.size)
  clear a0 a1 a2 a3 a4 f0 f1 f2 f3 f4 A4 F4 K4 k5
  obtain ⟨a0, a1, a2, a3, a4⟩ := A5.out
  obtain ⟨f0, f1, f2, f3, f4⟩ := F5.out
  go_wp2_with fail
  obtain ⟨w6s, hw6⟩ : ∃ x, x = (w5.setCell ⟨w1.heap.size, 0, none⟩ (.int .i64 0)).setCell ⟨w1.heap.size, 1, none⟩ (.int .i64 0) := ⟨_, rfl⟩
  rw [← hw6]
  have A6s : Hid (Sv w1.heap.size 0 0 w6s) := by rw [hw6]; exact A5.out.set 0 0
  have F6s : Hid (Sv w2.heap.size 0 0 w6s) := by rw [hw6]; exact F5.out.other _ _ (by omega)
  have K6s : Hid (Below w.heap.size w w6s) := by rw [hw6]; exact (K5.out.setCell zw1 _).setCell zw1 _
  clear a0 a1 a2 a3 a4 f0 f1 f2 f3 f4 A5 F5 K5 hw6
  refine (refGcd_nat a.natAbs M _ b1 (by omega) a (M : Int) rfl (by simp)).mono ?_
  rintro e wg7 ⟨rfl, hwg⟩
  subst hwg
  obtain ⟨a0, a1, a2, a3, a4⟩ := A6s.out
  obtain ⟨f0, f1, f2, f3, f4⟩ := F6s.out
  go_wp2_with fail
  refine (F_any 5 0 _).mono ?_
  rintro e w8 ⟨rfl, k8⟩
  have A8 : Hid (Sv w1.heap.size 0 0 w8) := A6s.out.below k8
  have F8 : Hid (Sv w2.heap.size 0 0 w8) := F6s.out.below k8
  have K8 : Hid (Below w.heap.size w w8) := K6s.out.trans (k8.mono K6s.out.size)
  clear a0 a1 a2 a3 a4 f0 f1 f2 f3 f4 A6s F6s K6s k8
  obtain ⟨a0, a1, a2, a3, a4⟩ := A8.out
  obtain ⟨f0, f1, f2, f3, f4⟩ := F8.out
  go_wp2_with fail
  obtain ⟨w9s, hw9⟩ : ∃ x, x = (w8.setCell ⟨w1.heap.size, 0, none⟩ (.int .i64 5)).setCell ⟨w1.heap.size, 1, none⟩ (.int .i64 0) := ⟨_, rfl⟩
  rw [← hw9]
  have A9s : Hid (Sv w1.heap.size 5 0 w9s) := by rw [hw9]; exact A8.out.set 5 0
  have F9s : Hid (Sv w2.heap.size 0 0 w9s) := by rw [hw9]; exact F8.out.other _ _ (by omega)
  have K9s : Hid (Below w.heap.size w w9s) := by rw [hw9]; exact (K8.out.setCell zw1 _).setCell zw1 _
  clear a0 a1 a2 a3 a4 f0 f1 f2 f3 f4 A8 F8 K8 hw9
  refine (HI.out _).mono ?_
  rintro e w10 ⟨rfl, k10⟩
  have A10 : Hid (Sv w1.heap.size 5 0 w10) := A9s.out.below k10
  have F10 : Hid (Sv w2.heap.size 0 0 w10) := F9s.out.below k10
  have K10 : Hid (Below w.heap.size w w10) := K9s.out.trans (k10.mono K9s.out.size)
  clear A9s F9s K9s k10
  obtain ⟨a0, a1, a2, a3, a4⟩ := A10.out
  obtain ⟨f0, f1, f2, f3, f4⟩ := F10.out
  go_wp2_with fail
  obtain ⟨w11s, hw11⟩ : ∃ x, x = (w10.setCell ⟨w2.heap.size, 0, none⟩ (.int .i64 5)).setCell ⟨w2.heap.size, 1, none⟩ (.int .i64 0) := ⟨_, rfl⟩
  rw [← hw11]
  have A11s : Hid (Sv w1.heap.size 5 0 w11s) := by rw [hw11]; exact A10.out.other _ _ (by omega)
  have F11s : Hid (Sv w2.heap.size 5 0 w11s) := by rw [hw11]; exact F10.out.set 5 0
  have K11s : Hid (Below w.heap.size w w11s) := by rw [hw11]; exact (K10.out.setCell zw2 _).setCell zw2 _
  clear a0 a1 a2 a3 a4 f0 f1 f2 f3 f4 A10 F10 K10 hw11
  obtain ⟨a0, a1, a2, a3, a4⟩ := A11s.out
  obtain ⟨f0, f1, f2, f3, f4⟩ := F11s.out
  go_quiet (fail)
  obtain ⟨w12, hw12⟩ : ∃ x, x = w11s.drewN nq := ⟨_, rfl⟩
  rw [← hw12]
  have A12 : Hid (Sv w1.heap.size 5 0 w12) := by rw [hw12]; exact A11s.out.drewN
  have F12 : Hid (Sv w2.heap.size 5 0 w12) := by rw [hw12]; exact F11s.out.drewN
  have K12 : Hid (Below w.heap.size w w12) := by rw [hw12]; exact below_drewN' K11s.out
  clear a0 a1 a2 a3 a4 f0 f1 f2 f3 f4 A11s F11s K11s hw12
  obtain ⟨a0, a1, a2, a3, a4⟩ := A12.out
  obtain ⟨f0, f1, f2, f3, f4⟩ := F12.out
  go_wp2_with fail
  obtain ⟨w13s, hw13⟩ : ∃ x, x = (w12.setCell ⟨w1.heap.size, 0, none⟩ (.int .i64 0)).setCell ⟨w1.heap.size, 1, none⟩ (.int .i64 0) := ⟨_, rfl⟩
  rw [← hw13]
  have A13s : Hid (Sv w1.heap.size 0 0 w13s) := by rw [hw13]; exact A12.out.set 0 0
  have F13s : Hid (Sv w2.heap.size 5 0 w13s) := by rw [hw13]; exact F12.out.other _ _ (by omega)
  have K13s : Hid (Below w.heap.size w w13s) := by rw [hw13]; exact (K12.out.setCell zw1 _).setCell zw1 _
  clear a0 a1 a2 a3 a4 f0 f1 f2 f3 f4 A12 F12 K12 hw13
  refine (number_any _ _).mono ?_
  rw [hNB]
  rintro e wn14 ⟨rfl, hwn⟩
  subst hwn
  obtain ⟨a0, a1, a2, a3, a4⟩ := A13s.out
  obtain ⟨f0, f1, f2, f3, f4⟩ := F13s.out
  go_wp2_with fail
  refine (F_any 3 1 _).mono ?_
  rintro e w15 ⟨rfl, k15⟩
  have A15 : Hid (Sv w1.heap.size 0 0 w15) := A13s.out.below k15
  have F15 : Hid (Sv w2.heap.size 5 0 w15) := F13s.out.below k15
  have K15 : Hid (Below w.heap.size w w15) := K13s.out.trans (k15.mono K13s.out.size)
  clear a0 a1 a2 a3 a4 f0 f1 f2 f3 f4 A13s F13s K13s k15
  obtain ⟨a0, a1, a2, a3, a4⟩ := A15.out
  obtain ⟨f0, f1, f2, f3, f4⟩ := F15.out
  go_wp2_with fail
  obtain ⟨w16s, hw16⟩ : ∃ x, x = (w15.setCell ⟨w1.heap.size, 0, none⟩ (.int .i64 3)).setCell ⟨w1.heap.size, 1, none⟩ (.int .i64 1) := ⟨_, rfl⟩
  rw [← hw16]
  have A16s : Hid (Sv w1.heap.size 3 1 w16s) := by rw [hw16]; exact A15.out.set 3 1
  have F16s : Hid (Sv w2.heap.size 5 0 w16s) := by rw [hw16]; exact F15.out.other _ _ (by omega)
  have K16s : Hid (Below w.heap.size w w16s) := by rw [hw16]; exact (K15.out.setCell zw1 _).setCell zw1 _
  clear a0 a1 a2 a3 a4 f0 f1 f2 f3 f4 A15 F15 K15 hw16
  refine (Root_many (N : Int) k _ hNB (by omega) (Or.inl hk)).mono ?_
  rintro e w17 ⟨rfl, k17⟩
  have A17 : Hid (Sv w1.heap.size 3 1 w17) := A16s.out.below k17
  have F17 : Hid (Sv w2.heap.size 5 0 w17) := F16s.out.below k17
  have K17 : Hid (Below w.heap.size w w17) := K16s.out.trans (k17.mono K16s.out.size)
  clear A16s F16s K16s k17
  obtain ⟨a0, a1, a2, a3, a4⟩ := A17.out
  obtain ⟨f0, f1, f2, f3, f4⟩ := F17.out
  go_wp2
  go_ret
  exact ⟨rfl, (K17.out.setCell zw2 _).setCell zw2 _⟩

set_option maxHeartbeats 800000 in
set_option maxRecDepth 100000 in
theorem walk_none_manyH (a n m k : Int) (w : World) (h2 : okB a m = true) (M : Nat) (eM : m = M) (hM : 1 ≤ M) (hg : Int.gcd a m ≠ 1) (hNB : numB n = true) (N : Nat) (eN : n = N) (hk : 60 < k) :
    Calls Try.prog 4 #[.int .i64 a, .int .i64 n, .int .i64 m, .int .i64 k] w fun e w' => e = .returned (.bool true) ∧ Below w.heap.size w w' := by
  subst eM eN
  have h3 : okB3 a (N : Int) (M : Int) = true := by unfold okB at h2; unfold okB3; rw [hNB]; simpa using h2
  obtain ⟨b1, b3⟩ := okB_bounds h2
  have b2 := numB_true hNB
  have hN := fun W B hB h0 h1 h2 => refNumbersFault_any [a, (N : Int), (M : Int)] B 0 3 W (by simp) hB (triple_cells a (N : Int) (M : Int) W B h0 h1 h2)
  rw [okB3_nf h3] at hN
  simp only at hN
  have HP : Hid (∀ w, _) := fun w => Power_ok a (N : Int) (M : Int) w h3 N M rfl rfl hM
  have hPl : (a % (M : Int)).toNat ^ N % M < M := Nat.mod_lt _ hM
  have HPR : Hid (∀ w, _) := fun w => refPower_any a N M w (by omega) (by omega) (by omega) (by omega)
  obtain ⟨R, gR⟩ : ∃ R, R = (a % (M : Int)).toNat ^ N % M := ⟨_, rfl⟩
  rw [← gR] at HP HPR hPl
  clear gR
  have HN : Hid (∀ W B _ _ _ _, _) := hN
  clear hN
  have hN2 := fun W B hB h0 h1 => refNumbersFault_any [a, (M : Int)] B 0 2 W (by simp) hB (two_cells a (M : Int) W B h0 h1)
  rw [okB_nf h2] at hN2
  simp only at hN2
  have HI : Hid (∀ w, _) := fun w => Inverse_none a (M : Int) w h2 (by omega) hg
  have t1 : ((Int.gcd a (M : Int) : Int) != 1) = true := by simp; omega
  have HN2 : Hid (∀ W B _ _ _, _) := hN2
  clear hN2
  have HH : Hid (okB3 a (N : Int) (M : Int) = true) := h3
  clear h3
  go_enter Try.func4, Try.ntmps4
  go_wp2_with fail
  refine (HN.out _ _ ?_ ?_ ?_ ?_).mono ?_
  · simp
  · go_simp
  · go_simp
  · go_simp
  rintro e w1 ⟨rfl, k1⟩
  have K1 : Hid (Below w.heap.size w w1) := (Below.alloc_self w _).trans (k1.mono (by simp))
  have zw1 : w.heap.size ≤ w1.heap.size := K1.out.size
  clear k1
  go_wp2_with fail
  refine (HP.out _).mono ?_
  rintro e w2 ⟨rfl, k2⟩
  have A2 : Hid (Sv w1.heap.size 0 0 w2) := (Sv.new 0 0 w1).below k2
  have K2 : Hid (Below w.heap.size w w2) := K1.out.trans (((Below.alloc_self w1 _).trans (k2.mono (by simp))).mono K1.out.size)
  clear k2 K1
  have z12 : w1.heap.size < w2.heap.size := A2.out.lt
  have zw2 : w.heap.size ≤ w2.heap.size := by omega
  obtain ⟨a0, a1, a2, a3, a4⟩ := A2.out
  go_wp2_with fail
  refine (begun_any _).mono ?_
  rintro e w3 ⟨rfl, k3⟩
  have F3 : Hid (Sv w2.heap.size 0 0 w3) := (Sv.new 0 0 w2).below k3
  have A3 : Hid (Sv w1.heap.size 0 0 w3) := (A2.out.alloc _ _).below k3
  have K3 : Hid (Below w.heap.size w w3) := K2.out.trans (((Below.alloc_self w2 _).trans (k3.mono (by simp))).mono K2.out.size)
  clear a0 a1 a2 a3 a4 A2 K2 k3
  obtain ⟨a0, a1, a2, a3, a4⟩ := A3.out
  obtain ⟨f0, f1, f2, f3, f4⟩ := F3.out
  go_wp2_with fail
  refine (HPR.out _).mono ?_
  rintro e w4 ⟨rfl, k4⟩
  have A4 : Hid (Sv w1.heap.size 0 0 w4) := A3.out.below k4
  have F4 : Hid (Sv w2.heap.size 0 0 w4) := F3.out.below k4
  have K4 : Hid (Below w.heap.size w w4) := K3.out.trans (k4.mono K3.out.size)
  clear a0 a1 a2 a3 a4 f0 f1 f2 f3 f4 A3 F3 K3 k4
  obtain ⟨a0, a1, a2, a3, a4⟩ := A4.out
  obtain ⟨f0, f1, f2, f3, f4⟩ := F4.out
  go_wp2_with fail
  refine (HN2.out _ _ ?_ ?_ ?_).mono ?_
  · simp
  · go_simp
  · go_simp
  rintro e w5 ⟨rfl, k5⟩
  have A5 : Hid (Sv w1.heap.size 0 0 w5) := (A4.out.alloc _ _).below k5
  have F5 : Hid (Sv w2.heap.size 0 0 w5) := (F4.out.alloc _ _).below k5
  have K5 : Hid (Below w.heap.size w w5) := K4.out.trans (((Below.alloc_self w4 _).trans (k5.mono (by simp))).mono K4.out.size)
  clear a0 a1 a2 a3 a4 f0 f1 f2 f3 f4 A4 F4 K4 k5
  obtain ⟨a0, a1, a2, a3, a4⟩ := A5.out
  obtain ⟨f0, f1, f2, f3, f4⟩ := F5.out
  go_wp2_with fail
  obtain ⟨w6s, hw6⟩ : ∃ x, x = (w5.setCell ⟨w1.heap.size, 0, none⟩ (.int .i64 0)).setCell ⟨w1.heap.size, 1, none⟩ (.int .i64 0) := ⟨_, rfl⟩
  rw [← hw6]
  have A6s : Hid (Sv w1.heap.size 0 0 w6s) := by rw [hw6]; exact A5.out.set 0 0
  have F6s : Hid (Sv w2.heap.size 0 0 w6s) := by rw [hw6]; exact F5.out.other _ _ (by omega)
  have K6s : Hid (Below w.heap.size w w6s) := by rw [hw6]; exact (K5.out.setCell zw1 _).setCell zw1 _
  clear a0 a1 a2 a3 a4 f0 f1 f2 f3 f4 A5 F5 K5 hw6
  refine (refGcd_nat a.natAbs M _ b1 (by omega) a (M : Int) rfl (by simp)).mono ?_
  rintro e wg7 ⟨rfl, hwg⟩
  subst hwg
  obtain ⟨a0, a1, a2, a3, a4⟩ := A6s.out
  obtain ⟨f0, f1, f2, f3, f4⟩ := F6s.out
  go_wp2_with fail
  refine (F_any 5 0 _).mono ?_
  rintro e w8 ⟨rfl, k8⟩
  have A8 : Hid (Sv w1.heap.size 0 0 w8) := A6s.out.below k8
  have F8 : Hid (Sv w2.heap.size 0 0 w8) := F6s.out.below k8
  have K8 : Hid (Below w.heap.size w w8) := K6s.out.trans (k8.mono K6s.out.size)
  clear a0 a1 a2 a3 a4 f0 f1 f2 f3 f4 A6s F6s K6s k8
  obtain ⟨a0, a1, a2, a3, a4⟩ := A8.out
  obtain ⟨f0, f1, f2, f3, f4⟩ := F8.out
  go_wp2_with fail
  obtain ⟨w9s, hw9⟩ : ∃ x, x = (w8.setCell ⟨w1.heap.size, 0, none⟩ (.int .i64 5)).setCell ⟨w1.heap.size, 1, none⟩ (.int .i64 0) := ⟨_, rfl⟩
  rw [← hw9]
  have A9s : Hid (Sv w1.heap.size 5 0 w9s) := by rw [hw9]; exact A8.out.set 5 0
  have F9s : Hid (Sv w2.heap.size 0 0 w9s) := by rw [hw9]; exact F8.out.other _ _ (by omega)
  have K9s : Hid (Below w.heap.size w w9s) := by rw [hw9]; exact (K8.out.setCell zw1 _).setCell zw1 _
  clear a0 a1 a2 a3 a4 f0 f1 f2 f3 f4 A8 F8 K8 hw9
  refine (HI.out _).mono ?_
  rintro e w10 ⟨rfl, k10⟩
  have A10 : Hid (Sv w1.heap.size 5 0 w10) := A9s.out.below k10
  have F10 : Hid (Sv w2.heap.size 0 0 w10) := F9s.out.below k10
  have K10 : Hid (Below w.heap.size w w10) := K9s.out.trans (k10.mono K9s.out.size)
  clear A9s F9s K9s k10
  obtain ⟨a0, a1, a2, a3, a4⟩ := A10.out
  obtain ⟨f0, f1, f2, f3, f4⟩ := F10.out
  go_wp2_with fail
  obtain ⟨w11s, hw11⟩ : ∃ x, x = (w10.setCell ⟨w2.heap.size, 0, none⟩ (.int .i64 5)).setCell ⟨w2.heap.size, 1, none⟩ (.int .i64 0) := ⟨_, rfl⟩
  rw [← hw11]
  have A11s : Hid (Sv w1.heap.size 5 0 w11s) := by rw [hw11]; exact A10.out.other _ _ (by omega)
  have F11s : Hid (Sv w2.heap.size 5 0 w11s) := by rw [hw11]; exact F10.out.set 5 0
  have K11s : Hid (Below w.heap.size w w11s) := by rw [hw11]; exact (K10.out.setCell zw2 _).setCell zw2 _
  clear a0 a1 a2 a3 a4 f0 f1 f2 f3 f4 A10 F10 K10 hw11
  obtain ⟨a0, a1, a2, a3, a4⟩ := A11s.out
  obtain ⟨f0, f1, f2, f3, f4⟩ := F11s.out
  go_quiet (fail)
  obtain ⟨w12, hw12⟩ : ∃ x, x = w11s.drewN nq := ⟨_, rfl⟩
  rw [← hw12]
  have A12 : Hid (Sv w1.heap.size 5 0 w12) := by rw [hw12]; exact A11s.out.drewN
  have F12 : Hid (Sv w2.heap.size 5 0 w12) := by rw [hw12]; exact F11s.out.drewN
  have K12 : Hid (Below w.heap.size w w12) := by rw [hw12]; exact below_drewN' K11s.out
  clear a0 a1 a2 a3 a4 f0 f1 f2 f3 f4 A11s F11s K11s hw12
  obtain ⟨a0, a1, a2, a3, a4⟩ := A12.out
  obtain ⟨f0, f1, f2, f3, f4⟩ := F12.out
  go_wp2_with fail
  obtain ⟨w13s, hw13⟩ : ∃ x, x = (w12.setCell ⟨w1.heap.size, 0, none⟩ (.int .i64 0)).setCell ⟨w1.heap.size, 1, none⟩ (.int .i64 0) := ⟨_, rfl⟩
  rw [← hw13]
  have A13s : Hid (Sv w1.heap.size 0 0 w13s) := by rw [hw13]; exact A12.out.set 0 0
  have F13s : Hid (Sv w2.heap.size 5 0 w13s) := by rw [hw13]; exact F12.out.other _ _ (by omega)
  have K13s : Hid (Below w.heap.size w w13s) := by rw [hw13]; exact (K12.out.setCell zw1 _).setCell zw1 _
  clear a0 a1 a2 a3 a4 f0 f1 f2 f3 f4 A12 F12 K12 hw13
  refine (number_any _ _).mono ?_
  rw [hNB]
  rintro e wn14 ⟨rfl, hwn⟩
  subst hwn
  obtain ⟨a0, a1, a2, a3, a4⟩ := A13s.out
  obtain ⟨f0, f1, f2, f3, f4⟩ := F13s.out
  go_wp2_with fail
  refine (F_any 3 1 _).mono ?_
  rintro e w15 ⟨rfl, k15⟩
  have A15 : Hid (Sv w1.heap.size 0 0 w15) := A13s.out.below k15
  have F15 : Hid (Sv w2.heap.size 5 0 w15) := F13s.out.below k15
  have K15 : Hid (Below w.heap.size w w15) := K13s.out.trans (k15.mono K13s.out.size)
  clear a0 a1 a2 a3 a4 f0 f1 f2 f3 f4 A13s F13s K13s k15
  obtain ⟨a0, a1, a2, a3, a4⟩ := A15.out
  obtain ⟨f0, f1, f2, f3, f4⟩ := F15.out
  go_wp2_with fail
  obtain ⟨w16s, hw16⟩ : ∃ x, x = (w15.setCell ⟨w1.heap.size, 0, none⟩ (.int .i64 3)).setCell ⟨w1.heap.size, 1, none⟩ (.int .i64 1) := ⟨_, rfl⟩
  rw [← hw16]
  have A16s : Hid (Sv w1.heap.size 3 1 w16s) := by rw [hw16]; exact A15.out.set 3 1
  have F16s : Hid (Sv w2.heap.size 5 0 w16s) := by rw [hw16]; exact F15.out.other _ _ (by omega)
  have K16s : Hid (Below w.heap.size w w16s) := by rw [hw16]; exact (K15.out.setCell zw1 _).setCell zw1 _
  clear a0 a1 a2 a3 a4 f0 f1 f2 f3 f4 A15 F15 K15 hw16
  refine (Root_many (N : Int) k _ hNB (by omega) (Or.inr hk)).mono ?_
  rintro e w17 ⟨rfl, k17⟩
  have A17 : Hid (Sv w1.heap.size 3 1 w17) := A16s.out.below k17
  have F17 : Hid (Sv w2.heap.size 5 0 w17) := F16s.out.below k17
  have K17 : Hid (Below w.heap.size w w17) := K16s.out.trans (k17.mono K16s.out.size)
  clear A16s F16s K16s k17
  obtain ⟨a0, a1, a2, a3, a4⟩ := A17.out
  obtain ⟨f0, f1, f2, f3, f4⟩ := F17.out
  go_wp2
  go_ret
  exact ⟨rfl, (K17.out.setCell zw2 _).setCell zw2 _⟩

set_option maxHeartbeats 800000 in
set_option maxRecDepth 100000 in
theorem walk_none_ok (a n m k : Int) (w : World) (h2 : okB a m = true) (M : Nat) (eM : m = M) (hM : 1 ≤ M) (hg : Int.gcd a m ≠ 1) (hNB : numB n = true) (N : Nat) (eN : n = N) (K : Nat) (eK : k = K) (hK1 : 1 ≤ K) (hK2 : K ≤ 60) :
    Calls Try.prog 4 #[.int .i64 a, .int .i64 n, .int .i64 m, .int .i64 k] w fun e w' => e = .returned (.bool true) ∧ Below w.heap.size w w' := by
  subst eM eN eK
  have h3 : okB3 a (N : Int) (M : Int) = true := by unfold okB at h2; unfold okB3; rw [hNB]; simpa using h2
  obtain ⟨b1, b3⟩ := okB_bounds h2
  have b2 := numB_true hNB
  have hN := fun W B hB h0 h1 h2 => refNumbersFault_any [a, (N : Int), (M : Int)] B 0 3 W (by simp) hB (triple_cells a (N : Int) (M : Int) W B h0 h1 h2)
  rw [okB3_nf h3] at hN
  simp only at hN
  have HP : Hid (∀ w, _) := fun w => Power_ok a (N : Int) (M : Int) w h3 N M rfl rfl hM
  have hPl : (a % (M : Int)).toNat ^ N % M < M := Nat.mod_lt _ hM
  have HPR : Hid (∀ w, _) := fun w => refPower_any a N M w (by omega) (by omega) (by omega) (by omega)
  obtain ⟨R, gR⟩ : ∃ R, R = (a % (M : Int)).toNat ^ N % M := ⟨_, rfl⟩
  rw [← gR] at HP HPR hPl
  clear gR
  have HN : Hid (∀ W B _ _ _ _, _) := hN
  clear hN
  have hN2 := fun W B hB h0 h1 => refNumbersFault_any [a, (M : Int)] B 0 2 W (by simp) hB (two_cells a (M : Int) W B h0 h1)
  rw [okB_nf h2] at hN2
  simp only at hN2
  have HI : Hid (∀ w, _) := fun w => Inverse_none a (M : Int) w h2 (by omega) hg
  have t1 : ((Int.gcd a (M : Int) : Int) != 1) = true := by simp; omega
  have HN2 : Hid (∀ W B _ _ _, _) := hN2
  clear hN2
  have HH : Hid (okB3 a (N : Int) (M : Int) = true) := h3
  clear h3
  go_enter Try.func4, Try.ntmps4
  go_wp2_with fail
  refine (HN.out _ _ ?_ ?_ ?_ ?_).mono ?_
  · simp
  · go_simp
  · go_simp
  · go_simp
  rintro e w1 ⟨rfl, k1⟩
  have K1 : Hid (Below w.heap.size w w1) := (Below.alloc_self w _).trans (k1.mono (by simp))
  have zw1 : w.heap.size ≤ w1.heap.size := K1.out.size
  clear k1
  go_wp2_with fail
  refine (HP.out _).mono ?_
  rintro e w2 ⟨rfl, k2⟩
  have A2 : Hid (Sv w1.heap.size 0 0 w2) := (Sv.new 0 0 w1).below k2
  have K2 : Hid (Below w.heap.size w w2) := K1.out.trans (((Below.alloc_self w1 _).trans (k2.mono (by simp))).mono K1.out.size)
  clear k2 K1
  have z12 : w1.heap.size < w2.heap.size := A2.out.lt
  have zw2 : w.heap.size ≤ w2.heap.size := by omega
  obtain ⟨a0, a1, a2, a3, a4⟩ := A2.out
  go_wp2_with fail
  refine (begun_any _).mono ?_
  rintro e w3 ⟨rfl, k3⟩
  have F3 : Hid (Sv w2.heap.size 0 0 w3) := (Sv.new 0 0 w2).below k3
  have A3 : Hid (Sv w1.heap.size 0 0 w3) := (A2.out.alloc _ _).below k3
  have K3 : Hid (Below w.heap.size w w3) := K2.out.trans (((Below.alloc_self w2 _).trans (k3.mono (by simp))).mono K2.out.size)
  clear a0 a1 a2 a3 a4 A2 K2 k3
  obtain ⟨a0, a1, a2, a3, a4⟩ := A3.out
  obtain ⟨f0, f1, f2, f3, f4⟩ := F3.out
  go_wp2_with fail
  refine (HPR.out _).mono ?_
  rintro e w4 ⟨rfl, k4⟩
  have A4 : Hid (Sv w1.heap.size 0 0 w4) := A3.out.below k4
  have F4 : Hid (Sv w2.heap.size 0 0 w4) := F3.out.below k4
  have K4 : Hid (Below w.heap.size w w4) := K3.out.trans (k4.mono K3.out.size)
  clear a0 a1 a2 a3 a4 f0 f1 f2 f3 f4 A3 F3 K3 k4
  obtain ⟨a0, a1, a2, a3, a4⟩ := A4.out
  obtain ⟨f0, f1, f2, f3, f4⟩ := F4.out
  go_wp2_with fail
  refine (HN2.out _ _ ?_ ?_ ?_).mono ?_
  · simp
  · go_simp
  · go_simp
  rintro e w5 ⟨rfl, k5⟩
  have A5 : Hid (Sv w1.heap.size 0 0 w5) := (A4.out.alloc _ _).below k5
  have F5 : Hid (Sv w2.heap.size 0 0 w5) := (F4.out.alloc _ _).below k5
  have K5 : Hid (Below w.heap.size w w5) := K4.out.trans (((Below.alloc_self w4 _).trans (k5.mono (by simp))).mono K4.out.size)
  clear a0 a1 a2 a3 a4 f0 f1 f2 f3 f4 A4 F4 K4 k5
  obtain ⟨a0, a1, a2, a3, a4⟩ := A5.out
  obtain ⟨f0, f1, f2, f3, f4⟩ := F5.out
  go_wp2_with fail
  obtain ⟨w6s, hw6⟩ : ∃ x, x = (w5.setCell ⟨w1.heap.size, 0, none⟩ (.int .i64 0)).setCell ⟨w1.heap.size, 1, none⟩ (.int .i64 0) := ⟨_, rfl⟩
  rw [← hw6]
  have A6s : Hid (Sv w1.heap.size 0 0 w6s) := by rw [hw6]; exact A5.out.set 0 0
  have F6s : Hid (Sv w2.heap.size 0 0 w6s) := by rw [hw6]; exact F5.out.other _ _ (by omega)
  have K6s : Hid (Below w.heap.size w w6s) := by rw [hw6]; exact (K5.out.setCell zw1 _).setCell zw1 _
  clear a0 a1 a2 a3 a4 f0 f1 f2 f3 f4 A5 F5 K5 hw6
  refine (refGcd_nat a.natAbs M _ b1 (by omega) a (M : Int) rfl (by simp)).mono ?_
  rintro e wg7 ⟨rfl, hwg⟩
  subst hwg
  obtain ⟨a0, a1, a2, a3, a4⟩ := A6s.out
  obtain ⟨f0, f1, f2, f3, f4⟩ := F6s.out
  go_wp2_with fail
  refine (F_any 5 0 _).mono ?_
  rintro e w8 ⟨rfl, k8⟩
  have A8 : Hid (Sv w1.heap.size 0 0 w8) := A6s.out.below k8
  have F8 : Hid (Sv w2.heap.size 0 0 w8) := F6s.out.below k8
  have K8 : Hid (Below w.heap.size w w8) := K6s.out.trans (k8.mono K6s.out.size)
  clear a0 a1 a2 a3 a4 f0 f1 f2 f3 f4 A6s F6s K6s k8
  obtain ⟨a0, a1, a2, a3, a4⟩ := A8.out
  obtain ⟨f0, f1, f2, f3, f4⟩ := F8.out
  go_wp2_with fail
  obtain ⟨w9s, hw9⟩ : ∃ x, x = (w8.setCell ⟨w1.heap.size, 0, none⟩ (.int .i64 5)).setCell ⟨w1.heap.size, 1, none⟩ (.int .i64 0) := ⟨_, rfl⟩
  rw [← hw9]
  have A9s : Hid (Sv w1.heap.size 5 0 w9s) := by rw [hw9]; exact A8.out.set 5 0
  have F9s : Hid (Sv w2.heap.size 0 0 w9s) := by rw [hw9]; exact F8.out.other _ _ (by omega)
  have K9s : Hid (Below w.heap.size w w9s) := by rw [hw9]; exact (K8.out.setCell zw1 _).setCell zw1 _
  clear a0 a1 a2 a3 a4 f0 f1 f2 f3 f4 A8 F8 K8 hw9
  refine (HI.out _).mono ?_
  rintro e w10 ⟨rfl, k10⟩
  have A10 : Hid (Sv w1.heap.size 5 0 w10) := A9s.out.below k10
  have F10 : Hid (Sv w2.heap.size 0 0 w10) := F9s.out.below k10
  have K10 : Hid (Below w.heap.size w w10) := K9s.out.trans (k10.mono K9s.out.size)
  clear A9s F9s K9s k10
  obtain ⟨a0, a1, a2, a3, a4⟩ := A10.out
  obtain ⟨f0, f1, f2, f3, f4⟩ := F10.out
  go_wp2_with fail
  obtain ⟨w11s, hw11⟩ : ∃ x, x = (w10.setCell ⟨w2.heap.size, 0, none⟩ (.int .i64 5)).setCell ⟨w2.heap.size, 1, none⟩ (.int .i64 0) := ⟨_, rfl⟩
  rw [← hw11]
  have A11s : Hid (Sv w1.heap.size 5 0 w11s) := by rw [hw11]; exact A10.out.other _ _ (by omega)
  have F11s : Hid (Sv w2.heap.size 5 0 w11s) := by rw [hw11]; exact F10.out.set 5 0
  have K11s : Hid (Below w.heap.size w w11s) := by rw [hw11]; exact (K10.out.setCell zw2 _).setCell zw2 _
  clear a0 a1 a2 a3 a4 f0 f1 f2 f3 f4 A10 F10 K10 hw11
  obtain ⟨a0, a1, a2, a3, a4⟩ := A11s.out
  obtain ⟨f0, f1, f2, f3, f4⟩ := F11s.out
  go_quiet (fail)
  obtain ⟨w12, hw12⟩ : ∃ x, x = w11s.drewN nq := ⟨_, rfl⟩
  rw [← hw12]
  have A12 : Hid (Sv w1.heap.size 5 0 w12) := by rw [hw12]; exact A11s.out.drewN
  have F12 : Hid (Sv w2.heap.size 5 0 w12) := by rw [hw12]; exact F11s.out.drewN
  have K12 : Hid (Below w.heap.size w w12) := by rw [hw12]; exact below_drewN' K11s.out
  clear a0 a1 a2 a3 a4 f0 f1 f2 f3 f4 A11s F11s K11s hw12
  obtain ⟨a0, a1, a2, a3, a4⟩ := A12.out
  obtain ⟨f0, f1, f2, f3, f4⟩ := F12.out
  go_wp2_with fail
  obtain ⟨w13s, hw13⟩ : ∃ x, x = (w12.setCell ⟨w1.heap.size, 0, none⟩ (.int .i64 0)).setCell ⟨w1.heap.size, 1, none⟩ (.int .i64 0) := ⟨_, rfl⟩
  rw [← hw13]
  have A13s : Hid (Sv w1.heap.size 0 0 w13s) := by rw [hw13]; exact A12.out.set 0 0
  have F13s : Hid (Sv w2.heap.size 5 0 w13s) := by rw [hw13]; exact F12.out.other _ _ (by omega)
  have K13s : Hid (Below w.heap.size w w13s) := by rw [hw13]; exact (K12.out.setCell zw1 _).setCell zw1 _
  clear a0 a1 a2 a3 a4 f0 f1 f2 f3 f4 A12 F12 K12 hw13
  refine (number_any _ _).mono ?_
  rw [hNB]
  rintro e wn14 ⟨rfl, hwn⟩
  subst hwn
  obtain ⟨a0, a1, a2, a3, a4⟩ := A13s.out
  obtain ⟨f0, f1, f2, f3, f4⟩ := F13s.out
  go_wp2_with fail
  refine (Root_ok N K _ hNB hK1 hK2).mono ?_
  rintro e w15 ⟨r, rfl, r1, r2, r3, k15⟩
  have HR1 : Hid (decide ((N : Int) < (r : Int) ^ K) = false) := by
    show _ = _
    rw [← Int.natCast_pow]
    simp only [decide_eq_false_iff_not]
    omega
  have HR2 : Hid (decide ((N : Int) < ((r : Int) + 1) ^ K) = true) := by
    show _ = _
    rw [show (r : Int) + 1 = ((r + 1 : Nat) : Int) by omega, ← Int.natCast_pow]
    simp only [decide_eq_true_iff]
    omega
  have hrN : numB (r : Int) = true := by
    have h5 : r ≤ N := Nat.le_trans (le_pow r K hK1) r1
    simp [numB]; omega
  clear r1 r2
  have A15 : Hid (Sv w1.heap.size 0 0 w15) := A13s.out.below k15
  have F15 : Hid (Sv w2.heap.size 5 0 w15) := F13s.out.below k15
  have K15 : Hid (Below w.heap.size w w15) := K13s.out.trans (k15.mono K13s.out.size)
  clear a0 a1 a2 a3 a4 f0 f1 f2 f3 f4 A13s F13s K13s k15
  obtain ⟨a0, a1, a2, a3, a4⟩ := A15.out
  obtain ⟨f0, f1, f2, f3, f4⟩ := F15.out
  go_wp2_with fail
  obtain ⟨w16s, hw16⟩ : ∃ x, x = (w15.setCell ⟨w2.heap.size, 0, none⟩ (.int .i64 0)).setCell ⟨w2.heap.size, 1, none⟩ (.int .i64 0) := ⟨_, rfl⟩
  rw [← hw16]
  have A16s : Hid (Sv w1.heap.size 0 0 w16s) := by rw [hw16]; exact A15.out.other _ _ (by omega)
  have F16s : Hid (Sv w2.heap.size 0 0 w16s) := by rw [hw16]; exact F15.out.set 0 0
  have K16s : Hid (Below w.heap.size w w16s) := by rw [hw16]; exact (K15.out.setCell zw2 _).setCell zw2 _
  clear a0 a1 a2 a3 a4 f0 f1 f2 f3 f4 A15 F15 K15 hw16
  refine (number_any _ _).mono ?_
  rw [hrN]
  rintro e wn17 ⟨rfl, hwn⟩
  subst hwn
  go_wp2_with fail
  refine (refAbove_any (r : Int) K N _ (by omega) (by omega) (by omega)).mono ?_
  rw [HR1.out]
  rintro e w18 ⟨rfl, k18⟩
  have A18 : Hid (Sv w1.heap.size 0 0 w18) := A16s.out.below k18
  have F18 : Hid (Sv w2.heap.size 0 0 w18) := F16s.out.below k18
  have K18 : Hid (Below w.heap.size w w18) := K16s.out.trans (k18.mono K16s.out.size)
  clear A16s F16s K16s k18
  go_wp2_with fail
  refine (refAbove_any ((r : Int) + 1) K N _ (by omega) (by omega) (by omega)).mono ?_
  rw [HR2.out]
  rintro e w19 ⟨rfl, k19⟩
  have A19 : Hid (Sv w1.heap.size 0 0 w19) := A18.out.below k19
  have F19 : Hid (Sv w2.heap.size 0 0 w19) := F18.out.below k19
  have K19 : Hid (Below w.heap.size w w19) := K18.out.trans (k19.mono K18.out.size)
  clear A18 F18 K18 k19
  go_wp2
  go_ret
  exact ⟨rfl, K19.out⟩

end Go.Proofs.Ytknmfohipdjlpaa.wholePowers
