/- The law WholePowers: the walk, part Wd. Written by powers.py. -/
import Derived.Test.YtknmfohipdjlpaaWholeK
import Derived.Test.YtknmfohipdjlpaaRefA
import Derived.Test.YtknmfohipdjlpaaWholeL
set_option linter.unusedSimpArgs false
set_option linter.unusedVariables false
namespace Go.Proofs.Ytknmfohipdjlpaa.wholePowers
open Go.RowKit

set_option maxHeartbeats 800000 in
set_option maxRecDepth 100000 in
theorem walk_ok_nn (a n m k : Int) (w : World) (h2 : okB a m = true) (M : Nat) (eM : m = M) (hM : 1 ≤ M) (hg : Int.gcd a m = 1) (hNB : numB n = false) :
    Calls Try.prog 4 #[.int .i64 a, .int .i64 n, .int .i64 m, .int .i64 k] w fun e w' => e = .returned (.bool true) ∧ Below w.heap.size w w' := by
  subst eM
  have h3 : okB3 a n (M : Int) = false := by unfold okB3; rw [hNB]; simp
  obtain ⟨b1, b3⟩ := okB_bounds h2
  have hN := fun W B hB h0 h1 h2 => refNumbersFault_any [a, n, (M : Int)] B 0 3 W (by simp) hB (triple_cells a n (M : Int) W B h0 h1 h2)
  have hP := fun w => Power_bad a n (M : Int) w h3
  have hne1 := okB3_ne h3
  obtain ⟨c1, d1, hcd⟩ : ∃ c d, nf 0 [a, n, (M : Int)] = (c, d) := ⟨_, _, rfl⟩
  rw [hcd] at hN hP hne1
  simp only at hN hP hne1
  have heq1 : (c1 == 0) = false := by simpa using hne1
  have HP : Hid (∀ w, _) := hP
  clear hcd hP
  have HN : Hid (∀ W B _ _ _ _, _) := hN
  clear hN
  have hN2 := fun W B hB h0 h1 => refNumbersFault_any [a, (M : Int)] B 0 2 W (by simp) hB (two_cells a (M : Int) W B h0 h1)
  rw [okB_nf h2] at hN2
  simp only at hN2
  have HI : Hid (∀ w, _) := fun w => Inverse_ok a (M : Int) w h2 (by omega) hg
  have HN2 : Hid (∀ W B _ _ _, _) := hN2
  clear hN2
  have HH : Hid (okB3 a n (M : Int) = false) := h3
  clear h3
  go_enter Try.func4, Try.ntmps4
  go_wp2_with fail
  refine (HN.out _ _ ?_ ?_ ?_ ?_).mono ?_
  · simp
  · go_simp
  · go_simp
  · go_simp
  rintro e w1 ⟨rfl, k1⟩
  have K1 : Hid (Below w.heap.size w w1) := (Below.alloc_self w _).trans (k1.mono (by simp))
  have zw1 : w.heap.size ≤ w1.heap.size := K1.out.size
  clear k1
  go_wp2_with fail
  refine (HP.out _).mono ?_
  rintro e w2 ⟨rfl, k2⟩
  have A2 : Hid (Sv w1.heap.size c1 d1 w2) := (Sv.new c1 d1 w1).below k2
  have K2 : Hid (Below w.heap.size w w2) := K1.out.trans (((Below.alloc_self w1 _).trans (k2.mono (by simp))).mono K1.out.size)
  clear k2 K1
  have z12 : w1.heap.size < w2.heap.size := A2.out.lt
  have zw2 : w.heap.size ≤ w2.heap.size := by omega
  obtain ⟨a0, a1, a2, a3, a4⟩ := A2.out
  go_wp2_with fail
  refine (begun_any _).mono ?_
  rintro e w3 ⟨rfl, k3⟩
  have F3 : Hid (Sv w2.heap.size c1 d1 w3) := (Sv.new c1 d1 w2).below k3
  have A3 : Hid (Sv w1.heap.size c1 d1 w3) := (A2.out.alloc _ _).below k3
  have K3 : Hid (Below w.heap.size w w3) := K2.out.trans (((Below.alloc_self w2 _).trans (k3.mono (by simp))).mono K2.out.size)
  clear a0 a1 a2 a3 a4 A2 K2 k3
  obtain ⟨a0, a1, a2, a3, a4⟩ := A3.out
  obtain ⟨f0, f1, f2, f3, f4⟩ := F3.out
  go_wp2_with fail
  refine (HN2.out _ _ ?_ ?_ ?_).mono ?_
  · simp
  · go_simp
  · go_simp
  rintro e w4 ⟨rfl, k4⟩
  have A4 : Hid (Sv w1.heap.size c1 d1 w4) := (A3.out.alloc _ _).below k4
  have F4 : Hid (Sv w2.heap.size c1 d1 w4) := (F3.out.alloc _ _).below k4
  have K4 : Hid (Below w.heap.size w w4) := K3.out.trans (((Below.alloc_self w3 _).trans (k4.mono (by simp))).mono K3.out.size)
  clear a0 a1 a2 a3 a4 f0 f1 f2 f3 f4 A3 F3 K3 k4
  obtain ⟨a0, a1, a2, a3, a4⟩ := A4.out
  obtain ⟨f0, f1, f2, f3, f4⟩ := F4.out
  go_wp2_with fail
  obtain ⟨w5s, hw5⟩ : ∃ x, x = (w4.setCell ⟨w1.heap.size, 0, none⟩ (.int .i64 0)).setCell ⟨w1.heap.size, 1, none⟩ (.int .i64 0) := ⟨_, rfl⟩
  rw [← hw5]
  have A5s : Hid (Sv w1.heap.size 0 0 w5s) := by rw [hw5]; exact A4.out.set 0 0
  have F5s : Hid (Sv w2.heap.size c1 d1 w5s) := by rw [hw5]; exact F4.out.other _ _ (by omega)
  have K5s : Hid (Below w.heap.size w w5s) := by rw [hw5]; exact (K4.out.setCell zw1 _).setCell zw1 _
  clear a0 a1 a2 a3 a4 f0 f1 f2 f3 f4 A4 F4 K4 hw5
  refine (refGcd_nat a.natAbs M _ b1 (by omega) a (M : Int) rfl (by simp)).mono ?_
  rw [hg]
  rintro e wg6 ⟨rfl, hwg⟩
  subst hwg
  obtain ⟨a0, a1, a2, a3, a4⟩ := A5s.out
  obtain ⟨f0, f1, f2, f3, f4⟩ := F5s.out
  go_wp2_with fail
  refine (HI.out _).mono ?_
  rintro e w7 ⟨u, rfl, u0, u1, u2, k7⟩
  have HU : Hid ((u * a) % (M : Int) = 1 % (M : Int)) := u2
  clear u2
  have A7 : Hid (Sv w1.heap.size 0 0 w7) := A5s.out.below k7
  have F7 : Hid (Sv w2.heap.size c1 d1 w7) := F5s.out.below k7
  have K7 : Hid (Below w.heap.size w w7) := K5s.out.trans (k7.mono K5s.out.size)
  clear a0 a1 a2 a3 a4 f0 f1 f2 f3 f4 A5s F5s K5s k7
  obtain ⟨a0, a1, a2, a3, a4⟩ := A7.out
  obtain ⟨f0, f1, f2, f3, f4⟩ := F7.out
  go_wp2_with fail
  obtain ⟨w8s, hw8⟩ : ∃ x, x = (w7.setCell ⟨w2.heap.size, 0, none⟩ (.int .i64 0)).setCell ⟨w2.heap.size, 1, none⟩ (.int .i64 0) := ⟨_, rfl⟩
  rw [← hw8]
  have A8s : Hid (Sv w1.heap.size 0 0 w8s) := by rw [hw8]; exact A7.out.other _ _ (by omega)
  have F8s : Hid (Sv w2.heap.size 0 0 w8s) := by rw [hw8]; exact F7.out.set 0 0
  have K8s : Hid (Below w.heap.size w w8s) := by rw [hw8]; exact (K7.out.setCell zw2 _).setCell zw2 _
  clear a0 a1 a2 a3 a4 f0 f1 f2 f3 f4 A7 F7 K7 hw8
  have tt : ((M : Int) == 0) = false := beq_eq_false_iff_ne.2 (by omega)
  have HUa : Hid (a * u % (M : Int) = 1 % (M : Int)) := by show _ = _; rw [Int.mul_comm]; exact HU.out
  have d13 : decide (u < 0) = false := by simp; omega
  have d17 : decide ((M : Int) ≤ u) = false := by simp; omega
  refine wp_region_G (fun w' => w'.cell? ⟨w1.heap.size, 0, none⟩ = some (.int .i64 0)) 29 (by kernel_rfl) A8s.out.c0 (fun hHeld => ?_)
  refine wpAnyG_take (i := 0) (v := ?v0) rfl (by kernel_rfl) (fun _ _ _ h => h) (Or.inl ⟨by rfl, ?y0⟩) hHeld ?r0
  case y0 => (intro wS hSw; obtain s1 := hSw; go_simp; try with_reducible rfl)
  try simp only [Act.put, List.setIfInBounds_toArray, List.set_cons_zero, List.set_cons_succ]
  refine wpAnyG_take (i := 1) (v := ?v1) rfl (by kernel_rfl) (fun _ _ _ h => h) (Or.inl ⟨by rfl, ?y1⟩) hHeld ?r1
  case y1 => (intro wS hSw; obtain s1 := hSw; go_simp; try with_reducible rfl)
  try simp only [Act.put, List.setIfInBounds_toArray, List.set_cons_zero, List.set_cons_succ]
  refine wpAnyG_take (i := 2) (v := .bool false) rfl (by kernel_rfl) (fun _ _ _ h => h) (Or.inl ⟨by kernel_rfl, ?y2⟩) hHeld ?r2
  case y2 => (intro wS hSw; go_simp)
  try simp only [Act.put, List.setIfInBounds_toArray, List.set_cons_zero, List.set_cons_succ]
  refine wpAnyG_take (i := 3) (v := .bool false) rfl (by kernel_rfl) (fun _ _ _ h => h) (Or.inl ⟨by kernel_rfl, ?y3⟩) hHeld ?r3
  case y3 => (intro wS hSw; go_simp)
  try simp only [Act.put, List.setIfInBounds_toArray, List.set_cons_zero, List.set_cons_succ]
  refine wpAnyG_take (i := 4) (v := undef) rfl (by kernel_rfl) (fun _ _ _ h => h) (Or.inr ⟨by kernel_rfl, rfl⟩) hHeld ?_
  try simp only [Act.put, List.setIfInBounds_toArray, List.set_cons_zero, List.set_cons_succ]
  refine wpAnyG_take (i := 5) (v := undef) rfl (by kernel_rfl) (fun _ _ _ h => h) (Or.inr ⟨by kernel_rfl, rfl⟩) hHeld ?_
  try simp only [Act.put, List.setIfInBounds_toArray, List.set_cons_zero, List.set_cons_succ]
  refine wpAnyG_take (i := 6) (v := .bool false) rfl (by kernel_rfl) (fun _ _ _ h => h) (Or.inl ⟨by kernel_rfl, ?y6⟩) hHeld ?r6
  case y6 => (intro wS hSw; go_simp)
  try simp only [Act.put, List.setIfInBounds_toArray, List.set_cons_zero, List.set_cons_succ]
  refine wpAnyG_take (i := 7) (v := .bool false) rfl (by kernel_rfl) (fun _ _ _ h => h) (Or.inl ⟨by kernel_rfl, ?y7⟩) hHeld ?r7
  case y7 => (intro wS hSw; go_simp)
  try simp only [Act.put, List.setIfInBounds_toArray, List.set_cons_zero, List.set_cons_succ]
  refine wpAnyG_take (i := 8) (v := ?v8) rfl (by kernel_rfl) (fun _ _ _ h => h) (Or.inl ⟨by kernel_rfl, ?y8⟩) hHeld ?r8
  case y8 => (intro wS hSw; have s1 := hSw; go_simp; try with_reducible rfl)
  try simp only [Act.put, List.setIfInBounds_toArray, List.set_cons_zero, List.set_cons_succ]
  refine wpAnyG_take (i := 9) (v := ?v9) rfl (by kernel_rfl) (fun _ _ _ h => h) (Or.inl ⟨by kernel_rfl, ?y9⟩) hHeld ?r9
  case y9 => (intro wS hSw; have s1 := hSw; go_simp; try with_reducible rfl)
  try simp only [Act.put, List.setIfInBounds_toArray, List.set_cons_zero, List.set_cons_succ]
  refine wpAnyG_take (i := 10) (v := .bool true) rfl (by kernel_rfl) (fun _ _ _ h => h) (Or.inl ⟨by kernel_rfl, ?y10⟩) hHeld ?r10
  case y10 => (intro wS hSw; go_simp)
  try simp only [Act.put, List.setIfInBounds_toArray, List.set_cons_zero, List.set_cons_succ]
  refine wpAnyG_take (i := 11) (v := .bool true) rfl (by kernel_rfl) (fun _ _ _ h => h) (Or.inl ⟨by kernel_rfl, ?y11⟩) hHeld ?r11
  case y11 => (intro wS hSw; go_simp)
  try simp only [Act.put, List.setIfInBounds_toArray, List.set_cons_zero, List.set_cons_succ]
  refine wpAnyG_take (i := 12) (v := ?v12) rfl (by kernel_rfl) (fun _ _ _ h => h) (Or.inl ⟨by kernel_rfl, ?y12⟩) hHeld ?r12
  case y12 => (intro wS hSw; have s1 := hSw; go_simp; try with_reducible rfl)
  try simp only [Act.put, List.setIfInBounds_toArray, List.set_cons_zero, List.set_cons_succ]
  refine wpAnyG_take (i := 13) (v := .bool false) rfl (by kernel_rfl) (fun _ _ _ h => h) (Or.inl ⟨by kernel_rfl, ?y13⟩) hHeld ?r13
  case y13 => (intro wS hSw; (go_simp; try rw [d13]))
  try simp only [Act.put, List.setIfInBounds_toArray, List.set_cons_zero, List.set_cons_succ]
  refine wpAnyG_take (i := 14) (v := .bool false) rfl (by kernel_rfl) (fun _ _ _ h => h) (Or.inl ⟨by kernel_rfl, ?y14⟩) hHeld ?r14
  case y14 => (intro wS hSw; go_simp)
  try simp only [Act.put, List.setIfInBounds_toArray, List.set_cons_zero, List.set_cons_succ]
  refine wpAnyG_take (i := 15) (v := ?v15) rfl (by kernel_rfl) (fun _ _ _ h => h) (Or.inl ⟨by kernel_rfl, ?y15⟩) hHeld ?r15
  case y15 => (intro wS hSw; have s1 := hSw; go_simp; try with_reducible rfl)
  try simp only [Act.put, List.setIfInBounds_toArray, List.set_cons_zero, List.set_cons_succ]
  refine wpAnyG_take (i := 16) (v := ?v16) rfl (by kernel_rfl) (fun _ _ _ h => h) (Or.inl ⟨by kernel_rfl, ?y16⟩) hHeld ?r16
  case y16 => (intro wS hSw; have s1 := hSw; go_simp; try with_reducible rfl)
  try simp only [Act.put, List.setIfInBounds_toArray, List.set_cons_zero, List.set_cons_succ]
  refine wpAnyG_take (i := 17) (v := .bool false) rfl (by kernel_rfl) (fun _ _ _ h => h) (Or.inl ⟨by kernel_rfl, ?y17⟩) hHeld ?r17
  case y17 => (intro wS hSw; (go_simp; try rw [d17]))
  try simp only [Act.put, List.setIfInBounds_toArray, List.set_cons_zero, List.set_cons_succ]
  refine wpAnyG_take (i := 18) (v := .bool false) rfl (by kernel_rfl) (fun _ _ _ h => h) (Or.inl ⟨by kernel_rfl, ?y18⟩) hHeld ?r18
  case y18 => (intro wS hSw; go_simp)
  try simp only [Act.put, List.setIfInBounds_toArray, List.set_cons_zero, List.set_cons_succ]
  refine wpAnyG_take (i := 19) (v := .bool false) rfl (by kernel_rfl) (fun _ _ _ h => h) (Or.inl ⟨by kernel_rfl, ?y19⟩) hHeld ?r19
  case y19 => (intro wS hSw; go_simp)
  try simp only [Act.put, List.setIfInBounds_toArray, List.set_cons_zero, List.set_cons_succ]
  refine wpAnyG_take (i := 20) (v := ?v20) rfl (by kernel_rfl) (fun _ _ _ h => h) (Or.inl ⟨by kernel_rfl, ?y20⟩) hHeld ?r20
  case y20 => (intro wS hSw; have s1 := hSw; go_simp; try with_reducible rfl)
  try simp only [Act.put, List.setIfInBounds_toArray, List.set_cons_zero, List.set_cons_succ]
  refine wpAnyG_take (i := 21) (v := ?v21) rfl (by kernel_rfl) (fun _ _ _ h => h) (Or.inl ⟨by kernel_rfl, ?y21⟩) hHeld ?r21
  case y21 => (intro wS hSw; have s1 := hSw; go_simp; try with_reducible rfl)
  try simp only [Act.put, List.setIfInBounds_toArray, List.set_cons_zero, List.set_cons_succ]
  refine wpAnyG_take (i := 22) (v := ?v22) rfl (by kernel_rfl) (fun _ _ _ h => h) (Or.inl ⟨by kernel_rfl, ?y22⟩) hHeld ?r22
  case y22 => (intro wS hSw; have s1 := hSw; go_simp; try with_reducible rfl)
  try simp only [Act.put, List.setIfInBounds_toArray, List.set_cons_zero, List.set_cons_succ]
  refine wpAnyG_take (i := 24) (v := ?v24) rfl (by kernel_rfl) (fun _ _ _ h => h) (Or.inl ⟨by kernel_rfl, ?y24⟩) hHeld ?r24
  case y24 => (intro wS hSw; have s1 := hSw; go_simp; try with_reducible rfl)
  try simp only [Act.put, List.setIfInBounds_toArray, List.set_cons_zero, List.set_cons_succ]
  refine wpAnyG_take (i := 25) (v := .int .i64 (1 % (M : Int))) rfl (by kernel_rfl) (fun _ _ _ h => h) (Or.inl ⟨by kernel_rfl, ?y25⟩) hHeld ?r25
  case y25 => (intro wS hSw; (go_simp; rw [if_neg (show ¬ M = 0 by omega), Int.tmod_eq_emod_of_nonneg (show (0 : Int) ≤ 1 by omega)]))
  try simp only [Act.put, List.setIfInBounds_toArray, List.set_cons_zero, List.set_cons_succ]
  refine wpAnyG_one (i := 23) rfl (by kernel_rfl) (fun K hK => ?_)
  rw [if_pos (by kernel_rfl)]
  go_simp
  refine (refProduct_any a u M _ (by omega) (by omega) (by omega) (by omega)).mono ?_
  rw [HUa.out]
  rintro e w10 ⟨rfl, k10⟩
  have A10 : Hid (Sv w1.heap.size 0 0 w10) := A8s.out.drew.below k10
  have F10 : Hid (Sv w2.heap.size 0 0 w10) := F8s.out.drew.below k10
  have K10 : Hid (Below w.heap.size w w10) := K8s.out.drew.trans (k10.mono K8s.out.size)
  clear hHeld k10
  have hHeld : w10.cell? ⟨w1.heap.size, 0, none⟩ = some (.int .i64 0) := A10.out.c0
  refine hK.out _ _ hHeld ?_
  clear hK K
  try simp only [Act.put, List.setIfInBounds_toArray, List.set_cons_zero, List.set_cons_succ]
  refine wpAnyG_take (i := 26) (v := .bool false) rfl (by kernel_rfl) (fun _ _ _ h => h) (Or.inl ⟨by kernel_rfl, ?y26⟩) hHeld ?r26
  case y26 => (intro wS hSw; (go_simp))
  try simp only [Act.put, List.setIfInBounds_toArray, List.set_cons_zero, List.set_cons_succ]
  refine wpAnyG_take (i := 27) (v := .bool false) rfl (by kernel_rfl) (fun _ _ _ h => h) (Or.inl ⟨by kernel_rfl, ?y27⟩) hHeld ?r27
  case y27 => (intro wS hSw; (go_simp))
  try simp only [Act.put, List.setIfInBounds_toArray, List.set_cons_zero, List.set_cons_succ]
  refine wpAnyG_take (i := 28) (v := .bool false) rfl (by kernel_rfl) (fun _ _ _ h => h) (Or.inl ⟨by kernel_rfl, ?y28⟩) hHeld ?r28
  case y28 => (intro wS hSw; (go_simp))
  try simp only [Act.put, List.setIfInBounds_toArray, List.set_cons_zero, List.set_cons_succ]
  refine wpAnyG_last (i := 29) rfl (by kernel_rfl) (by kernel_rfl) (fun K hK => ?_)
  go_simp
  refine hK.out _ _ ?_
  clear hK K
  try simp only [Act.put, List.setIfInBounds_toArray, List.set_cons_zero, List.set_cons_succ]
  refine wpAnyG_done (by kernel_rfl) ?_ _
  clear A8s F8s K8s hHeld
  obtain ⟨a0, a1, a2, a3, a4⟩ := A10.out
  obtain ⟨f0, f1, f2, f3, f4⟩ := F10.out
  go_wp2_with fail
  obtain ⟨w11s, hw11⟩ : ∃ x, x = (w10.setCell ⟨w1.heap.size, 0, none⟩ (.int .i64 0)).setCell ⟨w1.heap.size, 1, none⟩ (.int .i64 0) := ⟨_, rfl⟩
  rw [← hw11]
  have A11s : Hid (Sv w1.heap.size 0 0 w11s) := by rw [hw11]; exact A10.out.set 0 0
  have F11s : Hid (Sv w2.heap.size 0 0 w11s) := by rw [hw11]; exact F10.out.other _ _ (by omega)
  have K11s : Hid (Below w.heap.size w w11s) := by rw [hw11]; exact (K10.out.setCell zw1 _).setCell zw1 _
  clear a0 a1 a2 a3 a4 f0 f1 f2 f3 f4 A10 F10 K10 hw11
  refine (number_any _ _).mono ?_
  rw [hNB]
  rintro e wn12 ⟨rfl, hwn⟩
  subst hwn
  obtain ⟨a0, a1, a2, a3, a4⟩ := A11s.out
  obtain ⟨f0, f1, f2, f3, f4⟩ := F11s.out
  go_wp2_with fail
  refine (F_any 3 0 _).mono ?_
  rintro e w13 ⟨rfl, k13⟩
  have A13 : Hid (Sv w1.heap.size 0 0 w13) := A11s.out.below k13
  have F13 : Hid (Sv w2.heap.size 0 0 w13) := F11s.out.below k13
  have K13 : Hid (Below w.heap.size w w13) := K11s.out.trans (k13.mono K11s.out.size)
  clear a0 a1 a2 a3 a4 f0 f1 f2 f3 f4 A11s F11s K11s k13
  obtain ⟨a0, a1, a2, a3, a4⟩ := A13.out
  obtain ⟨f0, f1, f2, f3, f4⟩ := F13.out
  go_wp2_with fail
  obtain ⟨w14s, hw14⟩ : ∃ x, x = (w13.setCell ⟨w1.heap.size, 0, none⟩ (.int .i64 3)).setCell ⟨w1.heap.size, 1, none⟩ (.int .i64 0) := ⟨_, rfl⟩
  rw [← hw14]
  have A14s : Hid (Sv w1.heap.size 3 0 w14s) := by rw [hw14]; exact A13.out.set 3 0
  have F14s : Hid (Sv w2.heap.size 0 0 w14s) := by rw [hw14]; exact F13.out.other _ _ (by omega)
  have K14s : Hid (Below w.heap.size w w14s) := by rw [hw14]; exact (K13.out.setCell zw1 _).setCell zw1 _
  clear a0 a1 a2 a3 a4 f0 f1 f2 f3 f4 A13 F13 K13 hw14
  refine (Root_far n k _ (Or.inl hNB)).mono ?_
  rintro e w15 ⟨rfl, k15⟩
  have A15 : Hid (Sv w1.heap.size 3 0 w15) := A14s.out.below k15
  have F15 : Hid (Sv w2.heap.size 0 0 w15) := F14s.out.below k15
  have K15 : Hid (Below w.heap.size w w15) := K14s.out.trans (k15.mono K14s.out.size)
  clear A14s F14s K14s k15
  obtain ⟨a0, a1, a2, a3, a4⟩ := A15.out
  obtain ⟨f0, f1, f2, f3, f4⟩ := F15.out
  go_wp2
  go_ret
  exact ⟨rfl, (K15.out.setCell zw2 _).setCell zw2 _⟩

set_option maxHeartbeats 800000 in
set_option maxRecDepth 100000 in
theorem walk_ok_neg (a n m k : Int) (w : World) (h2 : okB a m = true) (M : Nat) (eM : m = M) (hM : 1 ≤ M) (hg : Int.gcd a m = 1) (hNB : numB n = true) (hn : n < 0) :
    Calls Try.prog 4 #[.int .i64 a, .int .i64 n, .int .i64 m, .int .i64 k] w fun e w' => e = .returned (.bool true) ∧ Below w.heap.size w w' := by
  subst eM
  have h3 : okB3 a n (M : Int) = true := by unfold okB at h2; unfold okB3; rw [hNB]; simpa using h2
  obtain ⟨b1, b3⟩ := okB_bounds h2
  have hN := fun W B hB h0 h1 h2 => refNumbersFault_any [a, n, (M : Int)] B 0 3 W (by simp) hB (triple_cells a n (M : Int) W B h0 h1 h2)
  rw [okB3_nf h3] at hN
  simp only at hN
  have HP : Hid (∀ w, _) := fun w => Power_neg a n (M : Int) w h3 hn
  have HN : Hid (∀ W B _ _ _ _, _) := hN
  clear hN
  have hN2 := fun W B hB h0 h1 => refNumbersFault_any [a, (M : Int)] B 0 2 W (by simp) hB (two_cells a (M : Int) W B h0 h1)
  rw [okB_nf h2] at hN2
  simp only at hN2
  have HI : Hid (∀ w, _) := fun w => Inverse_ok a (M : Int) w h2 (by omega) hg
  have HN2 : Hid (∀ W B _ _ _, _) := hN2
  clear hN2
  have HH : Hid (okB3 a n (M : Int) = true) := h3
  clear h3
  go_enter Try.func4, Try.ntmps4
  go_wp2_with fail
  refine (HN.out _ _ ?_ ?_ ?_ ?_).mono ?_
  · simp
  · go_simp
  · go_simp
  · go_simp
  rintro e w1 ⟨rfl, k1⟩
  have K1 : Hid (Below w.heap.size w w1) := (Below.alloc_self w _).trans (k1.mono (by simp))
  have zw1 : w.heap.size ≤ w1.heap.size := K1.out.size
  clear k1
  go_wp2_with fail
  refine (F_any 3 1 _).mono ?_
  rintro e w1b ⟨rfl, k1b⟩
  have A1b : Hid (Sv w1.heap.size 0 0 w1b) := (Sv.new 0 0 w1).below k1b
  have K1b : Hid (Below w.heap.size w w1b) := K1.out.trans (((Below.alloc_self w1 _).trans (k1b.mono (by simp))).mono K1.out.size)
  clear k1b K1
  obtain ⟨a0, a1, a2, a3, a4⟩ := A1b.out
  go_wp2_with fail
  obtain ⟨w2s, hw2⟩ : ∃ x, x = (w1b.setCell ⟨w1.heap.size, 0, none⟩ (.int .i64 3)).setCell ⟨w1.heap.size, 1, none⟩ (.int .i64 1) := ⟨_, rfl⟩
  rw [← hw2]
  have A2s : Hid (Sv w1.heap.size 3 1 w2s) := by rw [hw2]; exact A1b.out.set 3 1
  have K2s : Hid (Below w.heap.size w w2s) := by rw [hw2]; exact (K1b.out.setCell zw1 _).setCell zw1 _
  clear a0 a1 a2 a3 a4 A1b K1b hw2
  refine (HP.out _).mono ?_
  rintro e w2 ⟨rfl, k2⟩
  have A2 : Hid (Sv w1.heap.size 3 1 w2) := A2s.out.below k2
  have K2 : Hid (Below w.heap.size w w2) := K2s.out.trans (k2.mono K2s.out.size)
  clear A2s K2s k2
  have z12 : w1.heap.size < w2.heap.size := A2.out.lt
  have zw2 : w.heap.size ≤ w2.heap.size := by omega
  obtain ⟨a0, a1, a2, a3, a4⟩ := A2.out
  go_wp2_with fail
  refine (begun_any _).mono ?_
  rintro e w3 ⟨rfl, k3⟩
  have F3 : Hid (Sv w2.heap.size 3 1 w3) := (Sv.new 3 1 w2).below k3
  have A3 : Hid (Sv w1.heap.size 3 1 w3) := (A2.out.alloc _ _).below k3
  have K3 : Hid (Below w.heap.size w w3) := K2.out.trans (((Below.alloc_self w2 _).trans (k3.mono (by simp))).mono K2.out.size)
  clear a0 a1 a2 a3 a4 A2 K2 k3
  obtain ⟨a0, a1, a2, a3, a4⟩ := A3.out
  obtain ⟨f0, f1, f2, f3, f4⟩ := F3.out
  go_wp2_with fail
  refine (HN2.out _ _ ?_ ?_ ?_).mono ?_
  · simp
  · go_simp
  · go_simp
  rintro e w4 ⟨rfl, k4⟩
  have A4 : Hid (Sv w1.heap.size 3 1 w4) := (A3.out.alloc _ _).below k4
  have F4 : Hid (Sv w2.heap.size 3 1 w4) := (F3.out.alloc _ _).below k4
  have K4 : Hid (Below w.heap.size w w4) := K3.out.trans (((Below.alloc_self w3 _).trans (k4.mono (by simp))).mono K3.out.size)
  clear a0 a1 a2 a3 a4 f0 f1 f2 f3 f4 A3 F3 K3 k4
  obtain ⟨a0, a1, a2, a3, a4⟩ := A4.out
  obtain ⟨f0, f1, f2, f3, f4⟩ := F4.out
  go_wp2_with fail
  obtain ⟨w5s, hw5⟩ : ∃ x, x = (w4.setCell ⟨w1.heap.size, 0, none⟩ (.int .i64 0)).setCell ⟨w1.heap.size, 1, none⟩ (.int .i64 0) := ⟨_, rfl⟩
  rw [← hw5]
  have A5s : Hid (Sv w1.heap.size 0 0 w5s) := by rw [hw5]; exact A4.out.set 0 0
  have F5s : Hid (Sv w2.heap.size 3 1 w5s) := by rw [hw5]; exact F4.out.other _ _ (by omega)
  have K5s : Hid (Below w.heap.size w w5s) := by rw [hw5]; exact (K4.out.setCell zw1 _).setCell zw1 _
  clear a0 a1 a2 a3 a4 f0 f1 f2 f3 f4 A4 F4 K4 hw5
  refine (refGcd_nat a.natAbs M _ b1 (by omega) a (M : Int) rfl (by simp)).mono ?_
  rw [hg]
  rintro e wg6 ⟨rfl, hwg⟩
  subst hwg
  obtain ⟨a0, a1, a2, a3, a4⟩ := A5s.out
  obtain ⟨f0, f1, f2, f3, f4⟩ := F5s.out
  go_wp2_with fail
  refine (HI.out _).mono ?_
  rintro e w7 ⟨u, rfl, u0, u1, u2, k7⟩
  have HU : Hid ((u * a) % (M : Int) = 1 % (M : Int)) := u2
  clear u2
  have A7 : Hid (Sv w1.heap.size 0 0 w7) := A5s.out.below k7
  have F7 : Hid (Sv w2.heap.size 3 1 w7) := F5s.out.below k7
  have K7 : Hid (Below w.heap.size w w7) := K5s.out.trans (k7.mono K5s.out.size)
  clear a0 a1 a2 a3 a4 f0 f1 f2 f3 f4 A5s F5s K5s k7
  obtain ⟨a0, a1, a2, a3, a4⟩ := A7.out
  obtain ⟨f0, f1, f2, f3, f4⟩ := F7.out
  go_wp2_with fail
  obtain ⟨w8s, hw8⟩ : ∃ x, x = (w7.setCell ⟨w2.heap.size, 0, none⟩ (.int .i64 0)).setCell ⟨w2.heap.size, 1, none⟩ (.int .i64 0) := ⟨_, rfl⟩
  rw [← hw8]
  have A8s : Hid (Sv w1.heap.size 0 0 w8s) := by rw [hw8]; exact A7.out.other _ _ (by omega)
  have F8s : Hid (Sv w2.heap.size 0 0 w8s) := by rw [hw8]; exact F7.out.set 0 0
  have K8s : Hid (Below w.heap.size w w8s) := by rw [hw8]; exact (K7.out.setCell zw2 _).setCell zw2 _
  clear a0 a1 a2 a3 a4 f0 f1 f2 f3 f4 A7 F7 K7 hw8
  have tt : ((M : Int) == 0) = false := beq_eq_false_iff_ne.2 (by omega)
  have HUa : Hid (a * u % (M : Int) = 1 % (M : Int)) := by show _ = _; rw [Int.mul_comm]; exact HU.out
  have d13 : decide (u < 0) = false := by simp; omega
  have d17 : decide ((M : Int) ≤ u) = false := by simp; omega
  refine wp_region_G (fun w' => w'.cell? ⟨w1.heap.size, 0, none⟩ = some (.int .i64 0)) 29 (by kernel_rfl) A8s.out.c0 (fun hHeld => ?_)
  refine wpAnyG_take (i := 0) (v := ?v0) rfl (by kernel_rfl) (fun _ _ _ h => h) (Or.inl ⟨by rfl, ?y0⟩) hHeld ?r0
  case y0 => (intro wS hSw; obtain s1 := hSw; go_simp; try with_reducible rfl)
  try simp only [Act.put, List.setIfInBounds_toArray, List.set_cons_zero, List.set_cons_succ]
  refine wpAnyG_take (i := 1) (v := ?v1) rfl (by kernel_rfl) (fun _ _ _ h => h) (Or.inl ⟨by rfl, ?y1⟩) hHeld ?r1
  case y1 => (intro wS hSw; obtain s1 := hSw; go_simp; try with_reducible rfl)
  try simp only [Act.put, List.setIfInBounds_toArray, List.set_cons_zero, List.set_cons_succ]
  refine wpAnyG_take (i := 2) (v := .bool false) rfl (by kernel_rfl) (fun _ _ _ h => h) (Or.inl ⟨by kernel_rfl, ?y2⟩) hHeld ?r2
  case y2 => (intro wS hSw; go_simp)
  try simp only [Act.put, List.setIfInBounds_toArray, List.set_cons_zero, List.set_cons_succ]
  refine wpAnyG_take (i := 3) (v := .bool false) rfl (by kernel_rfl) (fun _ _ _ h => h) (Or.inl ⟨by kernel_rfl, ?y3⟩) hHeld ?r3
  case y3 => (intro wS hSw; go_simp)
  try simp only [Act.put, List.setIfInBounds_toArray, List.set_cons_zero, List.set_cons_succ]
  refine wpAnyG_take (i := 4) (v := undef) rfl (by kernel_rfl) (fun _ _ _ h => h) (Or.inr ⟨by kernel_rfl, rfl⟩) hHeld ?_
  try simp only [Act.put, List.setIfInBounds_toArray, List.set_cons_zero, List.set_cons_succ]
  refine wpAnyG_take (i := 5) (v := undef) rfl (by kernel_rfl) (fun _ _ _ h => h) (Or.inr ⟨by kernel_rfl, rfl⟩) hHeld ?_
  try simp only [Act.put, List.setIfInBounds_toArray, List.set_cons_zero, List.set_cons_succ]
  refine wpAnyG_take (i := 6) (v := .bool false) rfl (by kernel_rfl) (fun _ _ _ h => h) (Or.inl ⟨by kernel_rfl, ?y6⟩) hHeld ?r6
  case y6 => (intro wS hSw; go_simp)
  try simp only [Act.put, List.setIfInBounds_toArray, List.set_cons_zero, List.set_cons_succ]
  refine wpAnyG_take (i := 7) (v := .bool false) rfl (by kernel_rfl) (fun _ _ _ h => h) (Or.inl ⟨by kernel_rfl, ?y7⟩) hHeld ?r7
  case y7 => (intro wS hSw; go_simp)
  try simp only [Act.put, List.setIfInBounds_toArray, List.set_cons_zero, List.set_cons_succ]
  refine wpAnyG_take (i := 8) (v := ?v8) rfl (by kernel_rfl) (fun _ _ _ h => h) (Or.inl ⟨by kernel_rfl, ?y8⟩) hHeld ?r8
  case y8 => (intro wS hSw; have s1 := hSw; go_simp; try with_reducible rfl)
  try simp only [Act.put, List.setIfInBounds_toArray, List.set_cons_zero, List.set_cons_succ]
  refine wpAnyG_take (i := 9) (v := ?v9) rfl (by kernel_rfl) (fun _ _ _ h => h) (Or.inl ⟨by kernel_rfl, ?y9⟩) hHeld ?r9
  case y9 => (intro wS hSw; have s1 := hSw; go_simp; try with_reducible rfl)
  try simp only [Act.put, List.setIfInBounds_toArray, List.set_cons_zero, List.set_cons_succ]
  refine wpAnyG_take (i := 10) (v := .bool true) rfl (by kernel_rfl) (fun _ _ _ h => h) (Or.inl ⟨by kernel_rfl, ?y10⟩) hHeld ?r10
  case y10 => (intro wS hSw; go_simp)
  try simp only [Act.put, List.setIfInBounds_toArray, List.set_cons_zero, List.set_cons_succ]
  refine wpAnyG_take (i := 11) (v := .bool true) rfl (by kernel_rfl) (fun _ _ _ h => h) (Or.inl ⟨by kernel_rfl, ?y11⟩) hHeld ?r11
  case y11 => (intro wS hSw; go_simp)
  try simp only [Act.put, List.setIfInBounds_toArray, List.set_cons_zero, List.set_cons_succ]
  refine wpAnyG_take (i := 12) (v := ?v12) rfl (by kernel_rfl) (fun _ _ _ h => h) (Or.inl ⟨by kernel_rfl, ?y12⟩) hHeld ?r12
  case y12 => (intro wS hSw; have s1 := hSw; go_simp; try with_reducible rfl)
  try simp only [Act.put, List.setIfInBounds_toArray, List.set_cons_zero, List.set_cons_succ]
  refine wpAnyG_take (i := 13) (v := .bool false) rfl (by kernel_rfl) (fun _ _ _ h => h) (Or.inl ⟨by kernel_rfl, ?y13⟩) hHeld ?r13
  case y13 => (intro wS hSw; (go_simp; try rw [d13]))
  try simp only [Act.put, List.setIfInBounds_toArray, List.set_cons_zero, List.set_cons_succ]
  refine wpAnyG_take (i := 14) (v := .bool false) rfl (by kernel_rfl) (fun _ _ _ h => h) (Or.inl ⟨by kernel_rfl, ?y14⟩) hHeld ?r14
  case y14 => (intro wS hSw; go_simp)
  try simp only [Act.put, List.setIfInBounds_toArray, List.set_cons_zero, List.set_cons_succ]
  refine wpAnyG_take (i := 15) (v := ?v15) rfl (by kernel_rfl) (fun _ _ _ h => h) (Or.inl ⟨by kernel_rfl, ?y15⟩) hHeld ?r15
  case y15 => (intro wS hSw; have s1 := hSw; go_simp; try with_reducible rfl)
  try simp only [Act.put, List.setIfInBounds_toArray, List.set_cons_zero, List.set_cons_succ]
  refine wpAnyG_take (i := 16) (v := ?v16) rfl (by kernel_rfl) (fun _ _ _ h => h) (Or.inl ⟨by kernel_rfl, ?y16⟩) hHeld ?r16
  case y16 => (intro wS hSw; have s1 := hSw; go_simp; try with_reducible rfl)
  try simp only [Act.put, List.setIfInBounds_toArray, List.set_cons_zero, List.set_cons_succ]
  refine wpAnyG_take (i := 17) (v := .bool false) rfl (by kernel_rfl) (fun _ _ _ h => h) (Or.inl ⟨by kernel_rfl, ?y17⟩) hHeld ?r17
  case y17 => (intro wS hSw; (go_simp; try rw [d17]))
  try simp only [Act.put, List.setIfInBounds_toArray, List.set_cons_zero, List.set_cons_succ]
  refine wpAnyG_take (i := 18) (v := .bool false) rfl (by kernel_rfl) (fun _ _ _ h => h) (Or.inl ⟨by kernel_rfl, ?y18⟩) hHeld ?r18
  case y18 => (intro wS hSw; go_simp)
  try simp only [Act.put, List.setIfInBounds_toArray, List.set_cons_zero, List.set_cons_succ]
  refine wpAnyG_take (i := 19) (v := .bool false) rfl (by kernel_rfl) (fun _ _ _ h => h) (Or.inl ⟨by kernel_rfl, ?y19⟩) hHeld ?r19
  case y19 => (intro wS hSw; go_simp)
  try simp only [Act.put, List.setIfInBounds_toArray, List.set_cons_zero, List.set_cons_succ]
  refine wpAnyG_take (i := 20) (v := ?v20) rfl (by kernel_rfl) (fun _ _ _ h => h) (Or.inl ⟨by kernel_rfl, ?y20⟩) hHeld ?r20
  case y20 => (intro wS hSw; have s1 := hSw; go_simp; try with_reducible rfl)
  try simp only [Act.put, List.setIfInBounds_toArray, List.set_cons_zero, List.set_cons_succ]
  refine wpAnyG_take (i := 21) (v := ?v21) rfl (by kernel_rfl) (fun _ _ _ h => h) (Or.inl ⟨by kernel_rfl, ?y21⟩) hHeld ?r21
  case y21 => (intro wS hSw; have s1 := hSw; go_simp; try with_reducible rfl)
  try simp only [Act.put, List.setIfInBounds_toArray, List.set_cons_zero, List.set_cons_succ]
  refine wpAnyG_take (i := 22) (v := ?v22) rfl (by kernel_rfl) (fun _ _ _ h => h) (Or.inl ⟨by kernel_rfl, ?y22⟩) hHeld ?r22
  case y22 => (intro wS hSw; have s1 := hSw; go_simp; try with_reducible rfl)
  try simp only [Act.put, List.setIfInBounds_toArray, List.set_cons_zero, List.set_cons_succ]
  refine wpAnyG_take (i := 24) (v := ?v24) rfl (by kernel_rfl) (fun _ _ _ h => h) (Or.inl ⟨by kernel_rfl, ?y24⟩) hHeld ?r24
  case y24 => (intro wS hSw; have s1 := hSw; go_simp; try with_reducible rfl)
  try simp only [Act.put, List.setIfInBounds_toArray, List.set_cons_zero, List.set_cons_succ]
  refine wpAnyG_take (i := 25) (v := .int .i64 (1 % (M : Int))) rfl (by kernel_rfl) (fun _ _ _ h => h) (Or.inl ⟨by kernel_rfl, ?y25⟩) hHeld ?r25
  case y25 => (intro wS hSw; (go_simp; rw [if_neg (show ¬ M = 0 by omega), Int.tmod_eq_emod_of_nonneg (show (0 : Int) ≤ 1 by omega)]))
  try simp only [Act.put, List.setIfInBounds_toArray, List.set_cons_zero, List.set_cons_succ]
  refine wpAnyG_one (i := 23) rfl (by kernel_rfl) (fun K hK => ?_)
  rw [if_pos (by kernel_rfl)]
  go_simp
  refine (refProduct_any a u M _ (by omega) (by omega) (by omega) (by omega)).mono ?_
  rw [HUa.out]
  rintro e w10 ⟨rfl, k10⟩
  have A10 : Hid (Sv w1.heap.size 0 0 w10) := A8s.out.drew.below k10
  have F10 : Hid (Sv w2.heap.size 0 0 w10) := F8s.out.drew.below k10
  have K10 : Hid (Below w.heap.size w w10) := K8s.out.drew.trans (k10.mono K8s.out.size)
  clear hHeld k10
  have hHeld : w10.cell? ⟨w1.heap.size, 0, none⟩ = some (.int .i64 0) := A10.out.c0
  refine hK.out _ _ hHeld ?_
  clear hK K
  try simp only [Act.put, List.setIfInBounds_toArray, List.set_cons_zero, List.set_cons_succ]
  refine wpAnyG_take (i := 26) (v := .bool false) rfl (by kernel_rfl) (fun _ _ _ h => h) (Or.inl ⟨by kernel_rfl, ?y26⟩) hHeld ?r26
  case y26 => (intro wS hSw; (go_simp))
  try simp only [Act.put, List.setIfInBounds_toArray, List.set_cons_zero, List.set_cons_succ]
  refine wpAnyG_take (i := 27) (v := .bool false) rfl (by kernel_rfl) (fun _ _ _ h => h) (Or.inl ⟨by kernel_rfl, ?y27⟩) hHeld ?r27
  case y27 => (intro wS hSw; (go_simp))
  try simp only [Act.put, List.setIfInBounds_toArray, List.set_cons_zero, List.set_cons_succ]
  refine wpAnyG_take (i := 28) (v := .bool false) rfl (by kernel_rfl) (fun _ _ _ h => h) (Or.inl ⟨by kernel_rfl, ?y28⟩) hHeld ?r28
  case y28 => (intro wS hSw; (go_simp))
  try simp only [Act.put, List.setIfInBounds_toArray, List.set_cons_zero, List.set_cons_succ]
  refine wpAnyG_last (i := 29) rfl (by kernel_rfl) (by kernel_rfl) (fun K hK => ?_)
  go_simp
  refine hK.out _ _ ?_
  clear hK K
  try simp only [Act.put, List.setIfInBounds_toArray, List.set_cons_zero, List.set_cons_succ]
  refine wpAnyG_done (by kernel_rfl) ?_ _
  clear A8s F8s K8s hHeld
  obtain ⟨a0, a1, a2, a3, a4⟩ := A10.out
  obtain ⟨f0, f1, f2, f3, f4⟩ := F10.out
  go_wp2_with fail
  obtain ⟨w11s, hw11⟩ : ∃ x, x = (w10.setCell ⟨w1.heap.size, 0, none⟩ (.int .i64 0)).setCell ⟨w1.heap.size, 1, none⟩ (.int .i64 0) := ⟨_, rfl⟩
  rw [← hw11]
  have A11s : Hid (Sv w1.heap.size 0 0 w11s) := by rw [hw11]; exact A10.out.set 0 0
  have F11s : Hid (Sv w2.heap.size 0 0 w11s) := by rw [hw11]; exact F10.out.other _ _ (by omega)
  have K11s : Hid (Below w.heap.size w w11s) := by rw [hw11]; exact (K10.out.setCell zw1 _).setCell zw1 _
  clear a0 a1 a2 a3 a4 f0 f1 f2 f3 f4 A10 F10 K10 hw11
  refine (number_any _ _).mono ?_
  rw [hNB]
  rintro e wn12 ⟨rfl, hwn⟩
  subst hwn
  obtain ⟨a0, a1, a2, a3, a4⟩ := A11s.out
  obtain ⟨f0, f1, f2, f3, f4⟩ := F11s.out
  go_wp2_with fail
  refine (F_any 3 0 _).mono ?_
  rintro e w13 ⟨rfl, k13⟩
  have A13 : Hid (Sv w1.heap.size 0 0 w13) := A11s.out.below k13
  have F13 : Hid (Sv w2.heap.size 0 0 w13) := F11s.out.below k13
  have K13 : Hid (Below w.heap.size w w13) := K11s.out.trans (k13.mono K11s.out.size)
  clear a0 a1 a2 a3 a4 f0 f1 f2 f3 f4 A11s F11s K11s k13
  obtain ⟨a0, a1, a2, a3, a4⟩ := A13.out
  obtain ⟨f0, f1, f2, f3, f4⟩ := F13.out
  go_wp2_with fail
  obtain ⟨w14s, hw14⟩ : ∃ x, x = (w13.setCell ⟨w1.heap.size, 0, none⟩ (.int .i64 3)).setCell ⟨w1.heap.size, 1, none⟩ (.int .i64 0) := ⟨_, rfl⟩
  rw [← hw14]
  have A14s : Hid (Sv w1.heap.size 3 0 w14s) := by rw [hw14]; exact A13.out.set 3 0
  have F14s : Hid (Sv w2.heap.size 0 0 w14s) := by rw [hw14]; exact F13.out.other _ _ (by omega)
  have K14s : Hid (Below w.heap.size w w14s) := by rw [hw14]; exact (K13.out.setCell zw1 _).setCell zw1 _
  clear a0 a1 a2 a3 a4 f0 f1 f2 f3 f4 A13 F13 K13 hw14
  refine (Root_far n k _ (Or.inr hn)).mono ?_
  rintro e w15 ⟨rfl, k15⟩
  have A15 : Hid (Sv w1.heap.size 3 0 w15) := A14s.out.below k15
  have F15 : Hid (Sv w2.heap.size 0 0 w15) := F14s.out.below k15
  have K15 : Hid (Below w.heap.size w w15) := K14s.out.trans (k15.mono K14s.out.size)
  clear A14s F14s K14s k15
  obtain ⟨a0, a1, a2, a3, a4⟩ := A15.out
  obtain ⟨f0, f1, f2, f3, f4⟩ := F15.out
  go_wp2
  go_ret
  exact ⟨rfl, (K15.out.setCell zw2 _).setCell zw2 _⟩

set_option maxHeartbeats 800000 in
set_option maxRecDepth 100000 in
theorem walk_ok_manyL (a n m k : Int) (w : World) (h2 : okB a m = true) (M : Nat) (eM : m = M) (hM : 1 ≤ M) (hg : Int.gcd a m = 1) (hNB : numB n = true) (N : Nat) (eN : n = N) (hk : k < 1) :
    Calls Try.prog 4 #[.int .i64 a, .int .i64 n, .int .i64 m, .int .i64 k] w fun e w' => e = .returned (.bool true) ∧ Below w.heap.size w w' := by
  subst eM eN
  have h3 : okB3 a (N : Int) (M : Int) = true := by unfold okB at h2; unfold okB3; rw [hNB]; simpa using h2
  obtain ⟨b1, b3⟩ := okB_bounds h2
  have b2 := numB_true hNB
  have hN := fun W B hB h0 h1 h2 => refNumbersFault_any [a, (N : Int), (M : Int)] B 0 3 W (by simp) hB (triple_cells a (N : Int) (M : Int) W B h0 h1 h2)
  rw [okB3_nf h3] at hN
  simp only at hN
  have HP : Hid (∀ w, _) := fun w => Power_ok a (N : Int) (M : Int) w h3 N M rfl rfl hM
  have hPl : (a % (M : Int)).toNat ^ N % M < M := Nat.mod_lt _ hM
  have HPR : Hid (∀ w, _) := fun w => refPower_any a N M w (by omega) (by omega) (by omega) (by omega)
  obtain ⟨R, gR⟩ : ∃ R, R = (a % (M : Int)).toNat ^ N % M := ⟨_, rfl⟩
  rw [← gR] at HP HPR hPl
  clear gR
  have HN : Hid (∀ W B _ _ _ _, _) := hN
  clear hN
  have hN2 := fun W B hB h0 h1 => refNumbersFault_any [a, (M : Int)] B 0 2 W (by simp) hB (two_cells a (M : Int) W B h0 h1)
  rw [okB_nf h2] at hN2
  simp only at hN2
  have HI : Hid (∀ w, _) := fun w => Inverse_ok a (M : Int) w h2 (by omega) hg
  have HN2 : Hid (∀ W B _ _ _, _) := hN2
  clear hN2
  have HH : Hid (okB3 a (N : Int) (M : Int) = true) := h3
  clear h3
  go_enter Try.func4, Try.ntmps4
  go_wp2_with fail
  refine (HN.out _ _ ?_ ?_ ?_ ?_).mono ?_
  · simp
  · go_simp
  · go_simp
  · go_simp
  rintro e w1 ⟨rfl, k1⟩
  have K1 : Hid (Below w.heap.size w w1) := (Below.alloc_self w _).trans (k1.mono (by simp))
  have zw1 : w.heap.size ≤ w1.heap.size := K1.out.size
  clear k1
  go_wp2_with fail
  refine (HP.out _).mono ?_
  rintro e w2 ⟨rfl, k2⟩
  have A2 : Hid (Sv w1.heap.size 0 0 w2) := (Sv.new 0 0 w1).below k2
  have K2 : Hid (Below w.heap.size w w2) := K1.out.trans (((Below.alloc_self w1 _).trans (k2.mono (by simp))).mono K1.out.size)
  clear k2 K1
  have z12 : w1.heap.size < w2.heap.size := A2.out.lt
  have zw2 : w.heap.size ≤ w2.heap.size := by omega
  obtain ⟨a0, a1, a2, a3, a4⟩ := A2.out
  go_wp2_with fail
  refine (begun_any _).mono ?_
  rintro e w3 ⟨rfl, k3⟩
  have F3 : Hid (Sv w2.heap.size 0 0 w3) := (Sv.new 0 0 w2).below k3
  have A3 : Hid (Sv w1.heap.size 0 0 w3) := (A2.out.alloc _ _).below k3
  have K3 : Hid (Below w.heap.size w w3) := K2.out.trans (((Below.alloc_self w2 _).trans (k3.mono (by simp))).mono K2.out.size)
  clear a0 a1 a2 a3 a4 A2 K2 k3
  obtain ⟨a0, a1, a2, a3, a4⟩ := A3.out
  obtain ⟨f0, f1, f2, f3, f4⟩ := F3.out
  go_wp2_with fail
  refine (HPR.out _).mono ?_
  rintro e w4 ⟨rfl, k4⟩
  have A4 : Hid (Sv w1.heap.size 0 0 w4) := A3.out.below k4
  have F4 : Hid (Sv w2.heap.size 0 0 w4) := F3.out.below k4
  have K4 : Hid (Below w.heap.size w w4) := K3.out.trans (k4.mono K3.out.size)
  clear a0 a1 a2 a3 a4 f0 f1 f2 f3 f4 A3 F3 K3 k4
  obtain ⟨a0, a1, a2, a3, a4⟩ := A4.out
  obtain ⟨f0, f1, f2, f3, f4⟩ := F4.out
  go_wp2_with fail
  refine (HN2.out _ _ ?_ ?_ ?_).mono ?_
  · simp
  · go_simp
  · go_simp
  rintro e w5 ⟨rfl, k5⟩
  have A5 : Hid (Sv w1.heap.size 0 0 w5) := (A4.out.alloc _ _).below k5
  have F5 : Hid (Sv w2.heap.size 0 0 w5) := (F4.out.alloc _ _).below k5
  have K5 : Hid (Below w.heap.size w w5) := K4.out.trans (((Below.alloc_self w4 _).trans (k5.mono (by simp))).mono K4.out.size)
  clear a0 a1 a2 a3 a4 f0 f1 f2 f3 f4 A4 F4 K4 k5
  obtain ⟨a0, a1, a2, a3, a4⟩ := A5.out
  obtain ⟨f0, f1, f2, f3, f4⟩ := F5.out
  go_wp2_with fail
  obtain ⟨w6s, hw6⟩ : ∃ x, x = (w5.setCell ⟨w1.heap.size, 0, none⟩ (.int .i64 0)).setCell ⟨w1.heap.size, 1, none⟩ (.int .i64 0) := ⟨_, rfl⟩
  rw [← hw6]
  have A6s : Hid (Sv w1.heap.size 0 0 w6s) := by rw [hw6]; exact A5.out.set 0 0
  have F6s : Hid (Sv w2.heap.size 0 0 w6s) := by rw [hw6]; exact F5.out.other _ _ (by omega)
  have K6s : Hid (Below w.heap.size w w6s) := by rw [hw6]; exact (K5.out.setCell zw1 _).setCell zw1 _
  clear a0 a1 a2 a3 a4 f0 f1 f2 f3 f4 A5 F5 K5 hw6
  refine (refGcd_nat a.natAbs M _ b1 (by omega) a (M : Int) rfl (by simp)).mono ?_
  rw [hg]
  rintro e wg7 ⟨rfl, hwg⟩
  subst hwg
  obtain ⟨a0, a1, a2, a3, a4⟩ := A6s.out
  obtain ⟨f0, f1, f2, f3, f4⟩ := F6s.out
  go_wp2_with fail
  refine (HI.out _).mono ?_
  rintro e w8 ⟨u, rfl, u0, u1, u2, k8⟩
  have HU : Hid ((u * a) % (M : Int) = 1 % (M : Int)) := u2
  clear u2
  have A8 : Hid (Sv w1.heap.size 0 0 w8) := A6s.out.below k8
  have F8 : Hid (Sv w2.heap.size 0 0 w8) := F6s.out.below k8
  have K8 : Hid (Below w.heap.size w w8) := K6s.out.trans (k8.mono K6s.out.size)
  clear a0 a1 a2 a3 a4 f0 f1 f2 f3 f4 A6s F6s K6s k8
  obtain ⟨a0, a1, a2, a3, a4⟩ := A8.out
  obtain ⟨f0, f1, f2, f3, f4⟩ := F8.out
  go_wp2_with fail
  obtain ⟨w9s, hw9⟩ : ∃ x, x = (w8.setCell ⟨w2.heap.size, 0, none⟩ (.int .i64 0)).setCell ⟨w2.heap.size, 1, none⟩ (.int .i64 0) := ⟨_, rfl⟩
  rw [← hw9]
  have A9s : Hid (Sv w1.heap.size 0 0 w9s) := by rw [hw9]; exact A8.out.other _ _ (by omega)
  have F9s : Hid (Sv w2.heap.size 0 0 w9s) := by rw [hw9]; exact F8.out.set 0 0
  have K9s : Hid (Below w.heap.size w w9s) := by rw [hw9]; exact (K8.out.setCell zw2 _).setCell zw2 _
  clear a0 a1 a2 a3 a4 f0 f1 f2 f3 f4 A8 F8 K8 hw9
  have tt : ((M : Int) == 0) = false := beq_eq_false_iff_ne.2 (by omega)
  have HUa : Hid (a * u % (M : Int) = 1 % (M : Int)) := by show _ = _; rw [Int.mul_comm]; exact HU.out
  have d13 : decide (u < 0) = false := by simp; omega
  have d17 : decide ((M : Int) ≤ u) = false := by simp; omega
  refine wp_region_G (fun w' => w'.cell? ⟨w1.heap.size, 0, none⟩ = some (.int .i64 0)) 29 (by kernel_rfl) A9s.out.c0 (fun hHeld => ?_)
  refine wpAnyG_take (i := 0) (v := ?v0) rfl (by kernel_rfl) (fun _ _ _ h => h) (Or.inl ⟨by rfl, ?y0⟩) hHeld ?r0
  case y0 => (intro wS hSw; obtain s1 := hSw; go_simp; try with_reducible rfl)
  try simp only [Act.put, List.setIfInBounds_toArray, List.set_cons_zero, List.set_cons_succ]
  refine wpAnyG_take (i := 1) (v := ?v1) rfl (by kernel_rfl) (fun _ _ _ h => h) (Or.inl ⟨by rfl, ?y1⟩) hHeld ?r1
  case y1 => (intro wS hSw; obtain s1 := hSw; go_simp; try with_reducible rfl)
  try simp only [Act.put, List.setIfInBounds_toArray, List.set_cons_zero, List.set_cons_succ]
  refine wpAnyG_take (i := 2) (v := .bool false) rfl (by kernel_rfl) (fun _ _ _ h => h) (Or.inl ⟨by kernel_rfl, ?y2⟩) hHeld ?r2
  case y2 => (intro wS hSw; go_simp)
  try simp only [Act.put, List.setIfInBounds_toArray, List.set_cons_zero, List.set_cons_succ]
  refine wpAnyG_take (i := 3) (v := .bool false) rfl (by kernel_rfl) (fun _ _ _ h => h) (Or.inl ⟨by kernel_rfl, ?y3⟩) hHeld ?r3
  case y3 => (intro wS hSw; go_simp)
  try simp only [Act.put, List.setIfInBounds_toArray, List.set_cons_zero, List.set_cons_succ]
  refine wpAnyG_take (i := 4) (v := undef) rfl (by kernel_rfl) (fun _ _ _ h => h) (Or.inr ⟨by kernel_rfl, rfl⟩) hHeld ?_
  try simp only [Act.put, List.setIfInBounds_toArray, List.set_cons_zero, List.set_cons_succ]
  refine wpAnyG_take (i := 5) (v := undef) rfl (by kernel_rfl) (fun _ _ _ h => h) (Or.inr ⟨by kernel_rfl, rfl⟩) hHeld ?_
  try simp only [Act.put, List.setIfInBounds_toArray, List.set_cons_zero, List.set_cons_succ]
  refine wpAnyG_take (i := 6) (v := .bool false) rfl (by kernel_rfl) (fun _ _ _ h => h) (Or.inl ⟨by kernel_rfl, ?y6⟩) hHeld ?r6
  case y6 => (intro wS hSw; go_simp)
  try simp only [Act.put, List.setIfInBounds_toArray, List.set_cons_zero, List.set_cons_succ]
  refine wpAnyG_take (i := 7) (v := .bool false) rfl (by kernel_rfl) (fun _ _ _ h => h) (Or.inl ⟨by kernel_rfl, ?y7⟩) hHeld ?r7
  case y7 => (intro wS hSw; go_simp)
  try simp only [Act.put, List.setIfInBounds_toArray, List.set_cons_zero, List.set_cons_succ]
  refine wpAnyG_take (i := 8) (v := ?v8) rfl (by kernel_rfl) (fun _ _ _ h => h) (Or.inl ⟨by kernel_rfl, ?y8⟩) hHeld ?r8
  case y8 => (intro wS hSw; have s1 := hSw; go_simp; try with_reducible rfl)
  try simp only [Act.put, List.setIfInBounds_toArray, List.set_cons_zero, List.set_cons_succ]
  refine wpAnyG_take (i := 9) (v := ?v9) rfl (by kernel_rfl) (fun _ _ _ h => h) (Or.inl ⟨by kernel_rfl, ?y9⟩) hHeld ?r9
  case y9 => (intro wS hSw; have s1 := hSw; go_simp; try with_reducible rfl)
  try simp only [Act.put, List.setIfInBounds_toArray, List.set_cons_zero, List.set_cons_succ]
  refine wpAnyG_take (i := 10) (v := .bool true) rfl (by kernel_rfl) (fun _ _ _ h => h) (Or.inl ⟨by kernel_rfl, ?y10⟩) hHeld ?r10
  case y10 => (intro wS hSw; go_simp)
  try simp only [Act.put, List.setIfInBounds_toArray, List.set_cons_zero, List.set_cons_succ]
  refine wpAnyG_take (i := 11) (v := .bool true) rfl (by kernel_rfl) (fun _ _ _ h => h) (Or.inl ⟨by kernel_rfl, ?y11⟩) hHeld ?r11
  case y11 => (intro wS hSw; go_simp)
  try simp only [Act.put, List.setIfInBounds_toArray, List.set_cons_zero, List.set_cons_succ]
  refine wpAnyG_take (i := 12) (v := ?v12) rfl (by kernel_rfl) (fun _ _ _ h => h) (Or.inl ⟨by kernel_rfl, ?y12⟩) hHeld ?r12
  case y12 => (intro wS hSw; have s1 := hSw; go_simp; try with_reducible rfl)
  try simp only [Act.put, List.setIfInBounds_toArray, List.set_cons_zero, List.set_cons_succ]
  refine wpAnyG_take (i := 13) (v := .bool false) rfl (by kernel_rfl) (fun _ _ _ h => h) (Or.inl ⟨by kernel_rfl, ?y13⟩) hHeld ?r13
  case y13 => (intro wS hSw; (go_simp; try rw [d13]))
  try simp only [Act.put, List.setIfInBounds_toArray, List.set_cons_zero, List.set_cons_succ]
  refine wpAnyG_take (i := 14) (v := .bool false) rfl (by kernel_rfl) (fun _ _ _ h => h) (Or.inl ⟨by kernel_rfl, ?y14⟩) hHeld ?r14
  case y14 => (intro wS hSw; go_simp)
  try simp only [Act.put, List.setIfInBounds_toArray, List.set_cons_zero, List.set_cons_succ]
  refine wpAnyG_take (i := 15) (v := ?v15) rfl (by kernel_rfl) (fun _ _ _ h => h) (Or.inl ⟨by kernel_rfl, ?y15⟩) hHeld ?r15
  case y15 => (intro wS hSw; have s1 := hSw; go_simp; try with_reducible rfl)
  try simp only [Act.put, List.setIfInBounds_toArray, List.set_cons_zero, List.set_cons_succ]
  refine wpAnyG_take (i := 16) (v := ?v16) rfl (by kernel_rfl) (fun _ _ _ h => h) (Or.inl ⟨by kernel_rfl, ?y16⟩) hHeld ?r16
  case y16 => (intro wS hSw; have s1 := hSw; go_simp; try with_reducible rfl)
  try simp only [Act.put, List.setIfInBounds_toArray, List.set_cons_zero, List.set_cons_succ]
  refine wpAnyG_take (i := 17) (v := .bool false) rfl (by kernel_rfl) (fun _ _ _ h => h) (Or.inl ⟨by kernel_rfl, ?y17⟩) hHeld ?r17
  case y17 => (intro wS hSw; (go_simp; try rw [d17]))
  try simp only [Act.put, List.setIfInBounds_toArray, List.set_cons_zero, List.set_cons_succ]
  refine wpAnyG_take (i := 18) (v := .bool false) rfl (by kernel_rfl) (fun _ _ _ h => h) (Or.inl ⟨by kernel_rfl, ?y18⟩) hHeld ?r18
  case y18 => (intro wS hSw; go_simp)
  try simp only [Act.put, List.setIfInBounds_toArray, List.set_cons_zero, List.set_cons_succ]
  refine wpAnyG_take (i := 19) (v := .bool false) rfl (by kernel_rfl) (fun _ _ _ h => h) (Or.inl ⟨by kernel_rfl, ?y19⟩) hHeld ?r19
  case y19 => (intro wS hSw; go_simp)
  try simp only [Act.put, List.setIfInBounds_toArray, List.set_cons_zero, List.set_cons_succ]
  refine wpAnyG_take (i := 20) (v := ?v20) rfl (by kernel_rfl) (fun _ _ _ h => h) (Or.inl ⟨by kernel_rfl, ?y20⟩) hHeld ?r20
  case y20 => (intro wS hSw; have s1 := hSw; go_simp; try with_reducible rfl)
  try simp only [Act.put, List.setIfInBounds_toArray, List.set_cons_zero, List.set_cons_succ]
  refine wpAnyG_take (i := 21) (v := ?v21) rfl (by kernel_rfl) (fun _ _ _ h => h) (Or.inl ⟨by kernel_rfl, ?y21⟩) hHeld ?r21
  case y21 => (intro wS hSw; have s1 := hSw; go_simp; try with_reducible rfl)
  try simp only [Act.put, List.setIfInBounds_toArray, List.set_cons_zero, List.set_cons_succ]
  refine wpAnyG_take (i := 22) (v := ?v22) rfl (by kernel_rfl) (fun _ _ _ h => h) (Or.inl ⟨by kernel_rfl, ?y22⟩) hHeld ?r22
  case y22 => (intro wS hSw; have s1 := hSw; go_simp; try with_reducible rfl)
  try simp only [Act.put, List.setIfInBounds_toArray, List.set_cons_zero, List.set_cons_succ]
  refine wpAnyG_take (i := 24) (v := ?v24) rfl (by kernel_rfl) (fun _ _ _ h => h) (Or.inl ⟨by kernel_rfl, ?y24⟩) hHeld ?r24
  case y24 => (intro wS hSw; have s1 := hSw; go_simp; try with_reducible rfl)
  try simp only [Act.put, List.setIfInBounds_toArray, List.set_cons_zero, List.set_cons_succ]
  refine wpAnyG_take (i := 25) (v := .int .i64 (1 % (M : Int))) rfl (by kernel_rfl) (fun _ _ _ h => h) (Or.inl ⟨by kernel_rfl, ?y25⟩) hHeld ?r25
  case y25 => (intro wS hSw; (go_simp; rw [if_neg (show ¬ M = 0 by omega), Int.tmod_eq_emod_of_nonneg (show (0 : Int) ≤ 1 by omega)]))
  try simp only [Act.put, List.setIfInBounds_toArray, List.set_cons_zero, List.set_cons_succ]
  refine wpAnyG_one (i := 23) rfl (by kernel_rfl) (fun K hK => ?_)
  rw [if_pos (by kernel_rfl)]
  go_simp
  refine (refProduct_any a u M _ (by omega) (by omega) (by omega) (by omega)).mono ?_
  rw [HUa.out]
  rintro e w10 ⟨rfl, k10⟩
  have A10 : Hid (Sv w1.heap.size 0 0 w10) := A9s.out.drew.below k10
  have F10 : Hid (Sv w2.heap.size 0 0 w10) := F9s.out.drew.below k10
  have K10 : Hid (Below w.heap.size w w10) := K9s.out.drew.trans (k10.mono K9s.out.size)
  clear hHeld k10
  have hHeld : w10.cell? ⟨w1.heap.size, 0, none⟩ = some (.int .i64 0) := A10.out.c0
  refine hK.out _ _ hHeld ?_
  clear hK K
  try simp only [Act.put, List.setIfInBounds_toArray, List.set_cons_zero, List.set_cons_succ]
  refine wpAnyG_take (i := 26) (v := .bool false) rfl (by kernel_rfl) (fun _ _ _ h => h) (Or.inl ⟨by kernel_rfl, ?y26⟩) hHeld ?r26
  case y26 => (intro wS hSw; (go_simp))
  try simp only [Act.put, List.setIfInBounds_toArray, List.set_cons_zero, List.set_cons_succ]
  refine wpAnyG_take (i := 27) (v := .bool false) rfl (by kernel_rfl) (fun _ _ _ h => h) (Or.inl ⟨by kernel_rfl, ?y27⟩) hHeld ?r27
  case y27 => (intro wS hSw; (go_simp))
  try simp only [Act.put, List.setIfInBounds_toArray, List.set_cons_zero, List.set_cons_succ]
  refine wpAnyG_take (i := 28) (v := .bool false) rfl (by kernel_rfl) (fun _ _ _ h => h) (Or.inl ⟨by kernel_rfl, ?y28⟩) hHeld ?r28
  case y28 => (intro wS hSw; (go_simp))
  try simp only [Act.put, List.setIfInBounds_toArray, List.set_cons_zero, List.set_cons_succ]
  refine wpAnyG_last (i := 29) rfl (by kernel_rfl) (by kernel_rfl) (fun K hK => ?_)
  go_simp
  refine hK.out _ _ ?_
  clear hK K
  try simp only [Act.put, List.setIfInBounds_toArray, List.set_cons_zero, List.set_cons_succ]
  refine wpAnyG_done (by kernel_rfl) ?_ _
  clear A9s F9s K9s hHeld
  obtain ⟨a0, a1, a2, a3, a4⟩ := A10.out
  obtain ⟨f0, f1, f2, f3, f4⟩ := F10.out
  go_wp2_with fail
  obtain ⟨w11s, hw11⟩ : ∃ x, x = (w10.setCell ⟨w1.heap.size, 0, none⟩ (.int .i64 0)).setCell ⟨w1.heap.size, 1, none⟩ (.int .i64 0) := ⟨_, rfl⟩
  rw [← hw11]
  have A11s : Hid (Sv w1.heap.size 0 0 w11s) := by rw [hw11]; exact A10.out.set 0 0
  have F11s : Hid (Sv w2.heap.size 0 0 w11s) := by rw [hw11]; exact F10.out.other _ _ (by omega)
  have K11s : Hid (Below w.heap.size w w11s) := by rw [hw11]; exact (K10.out.setCell zw1 _).setCell zw1 _
  clear a0 a1 a2 a3 a4 f0 f1 f2 f3 f4 A10 F10 K10 hw11
  refine (number_any _ _).mono ?_
  rw [hNB]
  rintro e wn12 ⟨rfl, hwn⟩
  subst hwn
  obtain ⟨a0, a1, a2, a3, a4⟩ := A11s.out
  obtain ⟨f0, f1, f2, f3, f4⟩ := F11s.out
  go_wp2_with fail
  refine (F_any 3 1 _).mono ?_
  rintro e w13 ⟨rfl, k13⟩
  have A13 : Hid (Sv w1.heap.size 0 0 w13) := A11s.out.below k13
  have F13 : Hid (Sv w2.heap.size 0 0 w13) := F11s.out.below k13
  have K13 : Hid (Below w.heap.size w w13) := K11s.out.trans (k13.mono K11s.out.size)
  clear a0 a1 a2 a3 a4 f0 f1 f2 f3 f4 A11s F11s K11s k13
  obtain ⟨a0, a1, a2, a3, a4⟩ := A13.out
  obtain ⟨f0, f1, f2, f3, f4⟩ := F13.out
  go_wp2_with fail
  obtain ⟨w14s, hw14⟩ : ∃ x, x = (w13.setCell ⟨w1.heap.size, 0, none⟩ (.int .i64 3)).setCell ⟨w1.heap.size, 1, none⟩ (.int .i64 1) := ⟨_, rfl⟩
  rw [← hw14]
  have A14s : Hid (Sv w1.heap.size 3 1 w14s) := by rw [hw14]; exact A13.out.set 3 1
  have F14s : Hid (Sv w2.heap.size 0 0 w14s) := by rw [hw14]; exact F13.out.other _ _ (by omega)
  have K14s : Hid (Below w.heap.size w w14s) := by rw [hw14]; exact (K13.out.setCell zw1 _).setCell zw1 _
  clear a0 a1 a2 a3 a4 f0 f1 f2 f3 f4 A13 F13 K13 hw14
  refine (Root_many (N : Int) k _ hNB (by omega) (Or.inl hk)).mono ?_
  rintro e w15 ⟨rfl, k15⟩
  have A15 : Hid (Sv w1.heap.size 3 1 w15) := A14s.out.below k15
  have F15 : Hid (Sv w2.heap.size 0 0 w15) := F14s.out.below k15
  have K15 : Hid (Below w.heap.size w w15) := K14s.out.trans (k15.mono K14s.out.size)
  clear A14s F14s K14s k15
  obtain ⟨a0, a1, a2, a3, a4⟩ := A15.out
  obtain ⟨f0, f1, f2, f3, f4⟩ := F15.out
  go_wp2
  go_ret
  exact ⟨rfl, (K15.out.setCell zw2 _).setCell zw2 _⟩

set_option maxHeartbeats 800000 in
set_option maxRecDepth 100000 in
theorem walk_ok_manyH (a n m k : Int) (w : World) (h2 : okB a m = true) (M : Nat) (eM : m = M) (hM : 1 ≤ M) (hg : Int.gcd a m = 1) (hNB : numB n = true) (N : Nat) (eN : n = N) (hk : 60 < k) :
    Calls Try.prog 4 #[.int .i64 a, .int .i64 n, .int .i64 m, .int .i64 k] w fun e w' => e = .returned (.bool true) ∧ Below w.heap.size w w' := by
  subst eM eN
  have h3 : okB3 a (N : Int) (M : Int) = true := by unfold okB at h2; unfold okB3; rw [hNB]; simpa using h2
  obtain ⟨b1, b3⟩ := okB_bounds h2
  have b2 := numB_true hNB
  have hN := fun W B hB h0 h1 h2 => refNumbersFault_any [a, (N : Int), (M : Int)] B 0 3 W (by simp) hB (triple_cells a (N : Int) (M : Int) W B h0 h1 h2)
  rw [okB3_nf h3] at hN
  simp only at hN
  have HP : Hid (∀ w, _) := fun w => Power_ok a (N : Int) (M : Int) w h3 N M rfl rfl hM
  have hPl : (a % (M : Int)).toNat ^ N % M < M := Nat.mod_lt _ hM
  have HPR : Hid (∀ w, _) := fun w => refPower_any a N M w (by omega) (by omega) (by omega) (by omega)
  obtain ⟨R, gR⟩ : ∃ R, R = (a % (M : Int)).toNat ^ N % M := ⟨_, rfl⟩
  rw [← gR] at HP HPR hPl
  clear gR
  have HN : Hid (∀ W B _ _ _ _, _) := hN
  clear hN
  have hN2 := fun W B hB h0 h1 => refNumbersFault_any [a, (M : Int)] B 0 2 W (by simp) hB (two_cells a (M : Int) W B h0 h1)
  rw [okB_nf h2] at hN2
  simp only at hN2
  have HI : Hid (∀ w, _) := fun w => Inverse_ok a (M : Int) w h2 (by omega) hg
  have HN2 : Hid (∀ W B _ _ _, _) := hN2
  clear hN2
  have HH : Hid (okB3 a (N : Int) (M : Int) = true) := h3
  clear h3
  go_enter Try.func4, Try.ntmps4
  go_wp2_with fail
  refine (HN.out _ _ ?_ ?_ ?_ ?_).mono ?_
  · simp
  · go_simp
  · go_simp
  · go_simp
  rintro e w1 ⟨rfl, k1⟩
  have K1 : Hid (Below w.heap.size w w1) := (Below.alloc_self w _).trans (k1.mono (by simp))
  have zw1 : w.heap.size ≤ w1.heap.size := K1.out.size
  clear k1
  go_wp2_with fail
  refine (HP.out _).mono ?_
  rintro e w2 ⟨rfl, k2⟩
  have A2 : Hid (Sv w1.heap.size 0 0 w2) := (Sv.new 0 0 w1).below k2
  have K2 : Hid (Below w.heap.size w w2) := K1.out.trans (((Below.alloc_self w1 _).trans (k2.mono (by simp))).mono K1.out.size)
  clear k2 K1
  have z12 : w1.heap.size < w2.heap.size := A2.out.lt
  have zw2 : w.heap.size ≤ w2.heap.size := by omega
  obtain ⟨a0, a1, a2, a3, a4⟩ := A2.out
  go_wp2_with fail
  refine (begun_any _).mono ?_
  rintro e w3 ⟨rfl, k3⟩
  have F3 : Hid (Sv w2.heap.size 0 0 w3) := (Sv.new 0 0 w2).below k3
  have A3 : Hid (Sv w1.heap.size 0 0 w3) := (A2.out.alloc _ _).below k3
  have K3 : Hid (Below w.heap.size w w3) := K2.out.trans (((Below.alloc_self w2 _).trans (k3.mono (by simp))).mono K2.out.size)
  clear a0 a1 a2 a3 a4 A2 K2 k3
  obtain ⟨a0, a1, a2, a3, a4⟩ := A3.out
  obtain ⟨f0, f1, f2, f3, f4⟩ := F3.out
  go_wp2_with fail
  refine (HPR.out _).mono ?_
  rintro e w4 ⟨rfl, k4⟩
  have A4 : Hid (Sv w1.heap.size 0 0 w4) := A3.out.below k4
  have F4 : Hid (Sv w2.heap.size 0 0 w4) := F3.out.below k4
  have K4 : Hid (Below w.heap.size w w4) := K3.out.trans (k4.mono K3.out.size)
  clear a0 a1 a2 a3 a4 f0 f1 f2 f3 f4 A3 F3 K3 k4
  obtain ⟨a0, a1, a2, a3, a4⟩ := A4.out
  obtain ⟨f0, f1, f2, f3, f4⟩ := F4.out
  go_wp2_with fail
  refine (HN2.out _ _ ?_ ?_ ?_).mono ?_
  · simp
  · go_simp
  · go_simp
  rintro e w5 ⟨rfl, k5⟩
  have A5 : Hid (Sv w1.heap.size 0 0 w5) := (A4.out.alloc _ _).below k5
  have F5 : Hid (Sv w2.heap.size 0 0 w5) := (F4.out.alloc _ _).below k5
  have K5 : Hid (Below w.heap.size w w5) := K4.out.trans (((Below.alloc_self w4 _).trans (k5.mono (by simp))).mono K4.out.size)
  clear a0 a1 a2 a3 a4 f0 f1 f2 f3 f4 A4 F4 K4 k5
  obtain ⟨a0, a1, a2, a3, a4⟩ := A5.out
  obtain ⟨f0, f1, f2, f3, f4⟩ := F5.out
  go_wp2_with fail
  obtain ⟨w6s, hw6⟩ : ∃ x, x = (w5.setCell ⟨w1.heap.size, 0, none⟩ (.int .i64 0)).setCell ⟨w1.heap.size, 1, none⟩ (.int .i64 0) := ⟨_, rfl⟩
  rw [← hw6]
  have A6s : Hid (Sv w1.heap.size 0 0 w6s) := by rw [hw6]; exact A5.out.set 0 0
  have F6s : Hid (Sv w2.heap.size 0 0 w6s) := by rw [hw6]; exact F5.out.other _ _ (by omega)
  have K6s : Hid (Below w.heap.size w w6s) := by rw [hw6]; exact (K5.out.setCell zw1 _).setCell zw1 _
  clear a0 a1 a2 a3 a4 f0 f1 f2 f3 f4 A5 F5 K5 hw6
  refine (refGcd_nat a.natAbs M _ b1 (by omega) a (M : Int) rfl (by simp)).mono ?_
  rw [hg]
  rintro e wg7 ⟨rfl, hwg⟩
  subst hwg
  obtain ⟨a0, a1, a2, a3, a4⟩ := A6s.out
  obtain ⟨f0, f1, f2, f3, f4⟩ := F6s.out
  go_wp2_with fail
  refine (HI.out _).mono ?_
  rintro e w8 ⟨u, rfl, u0, u1, u2, k8⟩
  have HU : Hid ((u * a) % (M : Int) = 1 % (M : Int)) := u2
  clear u2
  have A8 : Hid (Sv w1.heap.size 0 0 w8) := A6s.out.below k8
  have F8 : Hid (Sv w2.heap.size 0 0 w8) := F6s.out.below k8
  have K8 : Hid (Below w.heap.size w w8) := K6s.out.trans (k8.mono K6s.out.size)
  clear a0 a1 a2 a3 a4 f0 f1 f2 f3 f4 A6s F6s K6s k8
  obtain ⟨a0, a1, a2, a3, a4⟩ := A8.out
  obtain ⟨f0, f1, f2, f3, f4⟩ := F8.out
  go_wp2_with fail
  obtain ⟨w9s, hw9⟩ : ∃ x, x = (w8.setCell ⟨w2.heap.size, 0, none⟩ (.int .i64 0)).setCell ⟨w2.heap.size, 1, none⟩ (.int .i64 0) := ⟨_, rfl⟩
  rw [← hw9]
  have A9s : Hid (Sv w1.heap.size 0 0 w9s) := by rw [hw9]; exact A8.out.other _ _ (by omega)
  have F9s : Hid (Sv w2.heap.size 0 0 w9s) := by rw [hw9]; exact F8.out.set 0 0
  have K9s : Hid (Below w.heap.size w w9s) := by rw [hw9]; exact (K8.out.setCell zw2 _).setCell zw2 _
  clear a0 a1 a2 a3 a4 f0 f1 f2 f3 f4 A8 F8 K8 hw9
  have tt : ((M : Int) == 0) = false := beq_eq_false_iff_ne.2 (by omega)
  have HUa : Hid (a * u % (M : Int) = 1 % (M : Int)) := by show _ = _; rw [Int.mul_comm]; exact HU.out
  have d13 : decide (u < 0) = false := by simp; omega
  have d17 : decide ((M : Int) ≤ u) = false := by simp; omega
  refine wp_region_G (fun w' => w'.cell? ⟨w1.heap.size, 0, none⟩ = some (.int .i64 0)) 29 (by kernel_rfl) A9s.out.c0 (fun hHeld => ?_)
  refine wpAnyG_take (i := 0) (v := ?v0) rfl (by kernel_rfl) (fun _ _ _ h => h) (Or.inl ⟨by rfl, ?y0⟩) hHeld ?r0
  case y0 => (intro wS hSw; obtain s1 := hSw; go_simp; try with_reducible rfl)
  try simp only [Act.put, List.setIfInBounds_toArray, List.set_cons_zero, List.set_cons_succ]
  refine wpAnyG_take (i := 1) (v := ?v1) rfl (by kernel_rfl) (fun _ _ _ h => h) (Or.inl ⟨by rfl, ?y1⟩) hHeld ?r1
  case y1 => (intro wS hSw; obtain s1 := hSw; go_simp; try with_reducible rfl)
  try simp only [Act.put, List.setIfInBounds_toArray, List.set_cons_zero, List.set_cons_succ]
  refine wpAnyG_take (i := 2) (v := .bool false) rfl (by kernel_rfl) (fun _ _ _ h => h) (Or.inl ⟨by kernel_rfl, ?y2⟩) hHeld ?r2
  case y2 => (intro wS hSw; go_simp)
  try simp only [Act.put, List.setIfInBounds_toArray, List.set_cons_zero, List.set_cons_succ]
  refine wpAnyG_take (i := 3) (v := .bool false) rfl (by kernel_rfl) (fun _ _ _ h => h) (Or.inl ⟨by kernel_rfl, ?y3⟩) hHeld ?r3
  case y3 => (intro wS hSw; go_simp)
  try simp only [Act.put, List.setIfInBounds_toArray, List.set_cons_zero, List.set_cons_succ]
  refine wpAnyG_take (i := 4) (v := undef) rfl (by kernel_rfl) (fun _ _ _ h => h) (Or.inr ⟨by kernel_rfl, rfl⟩) hHeld ?_
  try simp only [Act.put, List.setIfInBounds_toArray, List.set_cons_zero, List.set_cons_succ]
  refine wpAnyG_take (i := 5) (v := undef) rfl (by kernel_rfl) (fun _ _ _ h => h) (Or.inr ⟨by kernel_rfl, rfl⟩) hHeld ?_
  try simp only [Act.put, List.setIfInBounds_toArray, List.set_cons_zero, List.set_cons_succ]
  refine wpAnyG_take (i := 6) (v := .bool false) rfl (by kernel_rfl) (fun _ _ _ h => h) (Or.inl ⟨by kernel_rfl, ?y6⟩) hHeld ?r6
  case y6 => (intro wS hSw; go_simp)
  try simp only [Act.put, List.setIfInBounds_toArray, List.set_cons_zero, List.set_cons_succ]
  refine wpAnyG_take (i := 7) (v := .bool false) rfl (by kernel_rfl) (fun _ _ _ h => h) (Or.inl ⟨by kernel_rfl, ?y7⟩) hHeld ?r7
  case y7 => (intro wS hSw; go_simp)
  try simp only [Act.put, List.setIfInBounds_toArray, List.set_cons_zero, List.set_cons_succ]
  refine wpAnyG_take (i := 8) (v := ?v8) rfl (by kernel_rfl) (fun _ _ _ h => h) (Or.inl ⟨by kernel_rfl, ?y8⟩) hHeld ?r8
  case y8 => (intro wS hSw; have s1 := hSw; go_simp; try with_reducible rfl)
  try simp only [Act.put, List.setIfInBounds_toArray, List.set_cons_zero, List.set_cons_succ]
  refine wpAnyG_take (i := 9) (v := ?v9) rfl (by kernel_rfl) (fun _ _ _ h => h) (Or.inl ⟨by kernel_rfl, ?y9⟩) hHeld ?r9
  case y9 => (intro wS hSw; have s1 := hSw; go_simp; try with_reducible rfl)
  try simp only [Act.put, List.setIfInBounds_toArray, List.set_cons_zero, List.set_cons_succ]
  refine wpAnyG_take (i := 10) (v := .bool true) rfl (by kernel_rfl) (fun _ _ _ h => h) (Or.inl ⟨by kernel_rfl, ?y10⟩) hHeld ?r10
  case y10 => (intro wS hSw; go_simp)
  try simp only [Act.put, List.setIfInBounds_toArray, List.set_cons_zero, List.set_cons_succ]
  refine wpAnyG_take (i := 11) (v := .bool true) rfl (by kernel_rfl) (fun _ _ _ h => h) (Or.inl ⟨by kernel_rfl, ?y11⟩) hHeld ?r11
  case y11 => (intro wS hSw; go_simp)
  try simp only [Act.put, List.setIfInBounds_toArray, List.set_cons_zero, List.set_cons_succ]
  refine wpAnyG_take (i := 12) (v := ?v12) rfl (by kernel_rfl) (fun _ _ _ h => h) (Or.inl ⟨by kernel_rfl, ?y12⟩) hHeld ?r12
  case y12 => (intro wS hSw; have s1 := hSw; go_simp; try with_reducible rfl)
  try simp only [Act.put, List.setIfInBounds_toArray, List.set_cons_zero, List.set_cons_succ]
  refine wpAnyG_take (i := 13) (v := .bool false) rfl (by kernel_rfl) (fun _ _ _ h => h) (Or.inl ⟨by kernel_rfl, ?y13⟩) hHeld ?r13
  case y13 => (intro wS hSw; (go_simp; try rw [d13]))
  try simp only [Act.put, List.setIfInBounds_toArray, List.set_cons_zero, List.set_cons_succ]
  refine wpAnyG_take (i := 14) (v := .bool false) rfl (by kernel_rfl) (fun _ _ _ h => h) (Or.inl ⟨by kernel_rfl, ?y14⟩) hHeld ?r14
  case y14 => (intro wS hSw; go_simp)
  try simp only [Act.put, List.setIfInBounds_toArray, List.set_cons_zero, List.set_cons_succ]
  refine wpAnyG_take (i := 15) (v := ?v15) rfl (by kernel_rfl) (fun _ _ _ h => h) (Or.inl ⟨by kernel_rfl, ?y15⟩) hHeld ?r15
  case y15 => (intro wS hSw; have s1 := hSw; go_simp; try with_reducible rfl)
  try simp only [Act.put, List.setIfInBounds_toArray, List.set_cons_zero, List.set_cons_succ]
  refine wpAnyG_take (i := 16) (v := ?v16) rfl (by kernel_rfl) (fun _ _ _ h => h) (Or.inl ⟨by kernel_rfl, ?y16⟩) hHeld ?r16
  case y16 => (intro wS hSw; have s1 := hSw; go_simp; try with_reducible rfl)
  try simp only [Act.put, List.setIfInBounds_toArray, List.set_cons_zero, List.set_cons_succ]
  refine wpAnyG_take (i := 17) (v := .bool false) rfl (by kernel_rfl) (fun _ _ _ h => h) (Or.inl ⟨by kernel_rfl, ?y17⟩) hHeld ?r17
  case y17 => (intro wS hSw; (go_simp; try rw [d17]))
  try simp only [Act.put, List.setIfInBounds_toArray, List.set_cons_zero, List.set_cons_succ]
  refine wpAnyG_take (i := 18) (v := .bool false) rfl (by kernel_rfl) (fun _ _ _ h => h) (Or.inl ⟨by kernel_rfl, ?y18⟩) hHeld ?r18
  case y18 => (intro wS hSw; go_simp)
  try simp only [Act.put, List.setIfInBounds_toArray, List.set_cons_zero, List.set_cons_succ]
  refine wpAnyG_take (i := 19) (v := .bool false) rfl (by kernel_rfl) (fun _ _ _ h => h) (Or.inl ⟨by kernel_rfl, ?y19⟩) hHeld ?r19
  case y19 => (intro wS hSw; go_simp)
  try simp only [Act.put, List.setIfInBounds_toArray, List.set_cons_zero, List.set_cons_succ]
  refine wpAnyG_take (i := 20) (v := ?v20) rfl (by kernel_rfl) (fun _ _ _ h => h) (Or.inl ⟨by kernel_rfl, ?y20⟩) hHeld ?r20
  case y20 => (intro wS hSw; have s1 := hSw; go_simp; try with_reducible rfl)
  try simp only [Act.put, List.setIfInBounds_toArray, List.set_cons_zero, List.set_cons_succ]
  refine wpAnyG_take (i := 21) (v := ?v21) rfl (by kernel_rfl) (fun _ _ _ h => h) (Or.inl ⟨by kernel_rfl, ?y21⟩) hHeld ?r21
  case y21 => (intro wS hSw; have s1 := hSw; go_simp; try with_reducible rfl)
  try simp only [Act.put, List.setIfInBounds_toArray, List.set_cons_zero, List.set_cons_succ]
  refine wpAnyG_take (i := 22) (v := ?v22) rfl (by kernel_rfl) (fun _ _ _ h => h) (Or.inl ⟨by kernel_rfl, ?y22⟩) hHeld ?r22
  case y22 => (intro wS hSw; have s1 := hSw; go_simp; try with_reducible rfl)
  try simp only [Act.put, List.setIfInBounds_toArray, List.set_cons_zero, List.set_cons_succ]
  refine wpAnyG_take (i := 24) (v := ?v24) rfl (by kernel_rfl) (fun _ _ _ h => h) (Or.inl ⟨by kernel_rfl, ?y24⟩) hHeld ?r24
  case y24 => (intro wS hSw; have s1 := hSw; go_simp; try with_reducible rfl)
  try simp only [Act.put, List.setIfInBounds_toArray, List.set_cons_zero, List.set_cons_succ]
  refine wpAnyG_take (i := 25) (v := .int .i64 (1 % (M : Int))) rfl (by kernel_rfl) (fun _ _ _ h => h) (Or.inl ⟨by kernel_rfl, ?y25⟩) hHeld ?r25
  case y25 => (intro wS hSw; (go_simp; rw [if_neg (show ¬ M = 0 by omega), Int.tmod_eq_emod_of_nonneg (show (0 : Int) ≤ 1 by omega)]))
  try simp only [Act.put, List.setIfInBounds_toArray, List.set_cons_zero, List.set_cons_succ]
  refine wpAnyG_one (i := 23) rfl (by kernel_rfl) (fun K hK => ?_)
  rw [if_pos (by kernel_rfl)]
  go_simp
  refine (refProduct_any a u M _ (by omega) (by omega) (by omega) (by omega)).mono ?_
  rw [HUa.out]
  rintro e w10 ⟨rfl, k10⟩
  have A10 : Hid (Sv w1.heap.size 0 0 w10) := A9s.out.drew.below k10
  have F10 : Hid (Sv w2.heap.size 0 0 w10) := F9s.out.drew.below k10
  have K10 : Hid (Below w.heap.size w w10) := K9s.out.drew.trans (k10.mono K9s.out.size)
  clear hHeld k10
  have hHeld : w10.cell? ⟨w1.heap.size, 0, none⟩ = some (.int .i64 0) := A10.out.c0
  refine hK.out _ _ hHeld ?_
  clear hK K
  try simp only [Act.put, List.setIfInBounds_toArray, List.set_cons_zero, List.set_cons_succ]
  refine wpAnyG_take (i := 26) (v := .bool false) rfl (by kernel_rfl) (fun _ _ _ h => h) (Or.inl ⟨by kernel_rfl, ?y26⟩) hHeld ?r26
  case y26 => (intro wS hSw; (go_simp))
  try simp only [Act.put, List.setIfInBounds_toArray, List.set_cons_zero, List.set_cons_succ]
  refine wpAnyG_take (i := 27) (v := .bool false) rfl (by kernel_rfl) (fun _ _ _ h => h) (Or.inl ⟨by kernel_rfl, ?y27⟩) hHeld ?r27
  case y27 => (intro wS hSw; (go_simp))
  try simp only [Act.put, List.setIfInBounds_toArray, List.set_cons_zero, List.set_cons_succ]
  refine wpAnyG_take (i := 28) (v := .bool false) rfl (by kernel_rfl) (fun _ _ _ h => h) (Or.inl ⟨by kernel_rfl, ?y28⟩) hHeld ?r28
  case y28 => (intro wS hSw; (go_simp))
  try simp only [Act.put, List.setIfInBounds_toArray, List.set_cons_zero, List.set_cons_succ]
  refine wpAnyG_last (i := 29) rfl (by kernel_rfl) (by kernel_rfl) (fun K hK => ?_)
  go_simp
  refine hK.out _ _ ?_
  clear hK K
  try simp only [Act.put, List.setIfInBounds_toArray, List.set_cons_zero, List.set_cons_succ]
  refine wpAnyG_done (by kernel_rfl) ?_ _
  clear A9s F9s K9s hHeld
  obtain ⟨a0, a1, a2, a3, a4⟩ := A10.out
  obtain ⟨f0, f1, f2, f3, f4⟩ := F10.out
  go_wp2_with fail
  obtain ⟨w11s, hw11⟩ : ∃ x, x = (w10.setCell ⟨w1.heap.size, 0, none⟩ (.int .i64 0)).setCell ⟨w1.heap.size, 1, none⟩ (.int .i64 0) := ⟨_, rfl⟩
  rw [← hw11]
  have A11s : Hid (Sv w1.heap.size 0 0 w11s) := by rw [hw11]; exact A10.out.set 0 0
  have F11s : Hid (Sv w2.heap.size 0 0 w11s) := by rw [hw11]; exact F10.out.other _ _ (by omega)
  have K11s : Hid (Below w.heap.size w w11s) := by rw [hw11]; exact (K10.out.setCell zw1 _).setCell zw1 _
  clear a0 a1 a2 a3 a4 f0 f1 f2 f3 f4 A10 F10 K10 hw11
  refine (number_any _ _).mono ?_
  rw [hNB]
  rintro e wn12 ⟨rfl, hwn⟩
  subst hwn
  obtain ⟨a0, a1, a2, a3, a4⟩ := A11s.out
  obtain ⟨f0, f1, f2, f3, f4⟩ := F11s.out
  go_wp2_with fail
  refine (F_any 3 1 _).mono ?_
  rintro e w13 ⟨rfl, k13⟩
  have A13 : Hid (Sv w1.heap.size 0 0 w13) := A11s.out.below k13
  have F13 : Hid (Sv w2.heap.size 0 0 w13) := F11s.out.below k13
  have K13 : Hid (Below w.heap.size w w13) := K11s.out.trans (k13.mono K11s.out.size)
  clear a0 a1 a2 a3 a4 f0 f1 f2 f3 f4 A11s F11s K11s k13
  obtain ⟨a0, a1, a2, a3, a4⟩ := A13.out
  obtain ⟨f0, f1, f2, f3, f4⟩ := F13.out
  go_wp2_with fail
  obtain ⟨w14s, hw14⟩ : ∃ x, x = (w13.setCell ⟨w1.heap.size, 0, none⟩ (.int .i64 3)).setCell ⟨w1.heap.size, 1, none⟩ (.int .i64 1) := ⟨_, rfl⟩
  rw [← hw14]
  have A14s : Hid (Sv w1.heap.size 3 1 w14s) := by rw [hw14]; exact A13.out.set 3 1
  have F14s : Hid (Sv w2.heap.size 0 0 w14s) := by rw [hw14]; exact F13.out.other _ _ (by omega)
  have K14s : Hid (Below w.heap.size w w14s) := by rw [hw14]; exact (K13.out.setCell zw1 _).setCell zw1 _
  clear a0 a1 a2 a3 a4 f0 f1 f2 f3 f4 A13 F13 K13 hw14
  refine (Root_many (N : Int) k _ hNB (by omega) (Or.inr hk)).mono ?_
  rintro e w15 ⟨rfl, k15⟩
  have A15 : Hid (Sv w1.heap.size 3 1 w15) := A14s.out.below k15
  have F15 : Hid (Sv w2.heap.size 0 0 w15) := F14s.out.below k15
  have K15 : Hid (Below w.heap.size w w15) := K14s.out.trans (k15.mono K14s.out.size)
  clear A14s F14s K14s k15
  obtain ⟨a0, a1, a2, a3, a4⟩ := A15.out
  obtain ⟨f0, f1, f2, f3, f4⟩ := F15.out
  go_wp2
  go_ret
  exact ⟨rfl, (K15.out.setCell zw2 _).setCell zw2 _⟩

set_option maxHeartbeats 800000 in
set_option maxRecDepth 100000 in
theorem walk_ok_ok (a n m k : Int) (w : World) (h2 : okB a m = true) (M : Nat) (eM : m = M) (hM : 1 ≤ M) (hg : Int.gcd a m = 1) (hNB : numB n = true) (N : Nat) (eN : n = N) (K : Nat) (eK : k = K) (hK1 : 1 ≤ K) (hK2 : K ≤ 60) :
    Calls Try.prog 4 #[.int .i64 a, .int .i64 n, .int .i64 m, .int .i64 k] w fun e w' => e = .returned (.bool true) ∧ Below w.heap.size w w' := by
  subst eM eN eK
  have h3 : okB3 a (N : Int) (M : Int) = true := by unfold okB at h2; unfold okB3; rw [hNB]; simpa using h2
  obtain ⟨b1, b3⟩ := okB_bounds h2
  have b2 := numB_true hNB
  have hN := fun W B hB h0 h1 h2 => refNumbersFault_any [a, (N : Int), (M : Int)] B 0 3 W (by simp) hB (triple_cells a (N : Int) (M : Int) W B h0 h1 h2)
  rw [okB3_nf h3] at hN
  simp only at hN
  have HP : Hid (∀ w, _) := fun w => Power_ok a (N : Int) (M : Int) w h3 N M rfl rfl hM
  have hPl : (a % (M : Int)).toNat ^ N % M < M := Nat.mod_lt _ hM
  have HPR : Hid (∀ w, _) := fun w => refPower_any a N M w (by omega) (by omega) (by omega) (by omega)
  obtain ⟨R, gR⟩ : ∃ R, R = (a % (M : Int)).toNat ^ N % M := ⟨_, rfl⟩
  rw [← gR] at HP HPR hPl
  clear gR
  have HN : Hid (∀ W B _ _ _ _, _) := hN
  clear hN
  have hN2 := fun W B hB h0 h1 => refNumbersFault_any [a, (M : Int)] B 0 2 W (by simp) hB (two_cells a (M : Int) W B h0 h1)
  rw [okB_nf h2] at hN2
  simp only at hN2
  have HI : Hid (∀ w, _) := fun w => Inverse_ok a (M : Int) w h2 (by omega) hg
  have HN2 : Hid (∀ W B _ _ _, _) := hN2
  clear hN2
  have HH : Hid (okB3 a (N : Int) (M : Int) = true) := h3
  clear h3
  go_enter Try.func4, Try.ntmps4
  go_wp2_with fail
  refine (HN.out _ _ ?_ ?_ ?_ ?_).mono ?_
  · simp
  · go_simp
  · go_simp
  · go_simp
  rintro e w1 ⟨rfl, k1⟩
  have K1 : Hid (Below w.heap.size w w1) := (Below.alloc_self w _).trans (k1.mono (by simp))
  have zw1 : w.heap.size ≤ w1.heap.size := K1.out.size
  clear k1
  go_wp2_with fail
  refine (HP.out _).mono ?_
  rintro e w2 ⟨rfl, k2⟩
  have A2 : Hid (Sv w1.heap.size 0 0 w2) := (Sv.new 0 0 w1).below k2
  have K2 : Hid (Below w.heap.size w w2) := K1.out.trans (((Below.alloc_self w1 _).trans (k2.mono (by simp))).mono K1.out.size)
  clear k2 K1
  have z12 : w1.heap.size < w2.heap.size := A2.out.lt
  have zw2 : w.heap.size ≤ w2.heap.size := by omega
  obtain ⟨a0, a1, a2, a3, a4⟩ := A2.out
  go_wp2_with fail
  refine (begun_any _).mono ?_
  rintro e w3 ⟨rfl, k3⟩
  have F3 : Hid (Sv w2.heap.size 0 0 w3) := (Sv.new 0 0 w2).below k3
  have A3 : Hid (Sv w1.heap.size 0 0 w3) := (A2.out.alloc _ _).below k3
  have K3 : Hid (Below w.heap.size w w3) := K2.out.trans (((Below.alloc_self w2 _).trans (k3.mono (by simp))).mono K2.out.size)
  clear a0 a1 a2 a3 a4 A2 K2 k3
  obtain ⟨a0, a1, a2, a3, a4⟩ := A3.out
  obtain ⟨f0, f1, f2, f3, f4⟩ := F3.out
  go_wp2_with fail
  refine (HPR.out _).mono ?_
  rintro e w4 ⟨rfl, k4⟩
  have A4 : Hid (Sv w1.heap.size 0 0 w4) := A3.out.below k4
  have F4 : Hid (Sv w2.heap.size 0 0 w4) := F3.out.below k4
  have K4 : Hid (Below w.heap.size w w4) := K3.out.trans (k4.mono K3.out.size)
  clear a0 a1 a2 a3 a4 f0 f1 f2 f3 f4 A3 F3 K3 k4
  obtain ⟨a0, a1, a2, a3, a4⟩ := A4.out
  obtain ⟨f0, f1, f2, f3, f4⟩ := F4.out
  go_wp2_with fail
  refine (HN2.out _ _ ?_ ?_ ?_).mono ?_
  · simp
  · go_simp
  · go_simp
  rintro e w5 ⟨rfl, k5⟩
  have A5 : Hid (Sv w1.heap.size 0 0 w5) := (A4.out.alloc _ _).below k5
  have F5 : Hid (Sv w2.heap.size 0 0 w5) := (F4.out.alloc _ _).below k5
  have K5 : Hid (Below w.heap.size w w5) := K4.out.trans (((Below.alloc_self w4 _).trans (k5.mono (by simp))).mono K4.out.size)
  clear a0 a1 a2 a3 a4 f0 f1 f2 f3 f4 A4 F4 K4 k5
  obtain ⟨a0, a1, a2, a3, a4⟩ := A5.out
  obtain ⟨f0, f1, f2, f3, f4⟩ := F5.out
  go_wp2_with fail
  obtain ⟨w6s, hw6⟩ : ∃ x, x = (w5.setCell ⟨w1.heap.size, 0, none⟩ (.int .i64 0)).setCell ⟨w1.heap.size, 1, none⟩ (.int .i64 0) := ⟨_, rfl⟩
  rw [← hw6]
  have A6s : Hid (Sv w1.heap.size 0 0 w6s) := by rw [hw6]; exact A5.out.set 0 0
  have F6s : Hid (Sv w2.heap.size 0 0 w6s) := by rw [hw6]; exact F5.out.other _ _ (by omega)
  have K6s : Hid (Below w.heap.size w w6s) := by rw [hw6]; exact (K5.out.setCell zw1 _).setCell zw1 _
  clear a0 a1 a2 a3 a4 f0 f1 f2 f3 f4 A5 F5 K5 hw6
  refine (refGcd_nat a.natAbs M _ b1 (by omega) a (M : Int) rfl (by simp)).mono ?_
  rw [hg]
  rintro e wg7 ⟨rfl, hwg⟩
  subst hwg
  obtain ⟨a0, a1, a2, a3, a4⟩ := A6s.out
  obtain ⟨f0, f1, f2, f3, f4⟩ := F6s.out
  go_wp2_with fail
  refine (HI.out _).mono ?_
  rintro e w8 ⟨u, rfl, u0, u1, u2, k8⟩
  have HU : Hid ((u * a) % (M : Int) = 1 % (M : Int)) := u2
  clear u2
  have A8 : Hid (Sv w1.heap.size 0 0 w8) := A6s.out.below k8
  have F8 : Hid (Sv w2.heap.size 0 0 w8) := F6s.out.below k8
  have K8 : Hid (Below w.heap.size w w8) := K6s.out.trans (k8.mono K6s.out.size)
  clear a0 a1 a2 a3 a4 f0 f1 f2 f3 f4 A6s F6s K6s k8
  obtain ⟨a0, a1, a2, a3, a4⟩ := A8.out
  obtain ⟨f0, f1, f2, f3, f4⟩ := F8.out
  go_wp2_with fail
  obtain ⟨w9s, hw9⟩ : ∃ x, x = (w8.setCell ⟨w2.heap.size, 0, none⟩ (.int .i64 0)).setCell ⟨w2.heap.size, 1, none⟩ (.int .i64 0) := ⟨_, rfl⟩
  rw [← hw9]
  have A9s : Hid (Sv w1.heap.size 0 0 w9s) := by rw [hw9]; exact A8.out.other _ _ (by omega)
  have F9s : Hid (Sv w2.heap.size 0 0 w9s) := by rw [hw9]; exact F8.out.set 0 0
  have K9s : Hid (Below w.heap.size w w9s) := by rw [hw9]; exact (K8.out.setCell zw2 _).setCell zw2 _
  clear a0 a1 a2 a3 a4 f0 f1 f2 f3 f4 A8 F8 K8 hw9
  have tt : ((M : Int) == 0) = false := beq_eq_false_iff_ne.2 (by omega)
  have HUa : Hid (a * u % (M : Int) = 1 % (M : Int)) := by show _ = _; rw [Int.mul_comm]; exact HU.out
  have d13 : decide (u < 0) = false := by simp; omega
  have d17 : decide ((M : Int) ≤ u) = false := by simp; omega
  refine wp_region_G (fun w' => w'.cell? ⟨w1.heap.size, 0, none⟩ = some (.int .i64 0)) 29 (by kernel_rfl) A9s.out.c0 (fun hHeld => ?_)
  refine wpAnyG_take (i := 0) (v := ?v0) rfl (by kernel_rfl) (fun _ _ _ h => h) (Or.inl ⟨by rfl, ?y0⟩) hHeld ?r0
  case y0 => (intro wS hSw; obtain s1 := hSw; go_simp; try with_reducible rfl)
  try simp only [Act.put, List.setIfInBounds_toArray, List.set_cons_zero, List.set_cons_succ]
  refine wpAnyG_take (i := 1) (v := ?v1) rfl (by kernel_rfl) (fun _ _ _ h => h) (Or.inl ⟨by rfl, ?y1⟩) hHeld ?r1
  case y1 => (intro wS hSw; obtain s1 := hSw; go_simp; try with_reducible rfl)
  try simp only [Act.put, List.setIfInBounds_toArray, List.set_cons_zero, List.set_cons_succ]
  refine wpAnyG_take (i := 2) (v := .bool false) rfl (by kernel_rfl) (fun _ _ _ h => h) (Or.inl ⟨by kernel_rfl, ?y2⟩) hHeld ?r2
  case y2 => (intro wS hSw; go_simp)
  try simp only [Act.put, List.setIfInBounds_toArray, List.set_cons_zero, List.set_cons_succ]
  refine wpAnyG_take (i := 3) (v := .bool false) rfl (by kernel_rfl) (fun _ _ _ h => h) (Or.inl ⟨by kernel_rfl, ?y3⟩) hHeld ?r3
  case y3 => (intro wS hSw; go_simp)
  try simp only [Act.put, List.setIfInBounds_toArray, List.set_cons_zero, List.set_cons_succ]
  refine wpAnyG_take (i := 4) (v := undef) rfl (by kernel_rfl) (fun _ _ _ h => h) (Or.inr ⟨by kernel_rfl, rfl⟩) hHeld ?_
  try simp only [Act.put, List.setIfInBounds_toArray, List.set_cons_zero, List.set_cons_succ]
  refine wpAnyG_take (i := 5) (v := undef) rfl (by kernel_rfl) (fun _ _ _ h => h) (Or.inr ⟨by kernel_rfl, rfl⟩) hHeld ?_
  try simp only [Act.put, List.setIfInBounds_toArray, List.set_cons_zero, List.set_cons_succ]
  refine wpAnyG_take (i := 6) (v := .bool false) rfl (by kernel_rfl) (fun _ _ _ h => h) (Or.inl ⟨by kernel_rfl, ?y6⟩) hHeld ?r6
  case y6 => (intro wS hSw; go_simp)
  try simp only [Act.put, List.setIfInBounds_toArray, List.set_cons_zero, List.set_cons_succ]
  refine wpAnyG_take (i := 7) (v := .bool false) rfl (by kernel_rfl) (fun _ _ _ h => h) (Or.inl ⟨by kernel_rfl, ?y7⟩) hHeld ?r7
  case y7 => (intro wS hSw; go_simp)
  try simp only [Act.put, List.setIfInBounds_toArray, List.set_cons_zero, List.set_cons_succ]
  refine wpAnyG_take (i := 8) (v := ?v8) rfl (by kernel_rfl) (fun _ _ _ h => h) (Or.inl ⟨by kernel_rfl, ?y8⟩) hHeld ?r8
  case y8 => (intro wS hSw; have s1 := hSw; go_simp; try with_reducible rfl)
  try simp only [Act.put, List.setIfInBounds_toArray, List.set_cons_zero, List.set_cons_succ]
  refine wpAnyG_take (i := 9) (v := ?v9) rfl (by kernel_rfl) (fun _ _ _ h => h) (Or.inl ⟨by kernel_rfl, ?y9⟩) hHeld ?r9
  case y9 => (intro wS hSw; have s1 := hSw; go_simp; try with_reducible rfl)
  try simp only [Act.put, List.setIfInBounds_toArray, List.set_cons_zero, List.set_cons_succ]
  refine wpAnyG_take (i := 10) (v := .bool true) rfl (by kernel_rfl) (fun _ _ _ h => h) (Or.inl ⟨by kernel_rfl, ?y10⟩) hHeld ?r10
  case y10 => (intro wS hSw; go_simp)
  try simp only [Act.put, List.setIfInBounds_toArray, List.set_cons_zero, List.set_cons_succ]
  refine wpAnyG_take (i := 11) (v := .bool true) rfl (by kernel_rfl) (fun _ _ _ h => h) (Or.inl ⟨by kernel_rfl, ?y11⟩) hHeld ?r11
  case y11 => (intro wS hSw; go_simp)
  try simp only [Act.put, List.setIfInBounds_toArray, List.set_cons_zero, List.set_cons_succ]
  refine wpAnyG_take (i := 12) (v := ?v12) rfl (by kernel_rfl) (fun _ _ _ h => h) (Or.inl ⟨by kernel_rfl, ?y12⟩) hHeld ?r12
  case y12 => (intro wS hSw; have s1 := hSw; go_simp; try with_reducible rfl)
  try simp only [Act.put, List.setIfInBounds_toArray, List.set_cons_zero, List.set_cons_succ]
  refine wpAnyG_take (i := 13) (v := .bool false) rfl (by kernel_rfl) (fun _ _ _ h => h) (Or.inl ⟨by kernel_rfl, ?y13⟩) hHeld ?r13
  case y13 => (intro wS hSw; (go_simp; try rw [d13]))
  try simp only [Act.put, List.setIfInBounds_toArray, List.set_cons_zero, List.set_cons_succ]
  refine wpAnyG_take (i := 14) (v := .bool false) rfl (by kernel_rfl) (fun _ _ _ h => h) (Or.inl ⟨by kernel_rfl, ?y14⟩) hHeld ?r14
  case y14 => (intro wS hSw; go_simp)
  try simp only [Act.put, List.setIfInBounds_toArray, List.set_cons_zero, List.set_cons_succ]
  refine wpAnyG_take (i := 15) (v := ?v15) rfl (by kernel_rfl) (fun _ _ _ h => h) (Or.inl ⟨by kernel_rfl, ?y15⟩) hHeld ?r15
  case y15 => (intro wS hSw; have s1 := hSw; go_simp; try with_reducible rfl)
  try simp only [Act.put, List.setIfInBounds_toArray, List.set_cons_zero, List.set_cons_succ]
  refine wpAnyG_take (i := 16) (v := ?v16) rfl (by kernel_rfl) (fun _ _ _ h => h) (Or.inl ⟨by kernel_rfl, ?y16⟩) hHeld ?r16
  case y16 => (intro wS hSw; have s1 := hSw; go_simp; try with_reducible rfl)
  try simp only [Act.put, List.setIfInBounds_toArray, List.set_cons_zero, List.set_cons_succ]
  refine wpAnyG_take (i := 17) (v := .bool false) rfl (by kernel_rfl) (fun _ _ _ h => h) (Or.inl ⟨by kernel_rfl, ?y17⟩) hHeld ?r17
  case y17 => (intro wS hSw; (go_simp; try rw [d17]))
  try simp only [Act.put, List.setIfInBounds_toArray, List.set_cons_zero, List.set_cons_succ]
  refine wpAnyG_take (i := 18) (v := .bool false) rfl (by kernel_rfl) (fun _ _ _ h => h) (Or.inl ⟨by kernel_rfl, ?y18⟩) hHeld ?r18
  case y18 => (intro wS hSw; go_simp)
  try simp only [Act.put, List.setIfInBounds_toArray, List.set_cons_zero, List.set_cons_succ]
  refine wpAnyG_take (i := 19) (v := .bool false) rfl (by kernel_rfl) (fun _ _ _ h => h) (Or.inl ⟨by kernel_rfl, ?y19⟩) hHeld ?r19
  case y19 => (intro wS hSw; go_simp)
  try simp only [Act.put, List.setIfInBounds_toArray, List.set_cons_zero, List.set_cons_succ]
  refine wpAnyG_take (i := 20) (v := ?v20) rfl (by kernel_rfl) (fun _ _ _ h => h) (Or.inl ⟨by kernel_rfl, ?y20⟩) hHeld ?r20
  case y20 => (intro wS hSw; have s1 := hSw; go_simp; try with_reducible rfl)
  try simp only [Act.put, List.setIfInBounds_toArray, List.set_cons_zero, List.set_cons_succ]
  refine wpAnyG_take (i := 21) (v := ?v21) rfl (by kernel_rfl) (fun _ _ _ h => h) (Or.inl ⟨by kernel_rfl, ?y21⟩) hHeld ?r21
  case y21 => (intro wS hSw; have s1 := hSw; go_simp; try with_reducible rfl)
  try simp only [Act.put, List.setIfInBounds_toArray, List.set_cons_zero, List.set_cons_succ]
  refine wpAnyG_take (i := 22) (v := ?v22) rfl (by kernel_rfl) (fun _ _ _ h => h) (Or.inl ⟨by kernel_rfl, ?y22⟩) hHeld ?r22
  case y22 => (intro wS hSw; have s1 := hSw; go_simp; try with_reducible rfl)
  try simp only [Act.put, List.setIfInBounds_toArray, List.set_cons_zero, List.set_cons_succ]
  refine wpAnyG_take (i := 24) (v := ?v24) rfl (by kernel_rfl) (fun _ _ _ h => h) (Or.inl ⟨by kernel_rfl, ?y24⟩) hHeld ?r24
  case y24 => (intro wS hSw; have s1 := hSw; go_simp; try with_reducible rfl)
  try simp only [Act.put, List.setIfInBounds_toArray, List.set_cons_zero, List.set_cons_succ]
  refine wpAnyG_take (i := 25) (v := .int .i64 (1 % (M : Int))) rfl (by kernel_rfl) (fun _ _ _ h => h) (Or.inl ⟨by kernel_rfl, ?y25⟩) hHeld ?r25
  case y25 => (intro wS hSw; (go_simp; rw [if_neg (show ¬ M = 0 by omega), Int.tmod_eq_emod_of_nonneg (show (0 : Int) ≤ 1 by omega)]))
  try simp only [Act.put, List.setIfInBounds_toArray, List.set_cons_zero, List.set_cons_succ]
  refine wpAnyG_one (i := 23) rfl (by kernel_rfl) (fun K hK => ?_)
  rw [if_pos (by kernel_rfl)]
  go_simp
  refine (refProduct_any a u M _ (by omega) (by omega) (by omega) (by omega)).mono ?_
  rw [HUa.out]
  rintro e w10 ⟨rfl, k10⟩
  have A10 : Hid (Sv w1.heap.size 0 0 w10) := A9s.out.drew.below k10
  have F10 : Hid (Sv w2.heap.size 0 0 w10) := F9s.out.drew.below k10
  have K10 : Hid (Below w.heap.size w w10) := K9s.out.drew.trans (k10.mono K9s.out.size)
  clear hHeld k10
  have hHeld : w10.cell? ⟨w1.heap.size, 0, none⟩ = some (.int .i64 0) := A10.out.c0
  refine hK.out _ _ hHeld ?_
  clear hK K
  try simp only [Act.put, List.setIfInBounds_toArray, List.set_cons_zero, List.set_cons_succ]
  refine wpAnyG_take (i := 26) (v := .bool false) rfl (by kernel_rfl) (fun _ _ _ h => h) (Or.inl ⟨by kernel_rfl, ?y26⟩) hHeld ?r26
  case y26 => (intro wS hSw; (go_simp))
  try simp only [Act.put, List.setIfInBounds_toArray, List.set_cons_zero, List.set_cons_succ]
  refine wpAnyG_take (i := 27) (v := .bool false) rfl (by kernel_rfl) (fun _ _ _ h => h) (Or.inl ⟨by kernel_rfl, ?y27⟩) hHeld ?r27
  case y27 => (intro wS hSw; (go_simp))
  try simp only [Act.put, List.setIfInBounds_toArray, List.set_cons_zero, List.set_cons_succ]
  refine wpAnyG_take (i := 28) (v := .bool false) rfl (by kernel_rfl) (fun _ _ _ h => h) (Or.inl ⟨by kernel_rfl, ?y28⟩) hHeld ?r28
  case y28 => (intro wS hSw; (go_simp))
  try simp only [Act.put, List.setIfInBounds_toArray, List.set_cons_zero, List.set_cons_succ]
  refine wpAnyG_last (i := 29) rfl (by kernel_rfl) (by kernel_rfl) (fun K hK => ?_)
  go_simp
  refine hK.out _ _ ?_
  clear hK K
  try simp only [Act.put, List.setIfInBounds_toArray, List.set_cons_zero, List.set_cons_succ]
  refine wpAnyG_done (by kernel_rfl) ?_ _
  clear A9s F9s K9s hHeld
  obtain ⟨a0, a1, a2, a3, a4⟩ := A10.out
  obtain ⟨f0, f1, f2, f3, f4⟩ := F10.out
  go_wp2_with fail
  obtain ⟨w11s, hw11⟩ : ∃ x, x = (w10.setCell ⟨w1.heap.size, 0, none⟩ (.int .i64 0)).setCell ⟨w1.heap.size, 1, none⟩ (.int .i64 0) := ⟨_, rfl⟩
  rw [← hw11]
  have A11s : Hid (Sv w1.heap.size 0 0 w11s) := by rw [hw11]; exact A10.out.set 0 0
  have F11s : Hid (Sv w2.heap.size 0 0 w11s) := by rw [hw11]; exact F10.out.other _ _ (by omega)
  have K11s : Hid (Below w.heap.size w w11s) := by rw [hw11]; exact (K10.out.setCell zw1 _).setCell zw1 _
  clear a0 a1 a2 a3 a4 f0 f1 f2 f3 f4 A10 F10 K10 hw11
  refine (number_any _ _).mono ?_
  rw [hNB]
  rintro e wn12 ⟨rfl, hwn⟩
  subst hwn
  obtain ⟨a0, a1, a2, a3, a4⟩ := A11s.out
  obtain ⟨f0, f1, f2, f3, f4⟩ := F11s.out
  go_wp2_with fail
  refine (Root_ok N K _ hNB hK1 hK2).mono ?_
  rintro e w13 ⟨r, rfl, r1, r2, r3, k13⟩
  have HR1 : Hid (decide ((N : Int) < (r : Int) ^ K) = false) := by
    show _ = _
    rw [← Int.natCast_pow]
    simp only [decide_eq_false_iff_not]
    omega
  have HR2 : Hid (decide ((N : Int) < ((r : Int) + 1) ^ K) = true) := by
    show _ = _
    rw [show (r : Int) + 1 = ((r + 1 : Nat) : Int) by omega, ← Int.natCast_pow]
    simp only [decide_eq_true_iff]
    omega
  have hrN : numB (r : Int) = true := by
    have h5 : r ≤ N := Nat.le_trans (le_pow r K hK1) r1
    simp [numB]; omega
  clear r1 r2
  have A13 : Hid (Sv w1.heap.size 0 0 w13) := A11s.out.below k13
  have F13 : Hid (Sv w2.heap.size 0 0 w13) := F11s.out.below k13
  have K13 : Hid (Below w.heap.size w w13) := K11s.out.trans (k13.mono K11s.out.size)
  clear a0 a1 a2 a3 a4 f0 f1 f2 f3 f4 A11s F11s K11s k13
  obtain ⟨a0, a1, a2, a3, a4⟩ := A13.out
  obtain ⟨f0, f1, f2, f3, f4⟩ := F13.out
  go_wp2_with fail
  obtain ⟨w14s, hw14⟩ : ∃ x, x = (w13.setCell ⟨w2.heap.size, 0, none⟩ (.int .i64 0)).setCell ⟨w2.heap.size, 1, none⟩ (.int .i64 0) := ⟨_, rfl⟩
  rw [← hw14]
  have A14s : Hid (Sv w1.heap.size 0 0 w14s) := by rw [hw14]; exact A13.out.other _ _ (by omega)
  have F14s : Hid (Sv w2.heap.size 0 0 w14s) := by rw [hw14]; exact F13.out.set 0 0
  have K14s : Hid (Below w.heap.size w w14s) := by rw [hw14]; exact (K13.out.setCell zw2 _).setCell zw2 _
  clear a0 a1 a2 a3 a4 f0 f1 f2 f3 f4 A13 F13 K13 hw14
  refine (number_any _ _).mono ?_
  rw [hrN]
  rintro e wn15 ⟨rfl, hwn⟩
  subst hwn
  go_wp2_with fail
  refine (refAbove_any (r : Int) K N _ (by omega) (by omega) (by omega)).mono ?_
  rw [HR1.out]
  rintro e w16 ⟨rfl, k16⟩
  have A16 : Hid (Sv w1.heap.size 0 0 w16) := A14s.out.below k16
  have F16 : Hid (Sv w2.heap.size 0 0 w16) := F14s.out.below k16
  have K16 : Hid (Below w.heap.size w w16) := K14s.out.trans (k16.mono K14s.out.size)
  clear A14s F14s K14s k16
  go_wp2_with fail
  refine (refAbove_any ((r : Int) + 1) K N _ (by omega) (by omega) (by omega)).mono ?_
  rw [HR2.out]
  rintro e w17 ⟨rfl, k17⟩
  have A17 : Hid (Sv w1.heap.size 0 0 w17) := A16.out.below k17
  have F17 : Hid (Sv w2.heap.size 0 0 w17) := F16.out.below k17
  have K17 : Hid (Below w.heap.size w w17) := K16.out.trans (k17.mono K16.out.size)
  clear A16 F16 K16 k17
  go_wp2
  go_ret
  exact ⟨rfl, K17.out⟩

end Go.Proofs.Ytknmfohipdjlpaa.wholePowers
