import Derived.Test.YtcnfhndejkngkaaGreatDoorRoG
import Derived.Test.YtcnfhndejkngkaaGreatDoorRoB
import Derived.Test.YtcnfhndejkngkaaGreatDoorJpZ
import Derived.Test.YtcnfhndejkngkaaGreatDoorJpAc
import Derived.Test.YtcnfhndejkngkaaGreatDoorJpK
import Derived.Test.YtcnfhndejkngkaaGreatDoorJpP
import Derived.BigQuiet
import Derived.Deep.LoopGhost
set_option linter.unusedSimpArgs false
set_option linter.unusedVariables false
set_option maxRecDepth 100000
namespace Go.Proofs.YtcnfhndejkngkaaGreatDoor
open Go.RowKit
set_option maxHeartbeats 8000000 in
theorem frac_rows_Wc (x y n : Int) (w : World) (hcase : ffF x y = 0 ∧ y ≤ n ∧ n ≤ 1000000 ∧ x ≤ 1000000 ∧ -1000000 ≤ x)
    (hBg : ∀ W, Below w.heap.size w W → Calls Tryz.prog 11 #[] W fun e w' => e = .returned (.bool true) ∧ Below W.heap.size W w') :
    Calls Tryz.prog 3 #[.agg #[.int .i64 x, .int .i64 y], .int .i64 n] w fun e w' => e = .returned (.bool true) ∧ Below w.heap.size w w' := by
  obtain ⟨c0, hc0⟩ : ∃ c, c = ffF x y := ⟨_, rfl⟩
  obtain ⟨f1, hf1⟩ : ∃ c, c = (nxf x y n).1 := ⟨_, rfl⟩
  obtain ⟨f2, hf2⟩ : ∃ c, c = (nxf x y n).2 := ⟨_, rfl⟩
  have HFf : Hid (∀ W, Calls Tryz.prog 9 #[.agg #[.int .i64 x, .int .i64 y]] W fun e w' => e = .returned (.agg #[.int .i64 c0, .int .i64 0]) ∧ Below W.heap.size W w') := fun W => by
    rw [hc0]; exact FracFault_any x y W
  have HNx : Hid (∀ W, Calls Tryz.prog 8 #[.agg #[.int .i64 x, .int .i64 y], .int .i64 n] W fun e w' => ∃ c d : Int, e = .returned (.tuple #[.agg #[.int .i64 c, .int .i64 d], .agg #[.int .i64 f1, .int .i64 f2]]) ∧ ((((c0 = 3 ∨ c0 = 6) ∧ f1 = c0 ∧ f2 = 0 ∧ c = 0 ∧ d = 0) ∨ (c0 = 0 ∧ n < y ∧ f1 = 3 ∧ f2 = 1 ∧ c = 0 ∧ d = 0) ∨ (c0 = 0 ∧ y ≤ n ∧ 1000000 < n ∧ f1 = 3 ∧ f2 = 1 ∧ c = 0 ∧ d = 0) ∨ (c0 = 0 ∧ y ≤ n ∧ n ≤ 1000000 ∧ (1000000 < x ∨ x < -1000000) ∧ f1 = 9 ∧ f2 = 0 ∧ c = 0 ∧ d = 0) ∨ (c0 = 0 ∧ y ≤ n ∧ n ≤ 1000000 ∧ x ≤ 1000000 ∧ -1000000 ≤ x ∧ f1 = 0 ∧ f2 = 0 ∧ 1 ≤ y ∧ c * y - x * d = 1 ∧ 1 ≤ d ∧ d ≤ n ∧ n < d + y))) ∧ Below W.heap.size W w') := fun W => by
    rw [hf1, hf2, hc0]
    refine (Next_any x y n W).mono ?_
    rintro e w' ⟨c, d, rfl, ho, k⟩
    refine ⟨c, d, rfl, ?_, k⟩
    have hy : ffF x y = 0 → 1 ≤ y := fun h => (ffF_ok h).2.2.1
    unfold NxOut at ho
    rcases nxf_cases x y n with ⟨h0, h⟩ | ⟨h0, h1, h⟩ | ⟨h0, h1, h2, h⟩ | ⟨h0, h1, h2, h3, h⟩ | ⟨h0, h1, h2, h3, h4, h⟩
    · rw [h] at ho ⊢
      refine .inl ⟨h0, rfl, rfl, ?_⟩
      rcases ho with ho | ho
      · exact ⟨ho.2.1, ho.2.2⟩
      · exfalso; have := ho.1; simp only at this; omega
    · rw [h] at ho ⊢
      refine .inr (.inl ⟨h0, h1, rfl, rfl, ?_⟩)
      rcases ho with ho | ho
      · exact ⟨ho.2.1, ho.2.2⟩
      · exfalso; have := ho.1; simp only at this; omega
    · rw [h] at ho ⊢
      refine .inr (.inr (.inl ⟨h0, h1, h2, rfl, rfl, ?_⟩))
      rcases ho with ho | ho
      · exact ⟨ho.2.1, ho.2.2⟩
      · exfalso; have := ho.1; simp only at this; omega
    · rw [h] at ho ⊢
      refine .inr (.inr (.inr (.inl ⟨h0, h1, h2, h3, rfl, rfl, ?_⟩)))
      rcases ho with ho | ho
      · exact ⟨ho.2.1, ho.2.2⟩
      · exfalso; have := ho.1; simp only at this; omega
    · rw [h] at ho ⊢
      refine .inr (.inr (.inr (.inr ⟨h0, h1, h2, h3, h4, rfl, rfl, hy h0, ?_⟩)))
      rcases ho with ho | ho
      · exfalso; exact ho.1 rfl
      · exact ho.2
  have HBg : Hid _ := hBg
  have HCs : Hid (c0 = 0 ∧ y ≤ n ∧ n ≤ 1000000 ∧ x ≤ 1000000 ∧ -1000000 ≤ x) := by rw [hc0]; exact hcase
  clear hcase
  clear hBg hc0 hf1 hf2
  obtain ⟨b1, hb1⟩ : ∃ b, b = w.heap.size := ⟨_, rfl⟩
  obtain ⟨W0, hW0⟩ : ∃ W, W = w.alloc (.cells #[.int .i64 x, .int .i64 y] 23) := ⟨_, rfl⟩
  have K0 : Hid (Sv b1 x y W0 ∧ Below w.heap.size w W0) := by
    show _ ∧ _
    rw [hW0, hb1]
    exact ⟨Sv.newT x y w _, (Below.refl _ _).alloc (Nat.le_refl _) _⟩
  have q0 := K0.out.1.c0
  have q1 := K0.out.1.c1
  have q2 := K0.out.1.lt
  go_enter Tryz.func3, Tryz.ntmps3
  go_wp2_with fail
  rw [← hW0]
  simp only [← hb1]
  clear hW0 hb1
  refine (HNx.out _).mono ?_
  rintro e w1 ⟨c, d, rfl, hcd, k1⟩
  have K1 : Hid (Sv b1 x y w1 ∧ Below w.heap.size w w1) := ⟨K0.out.1.below k1, K0.out.2.trans (k1.mono K0.out.2.size)⟩
  have q0 := K1.out.1.c0
  have q1 := K1.out.1.c1
  have q2 := K1.out.1.lt
  clear k1 K0
  go_wp2_with fail
  obtain ⟨b5, hb5⟩ : ∃ b, b = w1.heap.size := ⟨_, rfl⟩
  obtain ⟨b6, hb6⟩ : ∃ b, b = w1.heap.size + 1 := ⟨_, rfl⟩
  obtain ⟨W2, hW2⟩ : ∃ W, W = (w1.alloc (.cells #[.int .i64 c, .int .i64 d] 23)).alloc (.cells #[.int .i64 f1, .int .i64 f2] 25) := ⟨_, rfl⟩
  have K2 : Hid (Sv b1 x y W2 ∧ Sv b5 c d W2 ∧ Sv b6 f1 f2 W2 ∧ Below w.heap.size w W2) := by
    show _ ∧ _
    rw [hW2, hb5, hb6]
    have e := Sv.newT f1 f2 (w1.alloc (.cells #[.int .i64 c, .int .i64 d] 23)) 25
    rw [World.size_alloc] at e
    have k2 := K1.out.2.alloc K1.out.2.size (.cells #[.int .i64 c, .int .i64 d] 23)
    exact ⟨(K1.out.1.alloc _ _).alloc _ _, (Sv.newT c d w1 _).alloc _ _, e, k2.alloc k2.size _⟩
  have HB : Hid (b1 < b5 ∧ b6 = b5 + 1 ∧ w.heap.size ≤ b5) := ⟨by rw [hb5]; exact K1.out.1.lt, by rw [hb5, hb6], by rw [hb5]; exact K1.out.2.size⟩
  rw [← hW2]
  simp only [← hb6]
  simp only [← hb5]
  clear hW2 hb5 hb6 q0 q1 q2 K1 HNx
  refine (HFf.out _).mono ?_
  rintro e w3 ⟨rfl, k3⟩
  obtain ⟨b7, hb7⟩ : ∃ b, b = w3.heap.size := ⟨_, rfl⟩
  obtain ⟨W4, hW4⟩ : ∃ W, W = w3.alloc (.cells #[.int .i64 c0, .int .i64 0] 25) := ⟨_, rfl⟩
  have K3 : Hid (Sv b1 x y w3 ∧ Sv b5 c d w3 ∧ Sv b6 f1 f2 w3 ∧ Below w.heap.size w w3) := ⟨K2.out.1.below k3, K2.out.2.1.below k3, K2.out.2.2.1.below k3, K2.out.2.2.2.trans (k3.mono K2.out.2.2.2.size)⟩
  have HK : Hid (Sv b1 x y W4 ∧ Sv b5 c d W4 ∧ Sv b6 f1 f2 W4 ∧ Sv b7 c0 0 W4 ∧ Below w.heap.size w W4) := by
    show _ ∧ _
    rw [hW4, hb7]
    exact ⟨K3.out.1.alloc _ _, K3.out.2.1.alloc _ _, K3.out.2.2.1.alloc _ _, Sv.newT c0 0 w3 _, K3.out.2.2.2.alloc K3.out.2.2.2.size _⟩
  have HN : Hid (b7 ≠ b1 ∧ b7 ≠ b5 ∧ b7 ≠ b6 ∧ w.heap.size ≤ b6 ∧ w.heap.size ≤ b7) := by
    have := K3.out.1.lt
    have := K3.out.2.1.lt
    have := K3.out.2.2.1.lt
    have := K3.out.2.2.2.size
    have := HB.out
    exact ⟨by omega, by omega, by omega, by omega, by omega⟩
  have p0 := K3.out.1.c0
  have p1 := K3.out.1.c1
  have p2 := K3.out.1.lt
  have p3 := K3.out.2.1.c0
  have p4 := K3.out.2.1.c1
  have p5 := K3.out.2.2.1.c0
  have p6 := K3.out.2.2.1.c1
  clear k3 K2 K3 HFf
  rcases hcd with hh | hh | hh | hh | ⟨rfl, h1, h2, h3, h4, rfl, rfl, hy, h5, h6, h7, h8⟩
  · exfalso; have := HCs.out; omega
  · exfalso; have := HCs.out; omega
  · exfalso; have := HCs.out; omega
  · exfalso; have := HCs.out; omega
  · have d1 : decide (n < y) = false := decide_eq_false (by omega)
    have d2 : decide (1000000 < n) = false := decide_eq_false (by omega)
    have d3 : decide (1000000 < x) = false := decide_eq_false (by omega)
    have d4 : decide (x < -1000000) = false := decide_eq_false (by omega)
    have hB : (x * d).natAbs ≤ 1000000000000 := by
      rw [Int.natAbs_mul]; exact Nat.mul_le_mul (show x.natAbs ≤ 1000000 by omega) (show d.natAbs ≤ 1000000 by omega)
    have hA : (c * y).natAbs ≤ 1000000000001 := by omega
    have hc : c.natAbs ≤ 1000000000001 := by
      rw [Int.natAbs_mul] at hA
      exact Nat.le_trans (Nat.le_mul_of_pos_right _ (by omega)) hA
    have e1 : decide (d < 1) = false := decide_eq_false (by omega)
    have e2 : decide (n < d) = false := decide_eq_false (by omega)
    have e3 : decide (2000000000000 < c) = false := decide_eq_false (by omega)
    have e4 : decide (c < -2000000000000) = false := decide_eq_false (by omega)
    have e5 : decide (d + y ≤ n) = false := decide_eq_false (by omega)
    have v1 : IntKind.i64.wrap (c * y) = c * y := by rw [IntKind.wrap_i64]; omega
    have v2 : IntKind.i64.wrap (x * d) = x * d := by rw [IntKind.wrap_i64]; omega
    have v3 : IntKind.i64.wrap (d + y) = d + y := by rw [IntKind.wrap_i64]; omega
    by_cases h300 : n ≤ 300
    · have d30 : decide (n ≤ 300) = true := decide_eq_true h300
      have HNO : Hid (∀ W, Calls Tryz.prog 12 #[.agg #[.int .i64 x, .int .i64 y], .int .i64 n] W fun e w' => e = .returned (.agg #[.int .i64 c, .int .i64 d]) ∧ Below W.heap.size W w') := fun W => by
        have h := NextOf_any x y c d n.toNat W (by omega) hy (by omega) (by omega) h5 h6 (by omega) (by omega) (by omega)
        rw [show ((n.toNat : Nat) : Int) = n by omega] at h
        exact h
      have HD5 : Hid (c * y - x * d = 1) := h5
      clear hA hB hc
      go_wp2_with fail
      rw [← hW4]
      simp only [← hb7]
      clear hW4 hb7 p0 p1 p2 p3 p4 p5 p6
      refine (HBg.out _ HK.out.2.2.2.2).mono ?_
      rintro e w7 ⟨rfl, k7⟩
      have HJ7 : Hid (Sv b1 x y w7 ∧ Sv b5 c d w7 ∧ Sv b6 0 0 w7 ∧ Sv b7 0 0 w7 ∧ Below w.heap.size w w7) := ⟨HK.out.1.below k7, HK.out.2.1.below k7, HK.out.2.2.1.below k7, HK.out.2.2.2.1.below k7, HK.out.2.2.2.2.trans (k7.mono HK.out.2.2.2.2.size)⟩
      have HK7 : Hid (Sv b6 0 0 w7 ∧ Below w.heap.size w w7) := ⟨HJ7.out.2.2.1, HJ7.out.2.2.2.2⟩
      have t0 := HJ7.out.1.c0
      have t1 := HJ7.out.1.c1
      have t2 := HJ7.out.2.1.c0
      have t3 := HJ7.out.2.1.c1
      have t4 := HJ7.out.2.2.1.c0
      have t5 := HJ7.out.2.2.1.c1
      have t6 := HJ7.out.2.2.2.1.c0
      have t7 := HJ7.out.2.2.2.1.c1
      clear k7 HK
      have HR5 : Hid (∀ W, Below w7.heap.size w7 W → (W.cell? ⟨b1, 0, none⟩ = some (.int .i64 x) ∧ W.cell? ⟨b1, 1, none⟩ = some (.int .i64 y)) ∧ W.cell? ⟨b5, 0, none⟩ = some (.int .i64 c) ∧ W.cell? ⟨b5, 1, none⟩ = some (.int .i64 d)) := fun W kk => ⟨⟨(HJ7.out.1.below kk).c0, (HJ7.out.1.below kk).c1⟩, (HJ7.out.2.1.below kk).c0, (HJ7.out.2.1.below kk).c1⟩
      go_wp2_with fail
      clear t0 t1 t2 t3 t4 t5 t6 t7 HJ7
      refine wp_region_G (fun W => (W.cell? ⟨b1, 0, none⟩ = some (.int .i64 x) ∧ W.cell? ⟨b1, 1, none⟩ = some (.int .i64 y)) ∧ W.cell? ⟨b5, 0, none⟩ = some (.int .i64 c) ∧ W.cell? ⟨b5, 1, none⟩ = some (.int .i64 d)) 8 (by kernel_rfl) (HR5.out _ (Below.refl _ _).drew) (fun hHeld => ?_)
      refine wpAnyG_take (i := 0) (v := ?v0x1) rfl (by kernel_rfl) (fun _ _ _ h => h) (Or.inl ⟨by rfl, ?y0x1⟩) hHeld ?r0x1
      case y0x1 => (intro wS hSw; obtain ⟨⟨s1, s2⟩, s3, s4⟩ := hSw; go_simp; try with_reducible rfl)
      try simp only [Act.put, List.setIfInBounds_toArray, List.set_cons_zero, List.set_cons_succ]
      refine wpAnyG_take (i := 1) (v := .bool true) rfl (by kernel_rfl) (fun _ _ _ h => h) (Or.inl ⟨by kernel_rfl, ?y1x2⟩) hHeld ?r1x2
      case y1x2 => (intro wS hSw; (go_simp))
      try simp only [Act.put, List.setIfInBounds_toArray, List.set_cons_zero, List.set_cons_succ]
      refine wpAnyG_take (i := 2) (v := .bool true) rfl (by kernel_rfl) (fun _ _ _ h => h) (Or.inl ⟨by kernel_rfl, ?y2x3⟩) hHeld ?r2x3
      case y2x3 => (intro wS hSw; (go_simp))
      try simp only [Act.put, List.setIfInBounds_toArray, List.set_cons_zero, List.set_cons_succ]
      refine wpAnyG_take (i := 3) (v := .agg #[.int .i64 c, .int .i64 d]) rfl (by kernel_rfl) (fun _ _ _ h => h) (Or.inl ⟨by kernel_rfl, ?y3x4⟩) hHeld ?r3x4
      case y3x4 => (intro wS hSw; (obtain ⟨⟨s1, s2⟩, s3, s4⟩ := hSw; go_simp))
      try simp only [Act.put, List.setIfInBounds_toArray, List.set_cons_zero, List.set_cons_succ]
      refine wpAnyG_take (i := 4) (v := .agg #[.int .i64 x, .int .i64 y]) rfl (by kernel_rfl) (fun _ _ _ h => h) (Or.inl ⟨by kernel_rfl, ?y4x5⟩) hHeld ?r4x5
      case y4x5 => (intro wS hSw; (obtain ⟨⟨s1, s2⟩, s3, s4⟩ := hSw; go_simp))
      try simp only [Act.put, List.setIfInBounds_toArray, List.set_cons_zero, List.set_cons_succ]
      refine wpAnyG_take (i := 5) (v := ?v5x6) rfl (by kernel_rfl) (fun _ _ _ h => h) (Or.inl ⟨by kernel_rfl, ?y5x6⟩) hHeld ?r5x6
      case y5x6 => (intro wS hSw; have s1 := hSw; go_simp; try with_reducible rfl)
      try simp only [Act.put, List.setIfInBounds_toArray, List.set_cons_zero, List.set_cons_succ]
      refine wpAnyG_one (i := 6) rfl (by kernel_rfl) (fun K hK => ?_)
      rw [if_pos (by kernel_rfl)]
      go_simp
      refine (HNO.out _).mono ?_
      rintro e w15 ⟨rfl, k15⟩
      have HK15 : Hid (Below w7.heap.size w7 w15) := (Below.refl _ _).drew.trans k15
      clear k15
      refine hK.out _ _ (HR5.out _ HK15.out) ?_
      clear hK K hHeld
      have hHeld := HR5.out _ HK15.out
      refine wpAnyG_take (i := 7) (v := .bool false) rfl (by kernel_rfl) (fun _ _ _ h => h) (Or.inl ⟨by kernel_rfl, ?y7x7⟩) hHeld ?r7x7
      case y7x7 => (intro wS hSw; (go_simp))
      try simp only [Act.put, List.setIfInBounds_toArray, List.set_cons_zero, List.set_cons_succ]
      refine wpAnyG_last (i := 8) rfl (by kernel_rfl) (by kernel_rfl) (fun K hK => ?_)
      go_simp
      refine hK.out _ _ ?_
      clear hK K
      refine wpAnyG_done (by kernel_rfl) ?_ _
      clear hHeld
      have HK16 : Hid (Sv b6 0 0 w15 ∧ Below w.heap.size w w15) := ⟨HK7.out.1.below HK15.out, HK7.out.2.trans (HK15.out.mono HK7.out.2.size)⟩
      clear HK7 HR5 HK15 HNO
      have HK7 := HK16
      clear HK16
      clear d30
      go_wp2_with fail
      by_cases hbad : n < 1 ∨ 50 < n
      · skip
        have hz6 := HN.out.2.2.2.1
        refine (Row_bad n _ hbad).mono ?_
        rintro e w8 ⟨rfl, k8⟩
        have K8 : Hid (Sv b6 0 0 w8 ∧ Below w.heap.size w w8) := ⟨HK7.out.1.below k8, HK7.out.2.trans (k8.mono HK7.out.2.size)⟩
        clear k8 HK7
        have r0 := K8.out.1.c0
        have r1 := K8.out.1.c1
        have r2 := K8.out.1.f0
        have r3 := K8.out.1.f1
        have r4 := K8.out.1.lt
        obtain ⟨w9, hw9⟩ : ∃ W, W = (w8.setCell ⟨b6, 0, none⟩ (.int .i64 3)).setCell ⟨b6, 1, none⟩ (.int .i64 0) := ⟨_, rfl⟩
        have K9 : Hid (Sv b6 3 0 w9 ∧ Below w.heap.size w w9) := by
          show _ ∧ _
          rw [hw9]
          exact ⟨K8.out.1.set _ _, (K8.out.2.setCell hz6 _).setCell hz6 _⟩
        have HR : Hid (∀ W, Below w9.heap.size w9 W → W.cell? ⟨b6, 0, none⟩ = some (.int .i64 3) ∧ W.cell? ⟨b6, 1, none⟩ = some (.int .i64 0)) := fun W kk => ⟨(K9.out.1.below kk).c0, (K9.out.1.below kk).c1⟩
        clear K8
        by_cases hn1 : n < 1
        · have d21 : decide (n < 1) = true := decide_eq_true hn1
          clear hbad hn1
          go_wp2_with fail
          rw [← hw9]
          clear hw9 r0 r1 r2 r3 r4
          refine wp_region_G (fun W => W.cell? ⟨b6, 0, none⟩ = some (.int .i64 3) ∧ W.cell? ⟨b6, 1, none⟩ = some (.int .i64 0)) 8 (by kernel_rfl) (HR.out _ (Below.refl _ _).drew) (fun hHeld => ?_)
          refine wpAnyG_take (i := 0) (v := ?v0x8) rfl (by kernel_rfl) (fun _ _ _ h => h) (Or.inl ⟨by rfl, ?y0x8⟩) hHeld ?r0x8
          case y0x8 => (intro wS hSw; obtain ⟨s1, s2⟩ := hSw; go_simp; try with_reducible rfl)
          try simp only [Act.put, List.setIfInBounds_toArray, List.set_cons_zero, List.set_cons_succ]
          refine wpAnyG_one (i := 1) rfl (by kernel_rfl) (fun K hK => ?_)
          go_simp
          refine (F_any 3 0 _).mono ?_
          rintro e w14 ⟨rfl, k14⟩
          have HK14 : Hid (Below w9.heap.size w9 w14) := (Below.refl _ _).drew.trans k14
          clear k14
          refine hK.out _ _ (HR.out _ HK14.out) ?_
          clear hK K hHeld
          have hHeld := HR.out _ HK14.out
          refine wpAnyG_take (i := 2) (v := .bool true) rfl (by kernel_rfl) (fun _ _ _ h => h) (Or.inl ⟨by kernel_rfl, ?y2x9⟩) hHeld ?r2x9
          case y2x9 => (intro wS hSw; (go_simp))
          try simp only [Act.put, List.setIfInBounds_toArray, List.set_cons_zero, List.set_cons_succ]
          refine wpAnyG_take (i := 3) (v := .bool true) rfl (by kernel_rfl) (fun _ _ _ h => h) (Or.inl ⟨by kernel_rfl, ?y3x10⟩) hHeld ?r3x10
          case y3x10 => (intro wS hSw; (go_simp))
          try simp only [Act.put, List.setIfInBounds_toArray, List.set_cons_zero, List.set_cons_succ]
          refine wpAnyG_take (i := 4) (v := ?v4x11) rfl (by kernel_rfl) (fun _ _ _ h => h) (Or.inl ⟨by kernel_rfl, ?y4x11⟩) hHeld ?r4x11
          case y4x11 => (intro wS hSw; have s1 := hSw; go_simp; try with_reducible rfl)
          try simp only [Act.put, List.setIfInBounds_toArray, List.set_cons_zero, List.set_cons_succ]
          refine wpAnyG_take (i := 5) (v := ?v5x12) rfl (by kernel_rfl) (fun _ _ _ h => h) (Or.inl ⟨by kernel_rfl, ?y5x12⟩) hHeld ?r5x12
          case y5x12 => (intro wS hSw; have s1 := hSw; go_simp; try with_reducible rfl)
          try simp only [Act.put, List.setIfInBounds_toArray, List.set_cons_zero, List.set_cons_succ]
          refine wpAnyG_take (i := 6) (v := ?v6x13) rfl (by kernel_rfl) (fun _ _ _ h => h) (Or.inl ⟨by kernel_rfl, ?y6x13⟩) hHeld ?r6x13
          case y6x13 => (intro wS hSw; have s1 := hSw; go_simp; try with_reducible rfl)
          try simp only [Act.put, List.setIfInBounds_toArray, List.set_cons_zero, List.set_cons_succ]
          refine wpAnyG_take (i := 7) (v := .bool true) rfl (by kernel_rfl) (fun _ _ _ h => h) (Or.inl ⟨by kernel_rfl, ?y7x14⟩) hHeld ?r7x14
          case y7x14 => (intro wS hSw; (go_simp))
          try simp only [Act.put, List.setIfInBounds_toArray, List.set_cons_zero, List.set_cons_succ]
          refine wpAnyG_last (i := 8) rfl (by kernel_rfl) (by kernel_rfl) (fun K hK => ?_)
          go_simp
          refine hK.out _ _ ?_
          clear hK K
          refine wpAnyG_done (by kernel_rfl) ?_ _
          clear hHeld
          go_wp2
          go_ret
          exact ⟨rfl, K9.out.2.trans (HK14.out.mono K9.out.2.size)⟩
        · have d21 : decide (n < 1) = false := decide_eq_false hn1
          have d22 : decide (50 < n) = true := decide_eq_true (by omega)
          clear hbad hn1
          go_wp2_with fail
          rw [← hw9]
          clear hw9 r0 r1 r2 r3 r4
          refine wp_region_G (fun W => W.cell? ⟨b6, 0, none⟩ = some (.int .i64 3) ∧ W.cell? ⟨b6, 1, none⟩ = some (.int .i64 0)) 8 (by kernel_rfl) (HR.out _ (Below.refl _ _).drew) (fun hHeld => ?_)
          refine wpAnyG_take (i := 0) (v := ?v0x15) rfl (by kernel_rfl) (fun _ _ _ h => h) (Or.inl ⟨by rfl, ?y0x15⟩) hHeld ?r0x15
          case y0x15 => (intro wS hSw; obtain ⟨s1, s2⟩ := hSw; go_simp; try with_reducible rfl)
          try simp only [Act.put, List.setIfInBounds_toArray, List.set_cons_zero, List.set_cons_succ]
          refine wpAnyG_one (i := 1) rfl (by kernel_rfl) (fun K hK => ?_)
          go_simp
          refine (F_any 3 0 _).mono ?_
          rintro e w14 ⟨rfl, k14⟩
          have HK14 : Hid (Below w9.heap.size w9 w14) := (Below.refl _ _).drew.trans k14
          clear k14
          refine hK.out _ _ (HR.out _ HK14.out) ?_
          clear hK K hHeld
          have hHeld := HR.out _ HK14.out
          refine wpAnyG_take (i := 2) (v := .bool true) rfl (by kernel_rfl) (fun _ _ _ h => h) (Or.inl ⟨by kernel_rfl, ?y2x16⟩) hHeld ?r2x16
          case y2x16 => (intro wS hSw; (go_simp))
          try simp only [Act.put, List.setIfInBounds_toArray, List.set_cons_zero, List.set_cons_succ]
          refine wpAnyG_take (i := 3) (v := .bool true) rfl (by kernel_rfl) (fun _ _ _ h => h) (Or.inl ⟨by kernel_rfl, ?y3x17⟩) hHeld ?r3x17
          case y3x17 => (intro wS hSw; (go_simp))
          try simp only [Act.put, List.setIfInBounds_toArray, List.set_cons_zero, List.set_cons_succ]
          refine wpAnyG_take (i := 4) (v := ?v4x18) rfl (by kernel_rfl) (fun _ _ _ h => h) (Or.inl ⟨by kernel_rfl, ?y4x18⟩) hHeld ?r4x18
          case y4x18 => (intro wS hSw; have s1 := hSw; go_simp; try with_reducible rfl)
          try simp only [Act.put, List.setIfInBounds_toArray, List.set_cons_zero, List.set_cons_succ]
          refine wpAnyG_take (i := 5) (v := ?v5x19) rfl (by kernel_rfl) (fun _ _ _ h => h) (Or.inl ⟨by kernel_rfl, ?y5x19⟩) hHeld ?r5x19
          case y5x19 => (intro wS hSw; have s1 := hSw; go_simp; try with_reducible rfl)
          try simp only [Act.put, List.setIfInBounds_toArray, List.set_cons_zero, List.set_cons_succ]
          refine wpAnyG_take (i := 6) (v := ?v6x20) rfl (by kernel_rfl) (fun _ _ _ h => h) (Or.inl ⟨by kernel_rfl, ?y6x20⟩) hHeld ?r6x20
          case y6x20 => (intro wS hSw; have s1 := hSw; go_simp; try with_reducible rfl)
          try simp only [Act.put, List.setIfInBounds_toArray, List.set_cons_zero, List.set_cons_succ]
          refine wpAnyG_take (i := 7) (v := .bool true) rfl (by kernel_rfl) (fun _ _ _ h => h) (Or.inl ⟨by kernel_rfl, ?y7x21⟩) hHeld ?r7x21
          case y7x21 => (intro wS hSw; (go_simp))
          try simp only [Act.put, List.setIfInBounds_toArray, List.set_cons_zero, List.set_cons_succ]
          refine wpAnyG_last (i := 8) rfl (by kernel_rfl) (by kernel_rfl) (fun K hK => ?_)
          go_simp
          refine hK.out _ _ ?_
          clear hK K
          refine wpAnyG_done (by kernel_rfl) ?_ _
          clear hHeld
          go_wp2
          go_ret
          exact ⟨rfl, K9.out.2.trans (HK14.out.mono K9.out.2.size)⟩
      · skip
        have hz6 := HN.out.2.2.2.1
        obtain ⟨N, hN⟩ : ∃ N : Nat, n = (N : Int) := ⟨n.toNat, by omega⟩
        have HNn : Hid (n = (N : Int) ∧ 1 ≤ N ∧ N ≤ 50) := ⟨hN, by omega, by omega⟩
        obtain ⟨L, hL⟩ : ∃ L, L = FR.row N := ⟨_, rfl⟩
        have HL : Hid (FR.RowIs N L) := by rw [hL]; exact FR.row_is N HNn.out.2.1 HNn.out.2.2
        have HRow : Hid (∀ W, Calls Tryz.prog 13 #[.int .i64 n] W fun e w' => ∃ (M g cc : Nat), e = .returned (.tuple #[.slice (some ⟨g, 0, none⟩) M cc, .agg #[.int .i64 0, .int .i64 0]]) ∧ Fw L M g w' ∧ Below W.heap.size W w') := fun W => by rw [hN, hL]; exact Row_ok N W HNn.out.2.1 HNn.out.2.2
        clear hL hN
        refine (HRow.out _).mono ?_
        rintro e w8 ⟨M, g, cc, rfl, hfw, k8⟩
        have K8 : Hid (Sv b6 0 0 w8 ∧ Below w.heap.size w w8) := ⟨HK7.out.1.below k8, HK7.out.2.trans (k8.mono HK7.out.2.size)⟩
        have hM : M = L.length := hfw.len
        have hM2 : 2 ≤ M := by rw [hM]; exact HL.out.two
        have hM9 : M ≤ 10000 := by rw [hM, HL.out.len]; exact FR.many_le N HNn.out.2.2
        have hgb : b6 ≠ g := by
          intro e
          have c0 := hfw.c0 0 (by omega)
          have c1 := hfw.c1 0 (by omega)
          rw [HL.out.first, ← e] at c0 c1
          have e0 := c0.symm.trans K8.out.1.c0
          have e1 := c1.symm.trans K8.out.1.c1
          simp at e0 e1
          try omega
        clear k8 HK7 HRow
        have r0 := K8.out.1.c0
        have r1 := K8.out.1.c1
        have r2 := K8.out.1.f0
        have r3 := K8.out.1.f1
        have r4 := K8.out.1.lt
        obtain ⟨w9, hw9⟩ : ∃ W, W = (w8.setCell ⟨b6, 0, none⟩ (.int .i64 0)).setCell ⟨b6, 1, none⟩ (.int .i64 0) := ⟨_, rfl⟩
        have K9 : Hid (Sv b6 0 0 w9 ∧ Below w.heap.size w w9 ∧ Fw L M g w9) := by
          show _ ∧ _
          rw [hw9]
          exact ⟨K8.out.1.set _ _, (K8.out.2.setCell hz6 _).setCell hz6 _, hfw.other _ _ hgb⟩
        have HMl : Hid (M = L.length) := hM
        have d21 : decide (n < 1) = false := decide_eq_false (by omega)
        have d22 : decide (50 < n) = false := decide_eq_false (by omega)
        clear K8 hfw hgb hM
        go_wp2_with fail
        rw [← hw9]
        clear hw9 r0 r1 r2 r3 r4
        go_loopg [9, 10] N (fun gk mv iv wx => ∃ k k1 : Nat, mv = .int .i64 ((FR.many k : Nat) : Int) ∧ iv = .int .i64 (k1 : Int) ∧ Hid (gk = N - k ∧ k ≤ N ∧ k1 = k + 1 ∧ wx = w9))
        case atStart => exact ⟨0, 1, rfl, rfl, rfl, by omega, rfl, rfl⟩
        case round =>
          obtain ⟨k, k1, rfl, rfl, HR⟩ := hrel
          obtain ⟨h11, h12, h13, h14⟩ := HR.out
          have HG : Hid (gk = N - k ∧ k1 = k + 1) := ⟨h11, h13⟩
          clear HR
          have h14' := h14.symm
          subst h14'
          clear h14
          by_cases hk : k < N
          · have HKN : Hid (k < N) := hk
            have ti : decide ((k1 : Int) ≤ n) = true := decide_eq_true (by have := HNn.out; omega)
            have hk60 : k1 ≤ 60 := by have := HNn.out; omega
            obtain ⟨p, hp⟩ : ∃ p, p = phc k1 k1 := ⟨_, rfl⟩
            obtain ⟨m0, hm0⟩ : ∃ m, m = FR.many k := ⟨_, rfl⟩
            obtain ⟨m1, hm1⟩ : ∃ m, m = FR.many (k + 1) := ⟨_, rfl⟩
            have hmm : m0 + p = m1 := by rw [hm0, hm1, hp, h13]; rfl
            have hml : m1 ≤ 10000 := by rw [hm1]; exact FR.many_le (k + 1) (by have := HNn.out; omega)
            have HM1 : Hid (m1 = FR.many (k + 1)) := hm1
            have HPh : Hid (∀ W, Calls Tryz.prog 14 #[.int .i64 (k1 : Int)] W fun e w' => e = .returned (.int .i64 (p : Int)) ∧ w' = W) := fun W => by rw [hp]; exact PhiOf_any k1 W (by omega)
            rw [← hm0]
            have e1 : (m0 : Int) + (p : Int) = (m1 : Int) := by omega
            have e2 : IntKind.i64.wrap (m1 : Int) = (m1 : Int) := by rw [IntKind.wrap_i64]; omega
            clear hp hm0 hm1 hmm h11 h12 h13 hk
            go_wp2_with fail
            refine (HPh.out _).mono ?_
            rintro e w10 ⟨rfl, hw10⟩
            have hw11 := hw10.symm
            subst hw11
            clear hw10
            go_wp2
            go_roundg (N - (k + 1))
            case rel => exact ⟨k + 1, k1 + 1, by rw [← HM1.out], by go_num, rfl, by have := HKN.out; omega, by have := HG.out; omega, rfl⟩
            case measure => have := HG.out; have := HKN.out; omega
          · have ti : decide ((k1 : Int) ≤ n) = false := decide_eq_false (by have := HNn.out; omega)
            have eM : FR.many k = M := by rw [HMl.out, HL.out.len, show k = N by omega]
            rw [eM]
            obtain ⟨M1, hM1⟩ : ∃ m, m = M - 1 := ⟨_, rfl⟩
            have em : (M : Int) - 1 = (M1 : Int) := by omega
            have hM1M : M1 < M := by omega
            have hM0 : 0 < M := by omega
            have x0 : w9.cell? ⟨g, 0, none⟩ = some (.int .i64 0) := by
              have := K9.out.2.2.c0 0 hM0
              rw [HL.out.first] at this
              exact this
            have x1 : w9.cell? ⟨g, 1, none⟩ = some (.int .i64 1) := by
              have := K9.out.2.2.c1 0 hM0
              rw [HL.out.first] at this
              exact this
            have x2 : w9.cell? ⟨g, M1 * 2, none⟩ = some (.int .i64 1) := by
              have := K9.out.2.2.c0 M1 hM1M
              rw [show M1 = L.length - 1 by rw [hM1, HMl.out], HL.out.last] at this
              rw [show M1 = L.length - 1 by rw [hM1, HMl.out]]
              exact this
            have x3 : w9.cell? ⟨g, M1 * 2 + 1, none⟩ = some (.int .i64 1) := by
              have := K9.out.2.2.c1 M1 hM1M
              rw [show M1 = L.length - 1 by rw [hM1, HMl.out], HL.out.last] at this
              rw [show M1 = L.length - 1 by rw [hM1, HMl.out]]
              exact this
            have y0 := K9.out.1.c0
            have y1 := K9.out.1.c1
            clear eM h11 h12 h13 hk hM1
            go_wp2
            go_loopg [11] M (fun gk iv wx => ∃ i : Nat, iv = .int .i64 (i : Int) ∧ Hid (gk = M - i ∧ i ≤ M ∧ Below w9.heap.size w9 wx))
            case atStart => exact ⟨0, rfl, rfl, by omega, Below.refl _ _⟩
            case round =>
              clear x0 x1 x2 x3 y0 y1
              obtain ⟨i, rfl, HQ⟩ := hrel
              obtain ⟨h21, h22, h23⟩ := HQ.out
              have HG : Hid (gk = M - i) := h21
              have HX : Hid (Below w9.heap.size w9 wr) := h23
              clear HQ h21 h23
              by_cases hi : i < M
              · have ti : decide ((i : Int) < (M : Int)) = true := decide_eq_true (by omega)
                have hF := K9.out.2.2.below HX.out
                have ha := HL.out.all i (by rw [← HMl.out]; exact hi)
                obtain ⟨u, hu⟩ : ∃ u, u = (L.getD i (0, 0)).1 := ⟨_, rfl⟩
                obtain ⟨v, hv⟩ : ∃ v, v = (L.getD i (0, 0)).2 := ⟨_, rfl⟩
                have q0 : wr.cell? ⟨g, i * 2, none⟩ = some (.int .i64 (u : Int)) := by rw [hu]; exact hF.c0 i hi
                have q1 : wr.cell? ⟨g, i * 2 + 1, none⟩ = some (.int .i64 (v : Int)) := by rw [hv]; exact hF.c1 i hi
                rw [← hu, ← hv] at ha
                have hn50 := HNn.out
                have s1 : decide ((v : Int) < 1) = false := decide_eq_false (by omega)
                have s2 : decide (n < (v : Int)) = false := decide_eq_false (by omega)
                have s3 : decide (n < (u : Int)) = false := decide_eq_false (by omega)
                have s4 : decide ((u : Int) < 0) = false := decide_eq_false (by omega)
                by_cases h0 : i = 0
                · have t0 : decide (0 < (i : Int)) = false := decide_eq_false (by omega)
                  have t0n : decide (0 < i) = false := decide_eq_false (by omega)
                  clear h0 ha hn50 hF hu hv
                  go_wp2_with fail
                  go_quiet (fail)
                  go_wp2
                  go_roundg (M - (i + 1))
                  case rel => exact ⟨i + 1, by go_num, rfl, by omega, below_drewN' HX.out⟩
                  case measure => have := HG.out; omega
                · obtain ⟨p, hp⟩ : ∃ p, i = p + 1 := ⟨i - 1, by omega⟩
                  have t0 : decide (0 < (i : Int)) = true := decide_eq_true (by omega)
                  have t0n : decide (0 < i) = true := decide_eq_true (by omega)
                  have hpM : p < M := by omega
                  have hip : (i : Int) - 1 = (p : Int) := by omega
                  have hb := HL.out.all p (by rw [← HMl.out]; exact hpM)
                  have hnb := HL.out.nb p (by rw [← HMl.out, ← hp]; exact hi)
                  obtain ⟨u0, hu0⟩ : ∃ u, u = (L.getD p (0, 0)).1 := ⟨_, rfl⟩
                  obtain ⟨v0, hv0⟩ : ∃ v, v = (L.getD p (0, 0)).2 := ⟨_, rfl⟩
                  have q2 : wr.cell? ⟨g, p * 2, none⟩ = some (.int .i64 (u0 : Int)) := by rw [hu0]; exact hF.c0 p hpM
                  have q3 : wr.cell? ⟨g, p * 2 + 1, none⟩ = some (.int .i64 (v0 : Int)) := by rw [hv0]; exact hF.c1 p hpM
                  rw [← hp, ← hu, ← hv, ← hu0, ← hv0] at hnb
                  rw [← hu0, ← hv0] at hb
                  obtain ⟨A, hA⟩ : ∃ A : Nat, A = u * v0 := ⟨_, rfl⟩
                  obtain ⟨B, hB⟩ : ∃ B : Nat, B = u0 * v := ⟨_, rfl⟩
                  have eA : (u : Int) * (v0 : Int) = (A : Int) := by rw [hA, Int.natCast_mul]
                  have eB : (u0 : Int) * (v : Int) = (B : Int) := by rw [hB, Int.natCast_mul]
                  have hA9 : A ≤ 2500 := by rw [hA]; exact Nat.mul_le_mul (show u ≤ 50 by omega) (show v0 ≤ 50 by omega)
                  rw [← hA, ← hB] at hnb
                  have wA : IntKind.i64.wrap (A : Int) = (A : Int) := by rw [IntKind.wrap_i64]; omega
                  have wB : IntKind.i64.wrap (B : Int) = (B : Int) := by rw [IntKind.wrap_i64]; omega
                  have eD : (A : Int) - (B : Int) = 1 := by omega
                  have hwp : IntKind.i64.wrap (p : Int) = (p : Int) := by rw [IntKind.wrap_i64]; omega
                  clear h0 ha hb hn50 hF hu hv hu0 hv0 hA hB hnb hp hA9
                  go_wp2_with fail
                  go_quiet (fail)
                  go_wp2
                  go_roundg (M - (i + 1))
                  case rel => exact ⟨i + 1, by go_num, rfl, by omega, below_drewN' HX.out⟩
                  case measure => have := HG.out; omega
              · have ti : decide ((i : Int) < (M : Int)) = false := decide_eq_false (by omega)
                have HX2 : Hid (Below w.heap.size w wr) := K9.out.2.1.trans (HX.out.mono K9.out.2.1.size)
                go_wp2
                go_ret
                exact ⟨rfl, HX2.out⟩
    · have d30 : decide (n ≤ 300) = false := decide_eq_false h300
      clear hA hB hc
      go_wp2_with fail
      rw [← hW4]
      simp only [← hb7]
      clear hW4 hb7 p0 p1 p2 p3 p4 p5 p6
      refine (HBg.out _ HK.out.2.2.2.2).mono ?_
      rintro e w7 ⟨rfl, k7⟩
      have HJ7 : Hid (Sv b1 x y w7 ∧ Sv b5 c d w7 ∧ Sv b6 0 0 w7 ∧ Sv b7 0 0 w7 ∧ Below w.heap.size w w7) := ⟨HK.out.1.below k7, HK.out.2.1.below k7, HK.out.2.2.1.below k7, HK.out.2.2.2.1.below k7, HK.out.2.2.2.2.trans (k7.mono HK.out.2.2.2.2.size)⟩
      have HK7 : Hid (Sv b6 0 0 w7 ∧ Below w.heap.size w w7) := ⟨HJ7.out.2.2.1, HJ7.out.2.2.2.2⟩
      have t0 := HJ7.out.1.c0
      have t1 := HJ7.out.1.c1
      have t2 := HJ7.out.2.1.c0
      have t3 := HJ7.out.2.1.c1
      have t4 := HJ7.out.2.2.1.c0
      have t5 := HJ7.out.2.2.1.c1
      have t6 := HJ7.out.2.2.2.1.c0
      have t7 := HJ7.out.2.2.2.1.c1
      clear k7 HK
      have hbad : n < 1 ∨ 50 < n := by omega
      go_wp2_with fail
      go_quiet (fail)
      go_wp2_with fail
      have HK17 : Hid (Sv b6 0 0 (w7.drewN nq) ∧ Below w.heap.size w (w7.drewN nq)) := ⟨HK7.out.1.drewN, below_drewN' HK7.out.2⟩
      clear t0 t1 t2 t3 t4 t5 t6 t7 HJ7 HK7
      have HK7 := HK17
      clear HK17
      have hz6 := HN.out.2.2.2.1
      refine (Row_bad n _ hbad).mono ?_
      rintro e w8 ⟨rfl, k8⟩
      have K8 : Hid (Sv b6 0 0 w8 ∧ Below w.heap.size w w8) := ⟨HK7.out.1.below k8, HK7.out.2.trans (k8.mono HK7.out.2.size)⟩
      clear k8 HK7
      have r0 := K8.out.1.c0
      have r1 := K8.out.1.c1
      have r2 := K8.out.1.f0
      have r3 := K8.out.1.f1
      have r4 := K8.out.1.lt
      obtain ⟨w9, hw9⟩ : ∃ W, W = (w8.setCell ⟨b6, 0, none⟩ (.int .i64 3)).setCell ⟨b6, 1, none⟩ (.int .i64 0) := ⟨_, rfl⟩
      have K9 : Hid (Sv b6 3 0 w9 ∧ Below w.heap.size w w9) := by
        show _ ∧ _
        rw [hw9]
        exact ⟨K8.out.1.set _ _, (K8.out.2.setCell hz6 _).setCell hz6 _⟩
      have HR : Hid (∀ W, Below w9.heap.size w9 W → W.cell? ⟨b6, 0, none⟩ = some (.int .i64 3) ∧ W.cell? ⟨b6, 1, none⟩ = some (.int .i64 0)) := fun W kk => ⟨(K9.out.1.below kk).c0, (K9.out.1.below kk).c1⟩
      clear K8
      by_cases hn1 : n < 1
      · have d21 : decide (n < 1) = true := decide_eq_true hn1
        clear hbad hn1
        go_wp2_with fail
        rw [← hw9]
        clear hw9 r0 r1 r2 r3 r4
        refine wp_region_G (fun W => W.cell? ⟨b6, 0, none⟩ = some (.int .i64 3) ∧ W.cell? ⟨b6, 1, none⟩ = some (.int .i64 0)) 8 (by kernel_rfl) (HR.out _ (Below.refl _ _).drew) (fun hHeld => ?_)
        refine wpAnyG_take (i := 0) (v := ?v0x22) rfl (by kernel_rfl) (fun _ _ _ h => h) (Or.inl ⟨by rfl, ?y0x22⟩) hHeld ?r0x22
        case y0x22 => (intro wS hSw; obtain ⟨s1, s2⟩ := hSw; go_simp; try with_reducible rfl)
        try simp only [Act.put, List.setIfInBounds_toArray, List.set_cons_zero, List.set_cons_succ]
        refine wpAnyG_one (i := 1) rfl (by kernel_rfl) (fun K hK => ?_)
        go_simp
        refine (F_any 3 0 _).mono ?_
        rintro e w14 ⟨rfl, k14⟩
        have HK14 : Hid (Below w9.heap.size w9 w14) := (Below.refl _ _).drew.trans k14
        clear k14
        refine hK.out _ _ (HR.out _ HK14.out) ?_
        clear hK K hHeld
        have hHeld := HR.out _ HK14.out
        refine wpAnyG_take (i := 2) (v := .bool true) rfl (by kernel_rfl) (fun _ _ _ h => h) (Or.inl ⟨by kernel_rfl, ?y2x23⟩) hHeld ?r2x23
        case y2x23 => (intro wS hSw; (go_simp))
        try simp only [Act.put, List.setIfInBounds_toArray, List.set_cons_zero, List.set_cons_succ]
        refine wpAnyG_take (i := 3) (v := .bool true) rfl (by kernel_rfl) (fun _ _ _ h => h) (Or.inl ⟨by kernel_rfl, ?y3x24⟩) hHeld ?r3x24
        case y3x24 => (intro wS hSw; (go_simp))
        try simp only [Act.put, List.setIfInBounds_toArray, List.set_cons_zero, List.set_cons_succ]
        refine wpAnyG_take (i := 4) (v := ?v4x25) rfl (by kernel_rfl) (fun _ _ _ h => h) (Or.inl ⟨by kernel_rfl, ?y4x25⟩) hHeld ?r4x25
        case y4x25 => (intro wS hSw; have s1 := hSw; go_simp; try with_reducible rfl)
        try simp only [Act.put, List.setIfInBounds_toArray, List.set_cons_zero, List.set_cons_succ]
        refine wpAnyG_take (i := 5) (v := ?v5x26) rfl (by kernel_rfl) (fun _ _ _ h => h) (Or.inl ⟨by kernel_rfl, ?y5x26⟩) hHeld ?r5x26
        case y5x26 => (intro wS hSw; have s1 := hSw; go_simp; try with_reducible rfl)
        try simp only [Act.put, List.setIfInBounds_toArray, List.set_cons_zero, List.set_cons_succ]
        refine wpAnyG_take (i := 6) (v := ?v6x27) rfl (by kernel_rfl) (fun _ _ _ h => h) (Or.inl ⟨by kernel_rfl, ?y6x27⟩) hHeld ?r6x27
        case y6x27 => (intro wS hSw; have s1 := hSw; go_simp; try with_reducible rfl)
        try simp only [Act.put, List.setIfInBounds_toArray, List.set_cons_zero, List.set_cons_succ]
        refine wpAnyG_take (i := 7) (v := .bool true) rfl (by kernel_rfl) (fun _ _ _ h => h) (Or.inl ⟨by kernel_rfl, ?y7x28⟩) hHeld ?r7x28
        case y7x28 => (intro wS hSw; (go_simp))
        try simp only [Act.put, List.setIfInBounds_toArray, List.set_cons_zero, List.set_cons_succ]
        refine wpAnyG_last (i := 8) rfl (by kernel_rfl) (by kernel_rfl) (fun K hK => ?_)
        go_simp
        refine hK.out _ _ ?_
        clear hK K
        refine wpAnyG_done (by kernel_rfl) ?_ _
        clear hHeld
        go_wp2
        go_ret
        exact ⟨rfl, K9.out.2.trans (HK14.out.mono K9.out.2.size)⟩
      · have d21 : decide (n < 1) = false := decide_eq_false hn1
        have d22 : decide (50 < n) = true := decide_eq_true (by omega)
        clear hbad hn1
        go_wp2_with fail
        rw [← hw9]
        clear hw9 r0 r1 r2 r3 r4
        refine wp_region_G (fun W => W.cell? ⟨b6, 0, none⟩ = some (.int .i64 3) ∧ W.cell? ⟨b6, 1, none⟩ = some (.int .i64 0)) 8 (by kernel_rfl) (HR.out _ (Below.refl _ _).drew) (fun hHeld => ?_)
        refine wpAnyG_take (i := 0) (v := ?v0x29) rfl (by kernel_rfl) (fun _ _ _ h => h) (Or.inl ⟨by rfl, ?y0x29⟩) hHeld ?r0x29
        case y0x29 => (intro wS hSw; obtain ⟨s1, s2⟩ := hSw; go_simp; try with_reducible rfl)
        try simp only [Act.put, List.setIfInBounds_toArray, List.set_cons_zero, List.set_cons_succ]
        refine wpAnyG_one (i := 1) rfl (by kernel_rfl) (fun K hK => ?_)
        go_simp
        refine (F_any 3 0 _).mono ?_
        rintro e w14 ⟨rfl, k14⟩
        have HK14 : Hid (Below w9.heap.size w9 w14) := (Below.refl _ _).drew.trans k14
        clear k14
        refine hK.out _ _ (HR.out _ HK14.out) ?_
        clear hK K hHeld
        have hHeld := HR.out _ HK14.out
        refine wpAnyG_take (i := 2) (v := .bool true) rfl (by kernel_rfl) (fun _ _ _ h => h) (Or.inl ⟨by kernel_rfl, ?y2x30⟩) hHeld ?r2x30
        case y2x30 => (intro wS hSw; (go_simp))
        try simp only [Act.put, List.setIfInBounds_toArray, List.set_cons_zero, List.set_cons_succ]
        refine wpAnyG_take (i := 3) (v := .bool true) rfl (by kernel_rfl) (fun _ _ _ h => h) (Or.inl ⟨by kernel_rfl, ?y3x31⟩) hHeld ?r3x31
        case y3x31 => (intro wS hSw; (go_simp))
        try simp only [Act.put, List.setIfInBounds_toArray, List.set_cons_zero, List.set_cons_succ]
        refine wpAnyG_take (i := 4) (v := ?v4x32) rfl (by kernel_rfl) (fun _ _ _ h => h) (Or.inl ⟨by kernel_rfl, ?y4x32⟩) hHeld ?r4x32
        case y4x32 => (intro wS hSw; have s1 := hSw; go_simp; try with_reducible rfl)
        try simp only [Act.put, List.setIfInBounds_toArray, List.set_cons_zero, List.set_cons_succ]
        refine wpAnyG_take (i := 5) (v := ?v5x33) rfl (by kernel_rfl) (fun _ _ _ h => h) (Or.inl ⟨by kernel_rfl, ?y5x33⟩) hHeld ?r5x33
        case y5x33 => (intro wS hSw; have s1 := hSw; go_simp; try with_reducible rfl)
        try simp only [Act.put, List.setIfInBounds_toArray, List.set_cons_zero, List.set_cons_succ]
        refine wpAnyG_take (i := 6) (v := ?v6x34) rfl (by kernel_rfl) (fun _ _ _ h => h) (Or.inl ⟨by kernel_rfl, ?y6x34⟩) hHeld ?r6x34
        case y6x34 => (intro wS hSw; have s1 := hSw; go_simp; try with_reducible rfl)
        try simp only [Act.put, List.setIfInBounds_toArray, List.set_cons_zero, List.set_cons_succ]
        refine wpAnyG_take (i := 7) (v := .bool true) rfl (by kernel_rfl) (fun _ _ _ h => h) (Or.inl ⟨by kernel_rfl, ?y7x35⟩) hHeld ?r7x35
        case y7x35 => (intro wS hSw; (go_simp))
        try simp only [Act.put, List.setIfInBounds_toArray, List.set_cons_zero, List.set_cons_succ]
        refine wpAnyG_last (i := 8) rfl (by kernel_rfl) (by kernel_rfl) (fun K hK => ?_)
        go_simp
        refine hK.out _ _ ?_
        clear hK K
        refine wpAnyG_done (by kernel_rfl) ?_ _
        clear hHeld
        go_wp2
        go_ret
        exact ⟨rfl, K9.out.2.trans (HK14.out.mono K9.out.2.size)⟩
end Go.Proofs.YtcnfhndejkngkaaGreatDoor
