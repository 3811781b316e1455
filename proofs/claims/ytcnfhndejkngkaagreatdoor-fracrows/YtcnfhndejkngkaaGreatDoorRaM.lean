import Derived.Test.YtcnfhndejkngkaaGreatDoorJpM
set_option linter.unusedSimpArgs false
set_option linter.unusedVariables false
set_option maxRecDepth 100000
namespace Go.Proofs.YtcnfhndejkngkaaGreatDoor
open Go.RowKit
theorem cmpZ_mul {P p q : Int} (hq : 0 < q) : cmpZ (P * q) (p * q) = cmpZ P p := by
  unfold cmpZ
  have h1 : P * q < p * q ↔ P < p := ⟨fun h => Int.lt_of_mul_lt_mul_right h (by omega), fun h => Int.mul_lt_mul_of_pos_right h hq⟩
  have h2 : p * q < P * q ↔ p < P := ⟨fun h => Int.lt_of_mul_lt_mul_right h (by omega), fun h => Int.mul_lt_mul_of_pos_right h hq⟩
  simp only [h1, h2]
theorem cmpZ_zero {a b : Int} : cmpZ a b = 0 ↔ a = b := by unfold cmpZ; split <;> (try split) <;> omega
set_option maxHeartbeats 8000000 in
theorem RCmp_any (bx by' : Nat) (P Q p q : Int) (m : Nat) (w : World) (hx : Rt w bx P Q) (hy : Rt w by' p q) (hb : Rb P Q p q m) :
    Calls Tryz.prog 42 #[.pointer (some ⟨bx, 0, none⟩), .pointer (some ⟨by', 0, none⟩)] w fun e w' => e = .returned (.int .i64 (cmpZ (P * q) (p * Q))) ∧ Below w.heap.size w w' := by
  have bxl := hx.at'.num.lt
  have byl := hy.at'.num.lt
  have HX : Hid (Rt w bx P Q) := hx
  have HY : Hid (Rt w by' p q) := hy
  have HB : Hid (Rb P Q p q m) := hb
  clear hx hy hb
  obtain ⟨C, hC⟩ : ∃ C, C = cmpZ Q q := ⟨_, rfl⟩
  have HC : Hid (C = cmpZ Q q) := hC
  clear hC
  by_cases hc0 : C = 0
  · have hQq : Q = q := cmpZ_zero.1 (HC.out.symm.trans hc0)
    have HE : Hid (cmpZ (P * q) (p * Q) = cmpZ P p) := by show _ = _; rw [hQq]; exact cmpZ_mul HY.out.pos
    have hcb : (C == 0) = true := beq_iff_eq.2 hc0
    clear hc0 hQq
    go_enter Tryz.func42, Tryz.ntmps42
    go_wp2_with fail
    refine (den_pos bx P Q w HX.out.at' HX.out.pos).mono ?_
    rintro e w2 ⟨rfl, hw2⟩
    rw [hw2]
    clear hw2 w2
    go_wp2_with fail
    refine (den_pos by' p q w HY.out.at' HY.out.pos).mono ?_
    rintro e w2 ⟨rfl, hw2⟩
    rw [hw2]
    clear hw2 w2
    go_wp2_with fail
    refine (Cmp_at 2 2 bx by' Q q m m w HX.out.at'.den HY.out.at'.den HB.out.Q HB.out.q HB.out.m1.1 HB.out.m1.1).mono ?_
    rw [← HC.out]
    rintro e w2 ⟨rfl, k, hw2⟩
    have HK2 : Hid (Below w.heap.size w w2) := by show Below _ _ _; rw [hw2]; exact below_drewN' (Below.refl _ _)
    clear hw2
    have bx2 : bx < w2.heap.size := Nat.lt_of_lt_of_le bxl HK2.out.size
    have by2 : by' < w2.heap.size := Nat.lt_of_lt_of_le byl HK2.out.size
    have HX2 : Hid (Rt w2 bx P Q) := HX.out.below HK2.out
    have HY2 : Hid (Rt w2 by' p q) := HY.out.below HK2.out
    go_wp2_with fail
    refine wp_region_G (fun w' => bx < w'.heap.size ∧ by' < w'.heap.size) 7 (by kernel_rfl) ⟨by simpa using bx2, by simpa using by2⟩ (fun hHeld => ?_)
    refine wpAnyG_take (i := 0) (v := ?v0x1) rfl (by kernel_rfl) (fun _ _ _ h => h) (Or.inl ⟨by rfl, ?y0x1⟩) hHeld ?r0x1
    case y0x1 => (intro wS hSw; obtain ⟨s1, s2⟩ := hSw; go_simp; try with_reducible rfl)
    try simp only [Act.put, List.setIfInBounds_toArray, List.set_cons_zero, List.set_cons_succ]
    refine wpAnyG_take (i := 1) (v := ?v1x2) rfl (by kernel_rfl) (fun _ _ _ h => h) (Or.inl ⟨by rfl, ?y1x2⟩) hHeld ?r1x2
    case y1x2 => (intro wS hSw; obtain ⟨s1, s2⟩ := hSw; go_simp; try with_reducible rfl)
    try simp only [Act.put, List.setIfInBounds_toArray, List.set_cons_zero, List.set_cons_succ]
    refine wpAnyG_take (i := 2) (v := ?v2x3) rfl (by kernel_rfl) (fun _ _ _ h => h) (Or.inl ⟨by rfl, ?y2x3⟩) hHeld ?r2x3
    case y2x3 => (intro wS hSw; obtain ⟨s1, s2⟩ := hSw; go_simp; try with_reducible rfl)
    try simp only [Act.put, List.setIfInBounds_toArray, List.set_cons_zero, List.set_cons_succ]
    refine wpAnyG_take (i := 3) (v := ?v3x4) rfl (by kernel_rfl) (fun _ _ _ h => h) (Or.inl ⟨by rfl, ?y3x4⟩) hHeld ?r3x4
    case y3x4 => (intro wS hSw; obtain ⟨s1, s2⟩ := hSw; go_simp; try with_reducible rfl)
    try simp only [Act.put, List.setIfInBounds_toArray, List.set_cons_zero, List.set_cons_succ]
    refine wpAnyG_take (i := 4) (v := ?v4x5) rfl (by kernel_rfl) (fun _ _ _ h => h) (Or.inl ⟨by rfl, ?y4x5⟩) hHeld ?r4x5
    case y4x5 => (intro wS hSw; obtain ⟨s1, s2⟩ := hSw; go_simp; try with_reducible rfl)
    try simp only [Act.put, List.setIfInBounds_toArray, List.set_cons_zero, List.set_cons_succ]
    refine wpAnyG_take (i := 5) (v := ?v5x6) rfl (by kernel_rfl) (fun _ _ _ h => h) (Or.inl ⟨by rfl, ?y5x6⟩) hHeld ?r5x6
    case y5x6 => (intro wS hSw; obtain ⟨s1, s2⟩ := hSw; go_simp; try with_reducible rfl)
    try simp only [Act.put, List.setIfInBounds_toArray, List.set_cons_zero, List.set_cons_succ]
    refine wpAnyG_one (i := 6) rfl (by kernel_rfl) (fun K hK => ?_)
    go_simp
    refine (Cmp_at 0 0 bx by' P p m m _ (HX2.out.below (Below.refl _ _).drew).at'.num (HY2.out.below (Below.refl _ _).drew).at'.num HB.out.P HB.out.p HB.out.m1.1 HB.out.m1.1).mono ?_
    rw [← HE.out]
    rintro e w3 ⟨rfl, k3, hw3⟩
    have K3 : Below w.heap.size w w3 := by rw [hw3]; exact below_drewN' HK2.out.drew
    have HK3 : Hid (Below w.heap.size w w3) := K3
    have z3 : bx < w3.heap.size ∧ by' < w3.heap.size := ⟨Nat.lt_of_lt_of_le bxl K3.size, Nat.lt_of_lt_of_le byl K3.size⟩
    clear hw3 hHeld K3
    have hHeld := z3
    refine hK.out _ _ hHeld ?_
    clear hK K
    try simp only [Act.put, List.setIfInBounds_toArray, List.set_cons_zero, List.set_cons_succ]
    refine wpAnyG_last (i := 7) rfl (by kernel_rfl) (by kernel_rfl) (fun K hK => ?_)
    go_simp
    refine hK.out _ _ ?_
    clear hK K
    try simp only [Act.put, List.setIfInBounds_toArray, List.set_cons_zero, List.set_cons_succ]
    refine wpAnyG_done (by kernel_rfl) ?_ _
    go_wp2
    go_ret
    exact ⟨rfl, HK3.out⟩
  · have hcb : (C == 0) = false := beq_eq_false_iff_ne.2 hc0
    clear hc0
    go_enter Tryz.func42, Tryz.ntmps42
    go_wp2_with fail
    refine (den_pos bx P Q w HX.out.at' HX.out.pos).mono ?_
    rintro e w2 ⟨rfl, hw2⟩
    rw [hw2]
    clear hw2 w2
    go_wp2_with fail
    refine (den_pos by' p q w HY.out.at' HY.out.pos).mono ?_
    rintro e w2 ⟨rfl, hw2⟩
    rw [hw2]
    clear hw2 w2
    go_wp2_with fail
    refine (Cmp_at 2 2 bx by' Q q m m w HX.out.at'.den HY.out.at'.den HB.out.Q HB.out.q HB.out.m1.1 HB.out.m1.1).mono ?_
    rw [← HC.out]
    rintro e w2 ⟨rfl, k, hw2⟩
    have HK2 : Hid (Below w.heap.size w w2) := by show Below _ _ _; rw [hw2]; exact below_drewN' (Below.refl _ _)
    clear hw2
    have bx2 : bx < w2.heap.size := Nat.lt_of_lt_of_le bxl HK2.out.size
    have by2 : by' < w2.heap.size := Nat.lt_of_lt_of_le byl HK2.out.size
    go_wp2_with fail
    refine wp_region_G (fun w' => bx < w'.heap.size ∧ by' < w'.heap.size) 15 (by kernel_rfl) ⟨by simpa using bx2, by simpa using by2⟩ (fun hHeld => ?_)
    refine wpAnyG_take (i := 1) (v := ?v1x7) rfl (by kernel_rfl) (fun _ _ _ h => h) (Or.inl ⟨by rfl, ?y1x7⟩) hHeld ?r1x7
    case y1x7 => (intro wS hSw; obtain ⟨s1, s2⟩ := hSw; go_simp; try with_reducible rfl)
    try simp only [Act.put, List.setIfInBounds_toArray, List.set_cons_zero, List.set_cons_succ]
    refine wpAnyG_take (i := 2) (v := ?v2x8) rfl (by kernel_rfl) (fun _ _ _ h => h) (Or.inl ⟨by rfl, ?y2x8⟩) hHeld ?r2x8
    case y2x8 => (intro wS hSw; obtain ⟨s1, s2⟩ := hSw; go_simp; try with_reducible rfl)
    try simp only [Act.put, List.setIfInBounds_toArray, List.set_cons_zero, List.set_cons_succ]
    refine wpAnyG_take (i := 3) (v := ?v3x9) rfl (by kernel_rfl) (fun _ _ _ h => h) (Or.inl ⟨by rfl, ?y3x9⟩) hHeld ?r3x9
    case y3x9 => (intro wS hSw; obtain ⟨s1, s2⟩ := hSw; go_simp; try with_reducible rfl)
    try simp only [Act.put, List.setIfInBounds_toArray, List.set_cons_zero, List.set_cons_succ]
    refine wpAnyG_take (i := 4) (v := ?v4x10) rfl (by kernel_rfl) (fun _ _ _ h => h) (Or.inl ⟨by rfl, ?y4x10⟩) hHeld ?r4x10
    case y4x10 => (intro wS hSw; obtain ⟨s1, s2⟩ := hSw; go_simp; try with_reducible rfl)
    try simp only [Act.put, List.setIfInBounds_toArray, List.set_cons_zero, List.set_cons_succ]
    refine wpAnyG_take (i := 8) (v := ?v8x11) rfl (by kernel_rfl) (fun _ _ _ h => h) (Or.inl ⟨by rfl, ?y8x11⟩) hHeld ?r8x11
    case y8x11 => (intro wS hSw; obtain ⟨s1, s2⟩ := hSw; go_simp; try with_reducible rfl)
    try simp only [Act.put, List.setIfInBounds_toArray, List.set_cons_zero, List.set_cons_succ]
    refine wpAnyG_take (i := 9) (v := ?v9x12) rfl (by kernel_rfl) (fun _ _ _ h => h) (Or.inl ⟨by rfl, ?y9x12⟩) hHeld ?r9x12
    case y9x12 => (intro wS hSw; obtain ⟨s1, s2⟩ := hSw; go_simp; try with_reducible rfl)
    try simp only [Act.put, List.setIfInBounds_toArray, List.set_cons_zero, List.set_cons_succ]
    refine wpAnyG_take (i := 10) (v := ?v10x13) rfl (by kernel_rfl) (fun _ _ _ h => h) (Or.inl ⟨by rfl, ?y10x13⟩) hHeld ?r10x13
    case y10x13 => (intro wS hSw; obtain ⟨s1, s2⟩ := hSw; go_simp; try with_reducible rfl)
    try simp only [Act.put, List.setIfInBounds_toArray, List.set_cons_zero, List.set_cons_succ]
    refine wpAnyG_take (i := 11) (v := ?v11x14) rfl (by kernel_rfl) (fun _ _ _ h => h) (Or.inl ⟨by rfl, ?y11x14⟩) hHeld ?r11x14
    case y11x14 => (intro wS hSw; obtain ⟨s1, s2⟩ := hSw; go_simp; try with_reducible rfl)
    try simp only [Act.put, List.setIfInBounds_toArray, List.set_cons_zero, List.set_cons_succ]
    clear hHeld
    refine wpAnyG_inv (fun n l a w1 => ∃ x4 x18 x23 x24 x25 x30 x31 x32 : Value, a = { tmps := #[.pointer (some ⟨bx, 0, none⟩), .pointer (some ⟨by', 0, none⟩), undef, undef, x4, .pointer (some ⟨bx, 0, none⟩), .pointer (some ⟨bx, 2, none⟩), .pointer (some ⟨by', 0, none⟩), .pointer (some ⟨by', 2, none⟩), .int .i64 C, .bool false, undef, undef, undef, undef, undef, undef, undef, x18, .pointer (some ⟨bx, 0, none⟩), .pointer (some ⟨bx, 0, none⟩), .pointer (some ⟨bx, 0, none⟩), .pointer (some ⟨by', 0, none⟩), x23, x24, x25, .pointer (some ⟨by', 0, none⟩), .pointer (some ⟨by', 0, none⟩), .pointer (some ⟨by', 0, none⟩), .pointer (some ⟨bx, 0, none⟩), x30, x31, x32], defers := [] } ∧ ((((n = 8 ∧ l = #[false, true, true, true, true, false, false, false, true, true, true, true, false, false, false, false] ∧ x4 = .int .i64 0 ∧ x18 = undef ∧ x23 = undef ∧ x24 = undef ∧ x25 = undef ∧ x30 = undef ∧ x31 = undef ∧ x32 = undef ∧ Hid (Below w.heap.size w w1)) ∨ ((∃ b0 : Nat, n = 7 ∧ l = #[true, true, true, true, true, false, false, false, true, true, true, true, false, false, false, false] ∧ x4 = .int .i64 0 ∧ x18 = .pointer (some ⟨b0, 0, none⟩) ∧ x23 = undef ∧ x24 = undef ∧ x25 = undef ∧ x30 = undef ∧ x31 = undef ∧ x32 = undef ∧ Hid (Below w.heap.size w w1 ∧ w.heap.size ≤ b0 ∧ Slot w1 b0)) ∨ (∃ b1 : Nat, n = 7 ∧ l = #[false, true, true, true, true, false, false, true, true, true, true, true, false, false, false, false] ∧ x4 = .int .i64 0 ∧ x18 = undef ∧ x23 = undef ∧ x24 = undef ∧ x25 = .pointer (some ⟨b1, 0, none⟩) ∧ x30 = undef ∧ x31 = undef ∧ x32 = undef ∧ Hid (Below w.heap.size w w1 ∧ w.heap.size ≤ b1 ∧ Slot w1 b1)))) ∨ (((∃ b0 b1 : Nat, n = 6 ∧ l = #[true, true, true, true, true, false, false, true, true, true, true, true, false, false, false, false] ∧ x4 = .int .i64 0 ∧ x18 = .pointer (some ⟨b0, 0, none⟩) ∧ x23 = undef ∧ x24 = undef ∧ x25 = .pointer (some ⟨b1, 0, none⟩) ∧ x30 = undef ∧ x31 = undef ∧ x32 = undef ∧ Hid (Below w.heap.size w w1 ∧ w.heap.size ≤ b0 ∧ Slot w1 b0 ∧ w.heap.size ≤ b1 ∧ Slot w1 b1 ∧ b0 ≠ b1)) ∨ (n = 7 ∧ l = #[false, true, true, true, true, true, false, false, true, true, true, true, false, false, false, false] ∧ x4 = .int .i64 0 ∧ x18 = undef ∧ x23 = .pointer (some ⟨by', 2, none⟩) ∧ x24 = undef ∧ x25 = undef ∧ x30 = undef ∧ x31 = undef ∧ x32 = undef ∧ Hid (Below w.heap.size w w1))) ∨ ((∃ b0 : Nat, n = 6 ∧ l = #[true, true, true, true, true, true, false, false, true, true, true, true, false, false, false, false] ∧ x4 = .int .i64 0 ∧ x18 = .pointer (some ⟨b0, 0, none⟩) ∧ x23 = .pointer (some ⟨by', 2, none⟩) ∧ x24 = undef ∧ x25 = undef ∧ x30 = undef ∧ x31 = undef ∧ x32 = undef ∧ Hid (Below w.heap.size w w1 ∧ w.heap.size ≤ b0 ∧ Slot w1 b0)) ∨ (∃ b1 : Nat, n = 6 ∧ l = #[false, true, true, true, true, true, false, true, true, true, true, true, false, false, false, false] ∧ x4 = .int .i64 0 ∧ x18 = undef ∧ x23 = .pointer (some ⟨by', 2, none⟩) ∧ x24 = undef ∧ x25 = .pointer (some ⟨b1, 0, none⟩) ∧ x30 = undef ∧ x31 = undef ∧ x32 = undef ∧ Hid (Below w.heap.size w w1 ∧ w.heap.size ≤ b1 ∧ Slot w1 b1))))) ∨ ((((∃ b0 b1 : Nat, n = 5 ∧ l = #[true, true, true, true, true, true, false, true, true, true, true, true, false, false, false, false] ∧ x4 = .int .i64 0 ∧ x18 = .pointer (some ⟨b0, 0, none⟩) ∧ x23 = .pointer (some ⟨by', 2, none⟩) ∧ x24 = undef ∧ x25 = .pointer (some ⟨b1, 0, none⟩) ∧ x30 = undef ∧ x31 = undef ∧ x32 = undef ∧ Hid (Below w.heap.size w w1 ∧ w.heap.size ≤ b0 ∧ Slot w1 b0 ∧ w.heap.size ≤ b1 ∧ Slot w1 b1 ∧ b0 ≠ b1)) ∨ (∃ b0 : Nat, n = 5 ∧ l = #[true, true, true, true, true, true, true, false, true, true, true, true, false, false, false, false] ∧ x4 = .int .i64 0 ∧ x18 = .pointer (some ⟨b0, 0, none⟩) ∧ x23 = .pointer (some ⟨by', 2, none⟩) ∧ x24 = .pointer (some ⟨b0, 0, none⟩) ∧ x25 = undef ∧ x30 = undef ∧ x31 = undef ∧ x32 = undef ∧ Hid (Below w.heap.size w w1 ∧ w.heap.size ≤ b0 ∧ BigAt w1 b0 (P * q)))) ∨ ((∃ b0 b1 : Nat, n = 4 ∧ l = #[true, true, true, true, true, true, true, true, true, true, true, true, false, false, false, false] ∧ x4 = .int .i64 0 ∧ x18 = .pointer (some ⟨b0, 0, none⟩) ∧ x23 = .pointer (some ⟨by', 2, none⟩) ∧ x24 = .pointer (some ⟨b0, 0, none⟩) ∧ x25 = .pointer (some ⟨b1, 0, none⟩) ∧ x30 = undef ∧ x31 = undef ∧ x32 = undef ∧ Hid (Below w.heap.size w w1 ∧ w.heap.size ≤ b0 ∧ BigAt w1 b0 (P * q) ∧ w.heap.size ≤ b1 ∧ Slot w1 b1 ∧ b0 ≠ b1)) ∨ (∃ b0 : Nat, n = 4 ∧ l = #[true, true, true, true, true, true, true, false, true, true, true, true, true, false, false, false] ∧ x4 = .int .i64 0 ∧ x18 = .pointer (some ⟨b0, 0, none⟩) ∧ x23 = .pointer (some ⟨by', 2, none⟩) ∧ x24 = .pointer (some ⟨b0, 0, none⟩) ∧ x25 = undef ∧ x30 = .pointer (some ⟨bx, 2, none⟩) ∧ x31 = undef ∧ x32 = undef ∧ Hid (Below w.heap.size w w1 ∧ w.heap.size ≤ b0 ∧ BigAt w1 b0 (P * q))))) ∨ (((∃ b0 b1 : Nat, n = 3 ∧ l = #[true, true, true, true, true, true, true, true, true, true, true, true, true, false, false, false] ∧ x4 = .int .i64 0 ∧ x18 = .pointer (some ⟨b0, 0, none⟩) ∧ x23 = .pointer (some ⟨by', 2, none⟩) ∧ x24 = .pointer (some ⟨b0, 0, none⟩) ∧ x25 = .pointer (some ⟨b1, 0, none⟩) ∧ x30 = .pointer (some ⟨bx, 2, none⟩) ∧ x31 = undef ∧ x32 = undef ∧ Hid (Below w.heap.size w w1 ∧ w.heap.size ≤ b0 ∧ BigAt w1 b0 (P * q) ∧ w.heap.size ≤ b1 ∧ Slot w1 b1 ∧ b0 ≠ b1)) ∨ (∃ b0 b1 : Nat, n = 2 ∧ l = #[true, true, true, true, true, true, true, true, true, true, true, true, true, true, false, false] ∧ x4 = .int .i64 0 ∧ x18 = .pointer (some ⟨b0, 0, none⟩) ∧ x23 = .pointer (some ⟨by', 2, none⟩) ∧ x24 = .pointer (some ⟨b0, 0, none⟩) ∧ x25 = .pointer (some ⟨b1, 0, none⟩) ∧ x30 = .pointer (some ⟨bx, 2, none⟩) ∧ x31 = .pointer (some ⟨b1, 0, none⟩) ∧ x32 = undef ∧ Hid (Below w.heap.size w w1 ∧ w.heap.size ≤ b0 ∧ BigAt w1 b0 (P * q) ∧ w.heap.size ≤ b1 ∧ BigAt w1 b1 (p * Q) ∧ b0 ≠ b1))) ∨ ((∃ b0 b1 : Nat, n = 1 ∧ l = #[true, true, true, true, true, true, true, true, true, true, true, true, true, true, true, false] ∧ x4 = .int .i64 0 ∧ x18 = .pointer (some ⟨b0, 0, none⟩) ∧ x23 = .pointer (some ⟨by', 2, none⟩) ∧ x24 = .pointer (some ⟨b0, 0, none⟩) ∧ x25 = .pointer (some ⟨b1, 0, none⟩) ∧ x30 = .pointer (some ⟨bx, 2, none⟩) ∧ x31 = .pointer (some ⟨b1, 0, none⟩) ∧ x32 = .int .i64 (cmpZ (P * q) (p * Q)) ∧ Hid (Below w.heap.size w w1 ∧ w.heap.size ≤ b0 ∧ BigAt w1 b0 (P * q) ∧ w.heap.size ≤ b1 ∧ BigAt w1 b1 (p * Q) ∧ b0 ≠ b1)) ∨ (∃ b0 b1 : Nat, n = 0 ∧ l = #[true, true, true, true, true, true, true, true, true, true, true, true, true, true, true, true] ∧ x4 = .int .i64 (cmpZ (P * q) (p * Q)) ∧ x18 = .pointer (some ⟨b0, 0, none⟩) ∧ x23 = .pointer (some ⟨by', 2, none⟩) ∧ x24 = .pointer (some ⟨b0, 0, none⟩) ∧ x25 = .pointer (some ⟨b1, 0, none⟩) ∧ x30 = .pointer (some ⟨bx, 2, none⟩) ∧ x31 = .pointer (some ⟨b1, 0, none⟩) ∧ x32 = .int .i64 (cmpZ (P * q) (p * Q)) ∧ Hid (Below w.heap.size w w1 ∧ w.heap.size ≤ b0 ∧ BigAt w1 b0 (P * q) ∧ w.heap.size ≤ b1 ∧ BigAt w1 b1 (p * Q) ∧ b0 ≠ b1))))))) ?steps _ _ _ _ ?start
    case start => exact ⟨_, _, _, _, _, _, _, _, rfl, .inl (.inl (.inl (⟨rfl, rfl, rfl, rfl, rfl, rfl, rfl, rfl, rfl, rfl, HK2.out.drew⟩)))⟩
    case steps =>
      intro n l a w1 hI
      obtain ⟨x4, x18, x23, x24, x25, x30, x31, x32, rfl, hI⟩ := hI
      rcases hI with (((hI | (hI | hI)) | ((hI | hI) | (hI | hI))) | (((hI | hI) | (hI | hI)) | ((hI | hI) | (hI | hI))))
      · obtain ⟨rfl, rfl, rfl, rfl, rfl, rfl, rfl, rfl, rfl, rfl, HH⟩ := hI
        right
        refine ⟨7, [0, 5, 7], rfl, by kernel_rfl, by simp, fun i hi => ?_⟩
        simp only [List.mem_cons, List.not_mem_nil, or_false] at hi
        rcases hi with rfl | rfl | rfl
        · refine ⟨_, rfl, fun K' hK => ?_⟩
          go_simp
          have K := HH.out
          refine hK.out _ _ (fun _ _ => ⟨Nat.lt_of_lt_of_le bxl ((K.alloc K.size _)).size, Nat.lt_of_lt_of_le byl ((K.alloc K.size _)).size⟩) (⟨_, _, _, _, _, _, _, _, rfl, .inl (.inl (.inr (.inl (⟨w1.heap.size, rfl, rfl, rfl, rfl, rfl, rfl, rfl, rfl, rfl, rfl, K.alloc K.size _, K.size, slot_new w1 _ _⟩))))⟩)
        · refine ⟨_, rfl, fun K' hK => ?_⟩
          go_simp
          have K := HH.out
          refine (den_pos by' p q w1 (HY.out.below K).at' HY.out.pos).mono ?_
          rintro e w2 ⟨rfl, hw2⟩
          rw [hw2]
          clear hw2 w2
          refine hK.out _ _ (fun _ _ => ⟨Nat.lt_of_lt_of_le bxl (K).size, Nat.lt_of_lt_of_le byl (K).size⟩) (⟨_, _, _, _, _, _, _, _, rfl, .inl (.inr (.inl (.inr (⟨rfl, rfl, rfl, rfl, rfl, rfl, rfl, rfl, rfl, rfl, K⟩))))⟩)
        · refine ⟨_, rfl, fun K' hK => ?_⟩
          go_simp
          have K := HH.out
          refine hK.out _ _ (fun _ _ => ⟨Nat.lt_of_lt_of_le bxl ((K.alloc K.size _)).size, Nat.lt_of_lt_of_le byl ((K.alloc K.size _)).size⟩) (⟨_, _, _, _, _, _, _, _, rfl, .inl (.inl (.inr (.inr (⟨w1.heap.size, rfl, rfl, rfl, rfl, rfl, rfl, rfl, rfl, rfl, rfl, K.alloc K.size _, K.size, slot_new w1 _ _⟩))))⟩)
      · obtain ⟨b0, rfl, rfl, rfl, rfl, rfl, rfl, rfl, rfl, rfl, rfl, HH⟩ := hI
        right
        refine ⟨6, [5, 7], rfl, by kernel_rfl, by simp, fun i hi => ?_⟩
        simp only [List.mem_cons, List.not_mem_nil, or_false] at hi
        rcases hi with rfl | rfl
        · refine ⟨_, rfl, fun K' hK => ?_⟩
          go_simp
          obtain ⟨K, ge_b0, at_b0⟩ := HH.out
          refine (den_pos by' p q w1 (HY.out.below K).at' HY.out.pos).mono ?_
          rintro e w2 ⟨rfl, hw2⟩
          rw [hw2]
          clear hw2 w2
          refine hK.out _ _ (fun _ _ => ⟨Nat.lt_of_lt_of_le bxl (K).size, Nat.lt_of_lt_of_le byl (K).size⟩) (⟨_, _, _, _, _, _, _, _, rfl, .inl (.inr (.inr (.inl (⟨b0, rfl, rfl, rfl, rfl, rfl, rfl, rfl, rfl, rfl, rfl, K, ge_b0, at_b0⟩))))⟩)
        · refine ⟨_, rfl, fun K' hK => ?_⟩
          go_simp
          obtain ⟨K, ge_b0, at_b0⟩ := HH.out
          refine hK.out _ _ (fun _ _ => ⟨Nat.lt_of_lt_of_le bxl ((K.alloc K.size _)).size, Nat.lt_of_lt_of_le byl ((K.alloc K.size _)).size⟩) (⟨_, _, _, _, _, _, _, _, rfl, .inl (.inr (.inl (.inl (⟨b0, w1.heap.size, rfl, rfl, rfl, rfl, rfl, rfl, rfl, rfl, rfl, rfl, K.alloc K.size _, ge_b0, at_b0.below (Below.alloc_self' w1 _) (Nat.le_refl _), K.size, slot_new w1 _ _, (Nat.ne_of_lt at_b0.lt)⟩))))⟩)
      · obtain ⟨b1, rfl, rfl, rfl, rfl, rfl, rfl, rfl, rfl, rfl, rfl, HH⟩ := hI
        right
        refine ⟨6, [0, 5], rfl, by kernel_rfl, by simp, fun i hi => ?_⟩
        simp only [List.mem_cons, List.not_mem_nil, or_false] at hi
        rcases hi with rfl | rfl
        · refine ⟨_, rfl, fun K' hK => ?_⟩
          go_simp
          obtain ⟨K, ge_b1, at_b1⟩ := HH.out
          refine hK.out _ _ (fun _ _ => ⟨Nat.lt_of_lt_of_le bxl ((K.alloc K.size _)).size, Nat.lt_of_lt_of_le byl ((K.alloc K.size _)).size⟩) (⟨_, _, _, _, _, _, _, _, rfl, .inl (.inr (.inl (.inl (⟨w1.heap.size, b1, rfl, rfl, rfl, rfl, rfl, rfl, rfl, rfl, rfl, rfl, K.alloc K.size _, K.size, slot_new w1 _ _, ge_b1, at_b1.below (Below.alloc_self' w1 _) (Nat.le_refl _), (Nat.ne_of_gt at_b1.lt)⟩))))⟩)
        · refine ⟨_, rfl, fun K' hK => ?_⟩
          go_simp
          obtain ⟨K, ge_b1, at_b1⟩ := HH.out
          refine (den_pos by' p q w1 (HY.out.below K).at' HY.out.pos).mono ?_
          rintro e w2 ⟨rfl, hw2⟩
          rw [hw2]
          clear hw2 w2
          refine hK.out _ _ (fun _ _ => ⟨Nat.lt_of_lt_of_le bxl (K).size, Nat.lt_of_lt_of_le byl (K).size⟩) (⟨_, _, _, _, _, _, _, _, rfl, .inl (.inr (.inr (.inr (⟨b1, rfl, rfl, rfl, rfl, rfl, rfl, rfl, rfl, rfl, rfl, K, ge_b1, at_b1⟩))))⟩)
      · obtain ⟨b0, b1, rfl, rfl, rfl, rfl, rfl, rfl, rfl, rfl, rfl, rfl, HH⟩ := hI
        right
        refine ⟨5, [5], rfl, by kernel_rfl, by simp, fun i hi => ?_⟩
        simp only [List.mem_cons, List.not_mem_nil, or_false] at hi
        subst hi
        refine ⟨_, rfl, fun K' hK => ?_⟩
        go_simp
        obtain ⟨K, ge_b0, at_b0, ge_b1, at_b1, ne_b0_b1⟩ := HH.out
        refine (den_pos by' p q w1 (HY.out.below K).at' HY.out.pos).mono ?_
        rintro e w2 ⟨rfl, hw2⟩
        rw [hw2]
        clear hw2 w2
        refine hK.out _ _ (fun _ _ => ⟨Nat.lt_of_lt_of_le bxl (K).size, Nat.lt_of_lt_of_le byl (K).size⟩) (⟨_, _, _, _, _, _, _, _, rfl, .inr (.inl (.inl (.inl (⟨b0, b1, rfl, rfl, rfl, rfl, rfl, rfl, rfl, rfl, rfl, rfl, K, ge_b0, at_b0, ge_b1, at_b1, ne_b0_b1⟩))))⟩)
      · obtain ⟨rfl, rfl, rfl, rfl, rfl, rfl, rfl, rfl, rfl, rfl, HH⟩ := hI
        right
        refine ⟨6, [0, 7], rfl, by kernel_rfl, by simp, fun i hi => ?_⟩
        simp only [List.mem_cons, List.not_mem_nil, or_false] at hi
        rcases hi with rfl | rfl
        · refine ⟨_, rfl, fun K' hK => ?_⟩
          go_simp
          have K := HH.out
          refine hK.out _ _ (fun _ _ => ⟨Nat.lt_of_lt_of_le bxl ((K.alloc K.size _)).size, Nat.lt_of_lt_of_le byl ((K.alloc K.size _)).size⟩) (⟨_, _, _, _, _, _, _, _, rfl, .inl (.inr (.inr (.inl (⟨w1.heap.size, rfl, rfl, rfl, rfl, rfl, rfl, rfl, rfl, rfl, rfl, K.alloc K.size _, K.size, slot_new w1 _ _⟩))))⟩)
        · refine ⟨_, rfl, fun K' hK => ?_⟩
          go_simp
          have K := HH.out
          refine hK.out _ _ (fun _ _ => ⟨Nat.lt_of_lt_of_le bxl ((K.alloc K.size _)).size, Nat.lt_of_lt_of_le byl ((K.alloc K.size _)).size⟩) (⟨_, _, _, _, _, _, _, _, rfl, .inl (.inr (.inr (.inr (⟨w1.heap.size, rfl, rfl, rfl, rfl, rfl, rfl, rfl, rfl, rfl, rfl, K.alloc K.size _, K.size, slot_new w1 _ _⟩))))⟩)
      · obtain ⟨b0, rfl, rfl, rfl, rfl, rfl, rfl, rfl, rfl, rfl, rfl, HH⟩ := hI
        right
        refine ⟨5, [6, 7], rfl, by kernel_rfl, by simp, fun i hi => ?_⟩
        simp only [List.mem_cons, List.not_mem_nil, or_false] at hi
        rcases hi with rfl | rfl
        · refine ⟨_, rfl, fun K' hK => ?_⟩
          go_simp
          obtain ⟨K, ge_b0, at_b0⟩ := HH.out
          refine (Mul_at 0 2 b0 bx by' P q m m w1 at_b0 (HX.out.below K).at'.num (HY.out.below K).at'.den HB.out.P HB.out.q HB.out.m1.1 HB.out.m1.1).mono ?_
          rintro e w2 ⟨rfl, h2, u2⟩
          refine hK.out _ _ (fun _ _ => ⟨Nat.lt_of_lt_of_le bxl ((K.trans (u2.below K.size ge_b0))).size, Nat.lt_of_lt_of_le byl ((K.trans (u2.below K.size ge_b0))).size⟩) (⟨_, _, _, _, _, _, _, _, rfl, .inr (.inl (.inl (.inr (⟨b0, rfl, rfl, rfl, rfl, rfl, rfl, rfl, rfl, rfl, rfl, (K.trans (u2.below K.size ge_b0)), ge_b0, h2⟩))))⟩)
        · refine ⟨_, rfl, fun K' hK => ?_⟩
          go_simp
          obtain ⟨K, ge_b0, at_b0⟩ := HH.out
          refine hK.out _ _ (fun _ _ => ⟨Nat.lt_of_lt_of_le bxl ((K.alloc K.size _)).size, Nat.lt_of_lt_of_le byl ((K.alloc K.size _)).size⟩) (⟨_, _, _, _, _, _, _, _, rfl, .inr (.inl (.inl (.inl (⟨b0, w1.heap.size, rfl, rfl, rfl, rfl, rfl, rfl, rfl, rfl, rfl, rfl, K.alloc K.size _, ge_b0, at_b0.below (Below.alloc_self' w1 _) (Nat.le_refl _), K.size, slot_new w1 _ _, (Nat.ne_of_lt at_b0.lt)⟩))))⟩)
      · obtain ⟨b1, rfl, rfl, rfl, rfl, rfl, rfl, rfl, rfl, rfl, rfl, HH⟩ := hI
        right
        refine ⟨5, [0], rfl, by kernel_rfl, by simp, fun i hi => ?_⟩
        simp only [List.mem_cons, List.not_mem_nil, or_false] at hi
        subst hi
        refine ⟨_, rfl, fun K' hK => ?_⟩
        go_simp
        obtain ⟨K, ge_b1, at_b1⟩ := HH.out
        refine hK.out _ _ (fun _ _ => ⟨Nat.lt_of_lt_of_le bxl ((K.alloc K.size _)).size, Nat.lt_of_lt_of_le byl ((K.alloc K.size _)).size⟩) (⟨_, _, _, _, _, _, _, _, rfl, .inr (.inl (.inl (.inl (⟨w1.heap.size, b1, rfl, rfl, rfl, rfl, rfl, rfl, rfl, rfl, rfl, rfl, K.alloc K.size _, K.size, slot_new w1 _ _, ge_b1, at_b1.below (Below.alloc_self' w1 _) (Nat.le_refl _), (Nat.ne_of_gt at_b1.lt)⟩))))⟩)
      · obtain ⟨b0, b1, rfl, rfl, rfl, rfl, rfl, rfl, rfl, rfl, rfl, rfl, HH⟩ := hI
        right
        refine ⟨4, [6], rfl, by kernel_rfl, by simp, fun i hi => ?_⟩
        simp only [List.mem_cons, List.not_mem_nil, or_false] at hi
        subst hi
        refine ⟨_, rfl, fun K' hK => ?_⟩
        go_simp
        obtain ⟨K, ge_b0, at_b0, ge_b1, at_b1, ne_b0_b1⟩ := HH.out
        refine (Mul_at 0 2 b0 bx by' P q m m w1 at_b0 (HX.out.below K).at'.num (HY.out.below K).at'.den HB.out.P HB.out.q HB.out.m1.1 HB.out.m1.1).mono ?_
        rintro e w2 ⟨rfl, h2, u2⟩
        refine hK.out _ _ (fun _ _ => ⟨Nat.lt_of_lt_of_le bxl ((K.trans (u2.below K.size ge_b0))).size, Nat.lt_of_lt_of_le byl ((K.trans (u2.below K.size ge_b0))).size⟩) (⟨_, _, _, _, _, _, _, _, rfl, .inr (.inl (.inr (.inl (⟨b0, b1, rfl, rfl, rfl, rfl, rfl, rfl, rfl, rfl, rfl, rfl, (K.trans (u2.below K.size ge_b0)), ge_b0, h2, ge_b1, at_b1.upd u2 (Ne.symm ne_b0_b1), ne_b0_b1⟩))))⟩)
      · obtain ⟨b0, rfl, rfl, rfl, rfl, rfl, rfl, rfl, rfl, rfl, rfl, HH⟩ := hI
        right
        refine ⟨4, [7, 12], rfl, by kernel_rfl, by simp, fun i hi => ?_⟩
        simp only [List.mem_cons, List.not_mem_nil, or_false] at hi
        rcases hi with rfl | rfl
        · refine ⟨_, rfl, fun K' hK => ?_⟩
          go_simp
          obtain ⟨K, ge_b0, at_b0⟩ := HH.out
          refine hK.out _ _ (fun _ _ => ⟨Nat.lt_of_lt_of_le bxl ((K.alloc K.size _)).size, Nat.lt_of_lt_of_le byl ((K.alloc K.size _)).size⟩) (⟨_, _, _, _, _, _, _, _, rfl, .inr (.inl (.inr (.inl (⟨b0, w1.heap.size, rfl, rfl, rfl, rfl, rfl, rfl, rfl, rfl, rfl, rfl, K.alloc K.size _, ge_b0, at_b0.below (Below.alloc_self' w1 _) (Nat.le_refl _), K.size, slot_new w1 _ _, (Nat.ne_of_lt at_b0.lt)⟩))))⟩)
        · refine ⟨_, rfl, fun K' hK => ?_⟩
          go_simp
          obtain ⟨K, ge_b0, at_b0⟩ := HH.out
          refine (den_pos bx P Q w1 (HX.out.below K).at' HX.out.pos).mono ?_
          rintro e w2 ⟨rfl, hw2⟩
          rw [hw2]
          clear hw2 w2
          refine hK.out _ _ (fun _ _ => ⟨Nat.lt_of_lt_of_le bxl (K).size, Nat.lt_of_lt_of_le byl (K).size⟩) (⟨_, _, _, _, _, _, _, _, rfl, .inr (.inl (.inr (.inr (⟨b0, rfl, rfl, rfl, rfl, rfl, rfl, rfl, rfl, rfl, rfl, K, ge_b0, at_b0⟩))))⟩)
      · obtain ⟨b0, b1, rfl, rfl, rfl, rfl, rfl, rfl, rfl, rfl, rfl, rfl, HH⟩ := hI
        right
        refine ⟨3, [12], rfl, by kernel_rfl, by simp, fun i hi => ?_⟩
        simp only [List.mem_cons, List.not_mem_nil, or_false] at hi
        subst hi
        refine ⟨_, rfl, fun K' hK => ?_⟩
        go_simp
        obtain ⟨K, ge_b0, at_b0, ge_b1, at_b1, ne_b0_b1⟩ := HH.out
        refine (den_pos bx P Q w1 (HX.out.below K).at' HX.out.pos).mono ?_
        rintro e w2 ⟨rfl, hw2⟩
        rw [hw2]
        clear hw2 w2
        refine hK.out _ _ (fun _ _ => ⟨Nat.lt_of_lt_of_le bxl (K).size, Nat.lt_of_lt_of_le byl (K).size⟩) (⟨_, _, _, _, _, _, _, _, rfl, .inr (.inr (.inl (.inl (⟨b0, b1, rfl, rfl, rfl, rfl, rfl, rfl, rfl, rfl, rfl, rfl, K, ge_b0, at_b0, ge_b1, at_b1, ne_b0_b1⟩))))⟩)
      · obtain ⟨b0, rfl, rfl, rfl, rfl, rfl, rfl, rfl, rfl, rfl, rfl, HH⟩ := hI
        right
        refine ⟨3, [7], rfl, by kernel_rfl, by simp, fun i hi => ?_⟩
        simp only [List.mem_cons, List.not_mem_nil, or_false] at hi
        subst hi
        refine ⟨_, rfl, fun K' hK => ?_⟩
        go_simp
        obtain ⟨K, ge_b0, at_b0⟩ := HH.out
        refine hK.out _ _ (fun _ _ => ⟨Nat.lt_of_lt_of_le bxl ((K.alloc K.size _)).size, Nat.lt_of_lt_of_le byl ((K.alloc K.size _)).size⟩) (⟨_, _, _, _, _, _, _, _, rfl, .inr (.inr (.inl (.inl (⟨b0, w1.heap.size, rfl, rfl, rfl, rfl, rfl, rfl, rfl, rfl, rfl, rfl, K.alloc K.size _, ge_b0, at_b0.below (Below.alloc_self' w1 _) (Nat.le_refl _), K.size, slot_new w1 _ _, (Nat.ne_of_lt at_b0.lt)⟩))))⟩)
      · obtain ⟨b0, b1, rfl, rfl, rfl, rfl, rfl, rfl, rfl, rfl, rfl, rfl, HH⟩ := hI
        right
        refine ⟨2, [13], rfl, by kernel_rfl, by simp, fun i hi => ?_⟩
        simp only [List.mem_cons, List.not_mem_nil, or_false] at hi
        subst hi
        refine ⟨_, rfl, fun K' hK => ?_⟩
        go_simp
        obtain ⟨K, ge_b0, at_b0, ge_b1, at_b1, ne_b0_b1⟩ := HH.out
        refine (Mul_at 0 2 b1 by' bx p Q m m w1 at_b1 (HY.out.below K).at'.num (HX.out.below K).at'.den HB.out.p HB.out.Q HB.out.m1.1 HB.out.m1.1).mono ?_
        rintro e w2 ⟨rfl, h2, u2⟩
        refine hK.out _ _ (fun _ _ => ⟨Nat.lt_of_lt_of_le bxl ((K.trans (u2.below K.size ge_b1))).size, Nat.lt_of_lt_of_le byl ((K.trans (u2.below K.size ge_b1))).size⟩) (⟨_, _, _, _, _, _, _, _, rfl, .inr (.inr (.inl (.inr (⟨b0, b1, rfl, rfl, rfl, rfl, rfl, rfl, rfl, rfl, rfl, rfl, (K.trans (u2.below K.size ge_b1)), ge_b0, at_b0.upd u2 at_b1 ne_b0_b1, ge_b1, h2, ne_b0_b1⟩))))⟩)
      · obtain ⟨b0, b1, rfl, rfl, rfl, rfl, rfl, rfl, rfl, rfl, rfl, rfl, HH⟩ := hI
        right
        refine ⟨1, [14], rfl, by kernel_rfl, by simp, fun i hi => ?_⟩
        simp only [List.mem_cons, List.not_mem_nil, or_false] at hi
        subst hi
        refine ⟨_, rfl, fun K' hK => ?_⟩
        go_simp
        obtain ⟨K, ge_b0, at_b0, ge_b1, at_b1, ne_b0_b1⟩ := HH.out
        refine (Cmp_any b0 b1 (P * q) (p * Q) (m + m) (m + m) w1 at_b0 at_b1 (mul_pw HB.out.P HB.out.q) (mul_pw HB.out.p HB.out.Q) HB.out.m1.2.1 HB.out.m1.2.1).mono ?_
        rintro e w2 ⟨rfl, kq, hw2⟩
        rw [hw2]
        clear hw2 w2
        refine hK.out _ _ (fun _ _ => ⟨Nat.lt_of_lt_of_le bxl ((below_drewN' K)).size, Nat.lt_of_lt_of_le byl ((below_drewN' K)).size⟩) (⟨_, _, _, _, _, _, _, _, rfl, .inr (.inr (.inr (.inl (⟨b0, b1, rfl, rfl, rfl, rfl, rfl, rfl, rfl, rfl, rfl, rfl, (below_drewN' K), ge_b0, at_b0.below (below_drewN' (Below.refl w1.heap.size w1)) (Nat.le_refl _), ge_b1, at_b1.below (below_drewN' (Below.refl w1.heap.size w1)) (Nat.le_refl _), ne_b0_b1⟩))))⟩)
      · obtain ⟨b0, b1, rfl, rfl, rfl, rfl, rfl, rfl, rfl, rfl, rfl, rfl, HH⟩ := hI
        right
        refine ⟨0, [15], rfl, by kernel_rfl, by simp, fun i hi => ?_⟩
        simp only [List.mem_cons, List.not_mem_nil, or_false] at hi
        subst hi
        refine ⟨_, rfl, fun K' hK => ?_⟩
        go_simp
        obtain ⟨K, ge_b0, at_b0, ge_b1, at_b1, ne_b0_b1⟩ := HH.out
        refine hK.out _ _ (fun _ h => absurd rfl h) (⟨_, _, _, _, _, _, _, _, rfl, .inr (.inr (.inr (.inr (⟨b0, b1, rfl, rfl, rfl, rfl, rfl, rfl, rfl, rfl, rfl, rfl, K, ge_b0, at_b0, ge_b1, at_b1, ne_b0_b1⟩))))⟩)
      · obtain ⟨b0, b1, rfl, rfl, rfl, rfl, rfl, rfl, rfl, rfl, rfl, rfl, HH⟩ := hI
        obtain ⟨K, ge_b0, at_b0, ge_b1, at_b1, ne_b0_b1⟩ := HH.out
        left
        refine ⟨by kernel_rfl, ?_⟩
        have HKe : Hid (Below w.heap.size w w1) := K
        clear HH K ge_b0 at_b0 ge_b1 at_b1 ne_b0_b1
        go_wp2
        go_ret
        exact ⟨rfl, HKe.out⟩
end Go.Proofs.YtcnfhndejkngkaaGreatDoor
