import Derived.Test.YtknnidbdgfimbaaRaK
import Derived.Test.YtknnidbdgfimbaaJnL
import Derived.Test.YtknnidbdgfimbaaRaL
import Derived.Test.YtknnidbdgfimbaaRaT
import Derived.Test.YtknnidbdgfimbaaRaU
import Derived.Test.YtknnidbdgfimbaaJnC
section
/- arithmeticabig's ratios: Add, Sub, Cmp. Written by drawn.py. -/
set_option linter.unusedSimpArgs false
set_option linter.unusedVariables false
set_option maxRecDepth 100000
namespace Go.Proofs.Ytknnidbdgfimbaa
open Go.RowKit



theorem cmpZ_mul {P p q : Int} (hq : 0 < q) : cmpZ (P * q) (p * q) = cmpZ P p := by
  unfold cmpZ
  have h1 : P * q < p * q ↔ P < p := ⟨fun h => Int.lt_of_mul_lt_mul_right h (by omega), fun h => Int.mul_lt_mul_of_pos_right h hq⟩
  have h2 : p * q < P * q ↔ p < P := ⟨fun h => Int.lt_of_mul_lt_mul_right h (by omega), fun h => Int.mul_lt_mul_of_pos_right h hq⟩
  simp only [h1, h2]
theorem cmpZ_zero {a b : Int} : cmpZ a b = 0 ↔ a = b := by unfold cmpZ; split <;> (try split) <;> omega

set_option maxHeartbeats 8000000 in
theorem RCmp_any (bx by' : Nat) (P Q p q : Int) (m : Nat) (w : World) (hx : Rt w bx P Q) (hy : Rt w by' p q) (hb : Rb P Q p q m) :
    Calls Try.prog 14 #[.pointer (some ⟨bx, 0, none⟩), .pointer (some ⟨by', 0, none⟩)] w fun e w' => e = .returned (.int .i64 (cmpZ (P * q) (p * Q))) ∧ Below w.heap.size w w' := by
  have bxl := hx.at'.num.lt
  have byl := hy.at'.num.lt
  have HX : Hid (Rt w bx P Q) := hx
  have HY : Hid (Rt w by' p q) := hy
  have HB : Hid (Rb P Q p q m) := hb
  clear hx hy hb
  obtain ⟨C, hC⟩ : ∃ C, C = cmpZ Q q := ⟨_, rfl⟩
  have HC : Hid (C = cmpZ Q q) := hC
  clear hC
  by_cases hc0 : C = 0
  · have hQq : Q = q := cmpZ_zero.1 (HC.out.symm.trans hc0)
    have HE : Hid (cmpZ (P * q) (p * Q) = cmpZ P p) := by show _ = _; rw [hQq]; exact cmpZ_mul HY.out.pos
    have hcb : (C == 0) = true := beq_iff_eq.2 hc0
    clear hc0 hQq
    go_enter Try.func14, Try.ntmps14
    go_wp2_with fail
    refine (den_pos bx P Q w HX.out.at' HX.out.pos).mono ?_
    rintro e w2 ⟨rfl, hw2⟩
    rw [hw2]
    clear hw2 w2
    go_wp2_with fail
    refine (den_pos by' p q w HY.out.at' HY.out.pos).mono ?_
    rintro e w2 ⟨rfl, hw2⟩
    rw [hw2]
    clear hw2 w2
    go_wp2_with fail
    refine (Cmp_at 2 2 bx by' Q q m m w HX.out.at'.den HY.out.at'.den HB.out.Q HB.out.q HB.out.m1.1 HB.out.m1.1).mono ?_
    rw [← HC.out]
    rintro e w2 ⟨rfl, k, hw2⟩
    have HK2 : Hid (Below w.heap.size w w2) := by show Below _ _ _; rw [hw2]; exact below_drewN' (Below.refl _ _)
    clear hw2
    have bx2 : bx < w2.heap.size := Nat.lt_of_lt_of_le bxl HK2.out.size
    have by2 : by' < w2.heap.size := Nat.lt_of_lt_of_le byl HK2.out.size
    have HX2 : Hid (Rt w2 bx P Q) := HX.out.below HK2.out
    have HY2 : Hid (Rt w2 by' p q) := HY.out.below HK2.out
    go_wp2_with fail
    refine wp_region_G (fun w' => bx < w'.heap.size ∧ by' < w'.heap.size) 7 (by kernel_rfl) ⟨by simpa using bx2, by simpa using by2⟩ (fun hHeld => ?_)
    refine wpAnyG_take (i := 0) (v := ?v0x1) rfl (by kernel_rfl) (fun _ _ _ h => h) (Or.inl ⟨by rfl, ?y0x1⟩) hHeld ?r0x1
    case y0x1 => (intro wS hSw; obtain ⟨s1, s2⟩ := hSw; go_simp; try with_reducible rfl)
    try simp only [Act.put, List.setIfInBounds_toArray, List.set_cons_zero, List.set_cons_succ]
    refine wpAnyG_take (i := 1) (v := ?v1x2) rfl (by kernel_rfl) (fun _ _ _ h => h) (Or.inl ⟨by rfl, ?y1x2⟩) hHeld ?r1x2
    case y1x2 => (intro wS hSw; obtain ⟨s1, s2⟩ := hSw; go_simp; try with_reducible rfl)
    try simp only [Act.put, List.setIfInBounds_toArray, List.set_cons_zero, List.set_cons_succ]
    refine wpAnyG_take (i := 2) (v := ?v2x3) rfl (by kernel_rfl) (fun _ _ _ h => h) (Or.inl ⟨by rfl, ?y2x3⟩) hHeld ?r2x3
    case y2x3 => (intro wS hSw; obtain ⟨s1, s2⟩ := hSw; go_simp; try with_reducible rfl)
    try simp only [Act.put, List.setIfInBounds_toArray, List.set_cons_zero, List.set_cons_succ]
    refine wpAnyG_take (i := 3) (v := ?v3x4) rfl (by kernel_rfl) (fun _ _ _ h => h) (Or.inl ⟨by rfl, ?y3x4⟩) hHeld ?r3x4
    case y3x4 => (intro wS hSw; obtain ⟨s1, s2⟩ := hSw; go_simp; try with_reducible rfl)
    try simp only [Act.put, List.setIfInBounds_toArray, List.set_cons_zero, List.set_cons_succ]
    refine wpAnyG_take (i := 4) (v := ?v4x5) rfl (by kernel_rfl) (fun _ _ _ h => h) (Or.inl ⟨by rfl, ?y4x5⟩) hHeld ?r4x5
    case y4x5 => (intro wS hSw; obtain ⟨s1, s2⟩ := hSw; go_simp; try with_reducible rfl)
    try simp only [Act.put, List.setIfInBounds_toArray, List.set_cons_zero, List.set_cons_succ]
    refine wpAnyG_take (i := 5) (v := ?v5x6) rfl (by kernel_rfl) (fun _ _ _ h => h) (Or.inl ⟨by rfl, ?y5x6⟩) hHeld ?r5x6
    case y5x6 => (intro wS hSw; obtain ⟨s1, s2⟩ := hSw; go_simp; try with_reducible rfl)
    try simp only [Act.put, List.setIfInBounds_toArray, List.set_cons_zero, List.set_cons_succ]
    refine wpAnyG_one (i := 6) rfl (by kernel_rfl) (fun K hK => ?_)
    go_simp
    refine (Cmp_at 0 0 bx by' P p m m _ (HX2.out.below (Below.refl _ _).drew).at'.num (HY2.out.below (Below.refl _ _).drew).at'.num HB.out.P HB.out.p HB.out.m1.1 HB.out.m1.1).mono ?_
    rw [← HE.out]
    rintro e w3 ⟨rfl, k3, hw3⟩
    have K3 : Below w.heap.size w w3 := by rw [hw3]; exact below_drewN' HK2.out.drew
    have HK3 : Hid (Below w.heap.size w w3) := K3
    have z3 : bx < w3.heap.size ∧ by' < w3.heap.size := ⟨Nat.lt_of_lt_of_le bxl K3.size, Nat.lt_of_lt_of_le byl K3.size⟩
    clear hw3 hHeld K3
    have hHeld := z3
    refine hK.out _ _ hHeld ?_
    clear hK K
    try simp only [Act.put, List.setIfInBounds_toArray, List.set_cons_zero, List.set_cons_succ]
    refine wpAnyG_last (i := 7) rfl (by kernel_rfl) (by kernel_rfl) (fun K hK => ?_)
    go_simp
    refine hK.out _ _ ?_
    clear hK K
    try simp only [Act.put, List.setIfInBounds_toArray, List.set_cons_zero, List.set_cons_succ]
    refine wpAnyG_done (by kernel_rfl) ?_ _
    go_wp2
    go_ret
    exact ⟨rfl, HK3.out⟩
  · have hcb : (C == 0) = false := beq_eq_false_iff_ne.2 hc0
    clear hc0
    go_enter Try.func14, Try.ntmps14
    go_wp2_with fail
    refine (den_pos bx P Q w HX.out.at' HX.out.pos).mono ?_
    rintro e w2 ⟨rfl, hw2⟩
    rw [hw2]
    clear hw2 w2
    go_wp2_with fail
    refine (den_pos by' p q w HY.out.at' HY.out.pos).mono ?_
    rintro e w2 ⟨rfl, hw2⟩
    rw [hw2]
    clear hw2 w2
    go_wp2_with fail
    refine (Cmp_at 2 2 bx by' Q q m m w HX.out.at'.den HY.out.at'.den HB.out.Q HB.out.q HB.out.m1.1 HB.out.m1.1).mono ?_
    rw [← HC.out]
    rintro e w2 ⟨rfl, k, hw2⟩
    have HK2 : Hid (Below w.heap.size w w2) := by show Below _ _ _; rw [hw2]; exact below_drewN' (Below.refl _ _)
    clear hw2
    have bx2 : bx < w2.heap.size := Nat.lt_of_lt_of_le bxl HK2.out.size
    have by2 : by' < w2.heap.size := Nat.lt_of_lt_of_le byl HK2.out.size
    go_wp2_with fail
    refine wp_region_G (fun w' => bx < w'.heap.size ∧ by' < w'.heap.size) 15 (by kernel_rfl) ⟨by simpa using bx2, by simpa using by2⟩ (fun hHeld => ?_)
    refine wpAnyG_take (i := 1) (v := ?v1x7) rfl (by kernel_rfl) (fun _ _ _ h => h) (Or.inl ⟨by rfl, ?y1x7⟩) hHeld ?r1x7
    case y1x7 => (intro wS hSw; obtain ⟨s1, s2⟩ := hSw; go_simp; try with_reducible rfl)
    try simp only [Act.put, List.setIfInBounds_toArray, List.set_cons_zero, List.set_cons_succ]
    refine wpAnyG_take (i := 2) (v := ?v2x8) rfl (by kernel_rfl) (fun _ _ _ h => h) (Or.inl ⟨by rfl, ?y2x8⟩) hHeld ?r2x8
    case y2x8 => (intro wS hSw; obtain ⟨s1, s2⟩ := hSw; go_simp; try with_reducible rfl)
    try simp only [Act.put, List.setIfInBounds_toArray, List.set_cons_zero, List.set_cons_succ]
    refine wpAnyG_take (i := 3) (v := ?v3x9) rfl (by kernel_rfl) (fun _ _ _ h => h) (Or.inl ⟨by rfl, ?y3x9⟩) hHeld ?r3x9
    case y3x9 => (intro wS hSw; obtain ⟨s1, s2⟩ := hSw; go_simp; try with_reducible rfl)
    try simp only [Act.put, List.setIfInBounds_toArray, List.set_cons_zero, List.set_cons_succ]
    refine wpAnyG_take (i := 4) (v := ?v4x10) rfl (by kernel_rfl) (fun _ _ _ h => h) (Or.inl ⟨by rfl, ?y4x10⟩) hHeld ?r4x10
    case y4x10 => (intro wS hSw; obtain ⟨s1, s2⟩ := hSw; go_simp; try with_reducible rfl)
    try simp only [Act.put, List.setIfInBounds_toArray, List.set_cons_zero, List.set_cons_succ]
    refine wpAnyG_take (i := 8) (v := ?v8x11) rfl (by kernel_rfl) (fun _ _ _ h => h) (Or.inl ⟨by rfl, ?y8x11⟩) hHeld ?r8x11
    case y8x11 => (intro wS hSw; obtain ⟨s1, s2⟩ := hSw; go_simp; try with_reducible rfl)
    try simp only [Act.put, List.setIfInBounds_toArray, List.set_cons_zero, List.set_cons_succ]
    refine wpAnyG_take (i := 9) (v := ?v9x12) rfl (by kernel_rfl) (fun _ _ _ h => h) (Or.inl ⟨by rfl, ?y9x12⟩) hHeld ?r9x12
    case y9x12 => (intro wS hSw; obtain ⟨s1, s2⟩ := hSw; go_simp; try with_reducible rfl)
    try simp only [Act.put, List.setIfInBounds_toArray, List.set_cons_zero, List.set_cons_succ]
    refine wpAnyG_take (i := 10) (v := ?v10x13) rfl (by kernel_rfl) (fun _ _ _ h => h) (Or.inl ⟨by rfl, ?y10x13⟩) hHeld ?r10x13
    case y10x13 => (intro wS hSw; obtain ⟨s1, s2⟩ := hSw; go_simp; try with_reducible rfl)
    try simp only [Act.put, List.setIfInBounds_toArray, List.set_cons_zero, List.set_cons_succ]
    refine wpAnyG_take (i := 11) (v := ?v11x14) rfl (by kernel_rfl) (fun _ _ _ h => h) (Or.inl ⟨by rfl, ?y11x14⟩) hHeld ?r11x14
    case y11x14 => (intro wS hSw; obtain ⟨s1, s2⟩ := hSw; go_simp; try with_reducible rfl)
    try simp only [Act.put, List.setIfInBounds_toArray, List.set_cons_zero, List.set_cons_succ]
    clear hHeld
    refine wpAnyG_inv (fun n l a w1 => (n = 8 ∧ l = #[false, true, true, true, true, false, false, false, true, true, true, true, false, false, false, false] ∧ a = { tmps := #[.pointer (some ⟨bx, 0, none⟩), .pointer (some ⟨by', 0, none⟩), undef, undef, .int .i64 0, .pointer (some ⟨bx, 0, none⟩), .pointer (some ⟨bx, 2, none⟩), .pointer (some ⟨by', 0, none⟩), .pointer (some ⟨by', 2, none⟩), .int .i64 C, .bool false, undef, undef, undef, undef, undef, undef, undef, undef, .pointer (some ⟨bx, 0, none⟩), .pointer (some ⟨bx, 0, none⟩), .pointer (some ⟨bx, 0, none⟩), .pointer (some ⟨by', 0, none⟩), undef, undef, undef, .pointer (some ⟨by', 0, none⟩), .pointer (some ⟨by', 0, none⟩), .pointer (some ⟨by', 0, none⟩), .pointer (some ⟨bx, 0, none⟩), undef, undef, undef], defers := [] } ∧ Hid (Below w.heap.size w w1)) ∨ (∃ b0 : Nat, n = 7 ∧ l = #[true, true, true, true, true, false, false, false, true, true, true, true, false, false, false, false] ∧ a = { tmps := #[.pointer (some ⟨bx, 0, none⟩), .pointer (some ⟨by', 0, none⟩), undef, undef, .int .i64 0, .pointer (some ⟨bx, 0, none⟩), .pointer (some ⟨bx, 2, none⟩), .pointer (some ⟨by', 0, none⟩), .pointer (some ⟨by', 2, none⟩), .int .i64 C, .bool false, undef, undef, undef, undef, undef, undef, undef, .pointer (some ⟨b0, 0, none⟩), .pointer (some ⟨bx, 0, none⟩), .pointer (some ⟨bx, 0, none⟩), .pointer (some ⟨bx, 0, none⟩), .pointer (some ⟨by', 0, none⟩), undef, undef, undef, .pointer (some ⟨by', 0, none⟩), .pointer (some ⟨by', 0, none⟩), .pointer (some ⟨by', 0, none⟩), .pointer (some ⟨bx, 0, none⟩), undef, undef, undef], defers := [] } ∧ Hid (Below w.heap.size w w1 ∧ w.heap.size ≤ b0 ∧ Slot w1 b0)) ∨ (∃ b1 : Nat, n = 7 ∧ l = #[false, true, true, true, true, false, false, true, true, true, true, true, false, false, false, false] ∧ a = { tmps := #[.pointer (some ⟨bx, 0, none⟩), .pointer (some ⟨by', 0, none⟩), undef, undef, .int .i64 0, .pointer (some ⟨bx, 0, none⟩), .pointer (some ⟨bx, 2, none⟩), .pointer (some ⟨by', 0, none⟩), .pointer (some ⟨by', 2, none⟩), .int .i64 C, .bool false, undef, undef, undef, undef, undef, undef, undef, undef, .pointer (some ⟨bx, 0, none⟩), .pointer (some ⟨bx, 0, none⟩), .pointer (some ⟨bx, 0, none⟩), .pointer (some ⟨by', 0, none⟩), undef, undef, .pointer (some ⟨b1, 0, none⟩), .pointer (some ⟨by', 0, none⟩), .pointer (some ⟨by', 0, none⟩), .pointer (some ⟨by', 0, none⟩), .pointer (some ⟨bx, 0, none⟩), undef, undef, undef], defers := [] } ∧ Hid (Below w.heap.size w w1 ∧ w.heap.size ≤ b1 ∧ Slot w1 b1)) ∨ (∃ b0 b1 : Nat, n = 6 ∧ l = #[true, true, true, true, true, false, false, true, true, true, true, true, false, false, false, false] ∧ a = { tmps := #[.pointer (some ⟨bx, 0, none⟩), .pointer (some ⟨by', 0, none⟩), undef, undef, .int .i64 0, .pointer (some ⟨bx, 0, none⟩), .pointer (some ⟨bx, 2, none⟩), .pointer (some ⟨by', 0, none⟩), .pointer (some ⟨by', 2, none⟩), .int .i64 C, .bool false, undef, undef, undef, undef, undef, undef, undef, .pointer (some ⟨b0, 0, none⟩), .pointer (some ⟨bx, 0, none⟩), .pointer (some ⟨bx, 0, none⟩), .pointer (some ⟨bx, 0, none⟩), .pointer (some ⟨by', 0, none⟩), undef, undef, .pointer (some ⟨b1, 0, none⟩), .pointer (some ⟨by', 0, none⟩), .pointer (some ⟨by', 0, none⟩), .pointer (some ⟨by', 0, none⟩), .pointer (some ⟨bx, 0, none⟩), undef, undef, undef], defers := [] } ∧ Hid (Below w.heap.size w w1 ∧ w.heap.size ≤ b0 ∧ Slot w1 b0 ∧ w.heap.size ≤ b1 ∧ Slot w1 b1 ∧ b0 ≠ b1)) ∨ (n = 7 ∧ l = #[false, true, true, true, true, true, false, false, true, true, true, true, false, false, false, false] ∧ a = { tmps := #[.pointer (some ⟨bx, 0, none⟩), .pointer (some ⟨by', 0, none⟩), undef, undef, .int .i64 0, .pointer (some ⟨bx, 0, none⟩), .pointer (some ⟨bx, 2, none⟩), .pointer (some ⟨by', 0, none⟩), .pointer (some ⟨by', 2, none⟩), .int .i64 C, .bool false, undef, undef, undef, undef, undef, undef, undef, undef, .pointer (some ⟨bx, 0, none⟩), .pointer (some ⟨bx, 0, none⟩), .pointer (some ⟨bx, 0, none⟩), .pointer (some ⟨by', 0, none⟩), .pointer (some ⟨by', 2, none⟩), undef, undef, .pointer (some ⟨by', 0, none⟩), .pointer (some ⟨by', 0, none⟩), .pointer (some ⟨by', 0, none⟩), .pointer (some ⟨bx, 0, none⟩), undef, undef, undef], defers := [] } ∧ Hid (Below w.heap.size w w1)) ∨ (∃ b0 : Nat, n = 6 ∧ l = #[true, true, true, true, true, true, false, false, true, true, true, true, false, false, false, false] ∧ a = { tmps := #[.pointer (some ⟨bx, 0, none⟩), .pointer (some ⟨by', 0, none⟩), undef, undef, .int .i64 0, .pointer (some ⟨bx, 0, none⟩), .pointer (some ⟨bx, 2, none⟩), .pointer (some ⟨by', 0, none⟩), .pointer (some ⟨by', 2, none⟩), .int .i64 C, .bool false, undef, undef, undef, undef, undef, undef, undef, .pointer (some ⟨b0, 0, none⟩), .pointer (some ⟨bx, 0, none⟩), .pointer (some ⟨bx, 0, none⟩), .pointer (some ⟨bx, 0, none⟩), .pointer (some ⟨by', 0, none⟩), .pointer (some ⟨by', 2, none⟩), undef, undef, .pointer (some ⟨by', 0, none⟩), .pointer (some ⟨by', 0, none⟩), .pointer (some ⟨by', 0, none⟩), .pointer (some ⟨bx, 0, none⟩), undef, undef, undef], defers := [] } ∧ Hid (Below w.heap.size w w1 ∧ w.heap.size ≤ b0 ∧ Slot w1 b0)) ∨ (∃ b1 : Nat, n = 6 ∧ l = #[false, true, true, true, true, true, false, true, true, true, true, true, false, false, false, false] ∧ a = { tmps := #[.pointer (some ⟨bx, 0, none⟩), .pointer (some ⟨by', 0, none⟩), undef, undef, .int .i64 0, .pointer (some ⟨bx, 0, none⟩), .pointer (some ⟨bx, 2, none⟩), .pointer (some ⟨by', 0, none⟩), .pointer (some ⟨by', 2, none⟩), .int .i64 C, .bool false, undef, undef, undef, undef, undef, undef, undef, undef, .pointer (some ⟨bx, 0, none⟩), .pointer (some ⟨bx, 0, none⟩), .pointer (some ⟨bx, 0, none⟩), .pointer (some ⟨by', 0, none⟩), .pointer (some ⟨by', 2, none⟩), undef, .pointer (some ⟨b1, 0, none⟩), .pointer (some ⟨by', 0, none⟩), .pointer (some ⟨by', 0, none⟩), .pointer (some ⟨by', 0, none⟩), .pointer (some ⟨bx, 0, none⟩), undef, undef, undef], defers := [] } ∧ Hid (Below w.heap.size w w1 ∧ w.heap.size ≤ b1 ∧ Slot w1 b1)) ∨ (∃ b0 b1 : Nat, n = 5 ∧ l = #[true, true, true, true, true, true, false, true, true, true, true, true, false, false, false, false] ∧ a = { tmps := #[.pointer (some ⟨bx, 0, none⟩), .pointer (some ⟨by', 0, none⟩), undef, undef, .int .i64 0, .pointer (some ⟨bx, 0, none⟩), .pointer (some ⟨bx, 2, none⟩), .pointer (some ⟨by', 0, none⟩), .pointer (some ⟨by', 2, none⟩), .int .i64 C, .bool false, undef, undef, undef, undef, undef, undef, undef, .pointer (some ⟨b0, 0, none⟩), .pointer (some ⟨bx, 0, none⟩), .pointer (some ⟨bx, 0, none⟩), .pointer (some ⟨bx, 0, none⟩), .pointer (some ⟨by', 0, none⟩), .pointer (some ⟨by', 2, none⟩), undef, .pointer (some ⟨b1, 0, none⟩), .pointer (some ⟨by', 0, none⟩), .pointer (some ⟨by', 0, none⟩), .pointer (some ⟨by', 0, none⟩), .pointer (some ⟨bx, 0, none⟩), undef, undef, undef], defers := [] } ∧ Hid (Below w.heap.size w w1 ∧ w.heap.size ≤ b0 ∧ Slot w1 b0 ∧ w.heap.size ≤ b1 ∧ Slot w1 b1 ∧ b0 ≠ b1)) ∨ (∃ b0 : Nat, n = 5 ∧ l = #[true, true, true, true, true, true, true, false, true, true, true, true, false, false, false, false] ∧ a = { tmps := #[.pointer (some ⟨bx, 0, none⟩), .pointer (some ⟨by', 0, none⟩), undef, undef, .int .i64 0, .pointer (some ⟨bx, 0, none⟩), .pointer (some ⟨bx, 2, none⟩), .pointer (some ⟨by', 0, none⟩), .pointer (some ⟨by', 2, none⟩), .int .i64 C, .bool false, undef, undef, undef, undef, undef, undef, undef, .pointer (some ⟨b0, 0, none⟩), .pointer (some ⟨bx, 0, none⟩), .pointer (some ⟨bx, 0, none⟩), .pointer (some ⟨bx, 0, none⟩), .pointer (some ⟨by', 0, none⟩), .pointer (some ⟨by', 2, none⟩), .pointer (some ⟨b0, 0, none⟩), undef, .pointer (some ⟨by', 0, none⟩), .pointer (some ⟨by', 0, none⟩), .pointer (some ⟨by', 0, none⟩), .pointer (some ⟨bx, 0, none⟩), undef, undef, undef], defers := [] } ∧ Hid (Below w.heap.size w w1 ∧ w.heap.size ≤ b0 ∧ BigAt w1 b0 (P * q))) ∨ (∃ b0 b1 : Nat, n = 4 ∧ l = #[true, true, true, true, true, true, true, true, true, true, true, true, false, false, false, false] ∧ a = { tmps := #[.pointer (some ⟨bx, 0, none⟩), .pointer (some ⟨by', 0, none⟩), undef, undef, .int .i64 0, .pointer (some ⟨bx, 0, none⟩), .pointer (some ⟨bx, 2, none⟩), .pointer (some ⟨by', 0, none⟩), .pointer (some ⟨by', 2, none⟩), .int .i64 C, .bool false, undef, undef, undef, undef, undef, undef, undef, .pointer (some ⟨b0, 0, none⟩), .pointer (some ⟨bx, 0, none⟩), .pointer (some ⟨bx, 0, none⟩), .pointer (some ⟨bx, 0, none⟩), .pointer (some ⟨by', 0, none⟩), .pointer (some ⟨by', 2, none⟩), .pointer (some ⟨b0, 0, none⟩), .pointer (some ⟨b1, 0, none⟩), .pointer (some ⟨by', 0, none⟩), .pointer (some ⟨by', 0, none⟩), .pointer (some ⟨by', 0, none⟩), .pointer (some ⟨bx, 0, none⟩), undef, undef, undef], defers := [] } ∧ Hid (Below w.heap.size w w1 ∧ w.heap.size ≤ b0 ∧ BigAt w1 b0 (P * q) ∧ w.heap.size ≤ b1 ∧ Slot w1 b1 ∧ b0 ≠ b1)) ∨ (∃ b0 : Nat, n = 4 ∧ l = #[true, true, true, true, true, true, true, false, true, true, true, true, true, false, false, false] ∧ a = { tmps := #[.pointer (some ⟨bx, 0, none⟩), .pointer (some ⟨by', 0, none⟩), undef, undef, .int .i64 0, .pointer (some ⟨bx, 0, none⟩), .pointer (some ⟨bx, 2, none⟩), .pointer (some ⟨by', 0, none⟩), .pointer (some ⟨by', 2, none⟩), .int .i64 C, .bool false, undef, undef, undef, undef, undef, undef, undef, .pointer (some ⟨b0, 0, none⟩), .pointer (some ⟨bx, 0, none⟩), .pointer (some ⟨bx, 0, none⟩), .pointer (some ⟨bx, 0, none⟩), .pointer (some ⟨by', 0, none⟩), .pointer (some ⟨by', 2, none⟩), .pointer (some ⟨b0, 0, none⟩), undef, .pointer (some ⟨by', 0, none⟩), .pointer (some ⟨by', 0, none⟩), .pointer (some ⟨by', 0, none⟩), .pointer (some ⟨bx, 0, none⟩), .pointer (some ⟨bx, 2, none⟩), undef, undef], defers := [] } ∧ Hid (Below w.heap.size w w1 ∧ w.heap.size ≤ b0 ∧ BigAt w1 b0 (P * q))) ∨ (∃ b0 b1 : Nat, n = 3 ∧ l = #[true, true, true, true, true, true, true, true, true, true, true, true, true, false, false, false] ∧ a = { tmps := #[.pointer (some ⟨bx, 0, none⟩), .pointer (some ⟨by', 0, none⟩), undef, undef, .int .i64 0, .pointer (some ⟨bx, 0, none⟩), .pointer (some ⟨bx, 2, none⟩), .pointer (some ⟨by', 0, none⟩), .pointer (some ⟨by', 2, none⟩), .int .i64 C, .bool false, undef, undef, undef, undef, undef, undef, undef, .pointer (some ⟨b0, 0, none⟩), .pointer (some ⟨bx, 0, none⟩), .pointer (some ⟨bx, 0, none⟩), .pointer (some ⟨bx, 0, none⟩), .pointer (some ⟨by', 0, none⟩), .pointer (some ⟨by', 2, none⟩), .pointer (some ⟨b0, 0, none⟩), .pointer (some ⟨b1, 0, none⟩), .pointer (some ⟨by', 0, none⟩), .pointer (some ⟨by', 0, none⟩), .pointer (some ⟨by', 0, none⟩), .pointer (some ⟨bx, 0, none⟩), .pointer (some ⟨bx, 2, none⟩), undef, undef], defers := [] } ∧ Hid (Below w.heap.size w w1 ∧ w.heap.size ≤ b0 ∧ BigAt w1 b0 (P * q) ∧ w.heap.size ≤ b1 ∧ Slot w1 b1 ∧ b0 ≠ b1)) ∨ (∃ b0 b1 : Nat, n = 2 ∧ l = #[true, true, true, true, true, true, true, true, true, true, true, true, true, true, false, false] ∧ a = { tmps := #[.pointer (some ⟨bx, 0, none⟩), .pointer (some ⟨by', 0, none⟩), undef, undef, .int .i64 0, .pointer (some ⟨bx, 0, none⟩), .pointer (some ⟨bx, 2, none⟩), .pointer (some ⟨by', 0, none⟩), .pointer (some ⟨by', 2, none⟩), .int .i64 C, .bool false, undef, undef, undef, undef, undef, undef, undef, .pointer (some ⟨b0, 0, none⟩), .pointer (some ⟨bx, 0, none⟩), .pointer (some ⟨bx, 0, none⟩), .pointer (some ⟨bx, 0, none⟩), .pointer (some ⟨by', 0, none⟩), .pointer (some ⟨by', 2, none⟩), .pointer (some ⟨b0, 0, none⟩), .pointer (some ⟨b1, 0, none⟩), .pointer (some ⟨by', 0, none⟩), .pointer (some ⟨by', 0, none⟩), .pointer (some ⟨by', 0, none⟩), .pointer (some ⟨bx, 0, none⟩), .pointer (some ⟨bx, 2, none⟩), .pointer (some ⟨b1, 0, none⟩), undef], defers := [] } ∧ Hid (Below w.heap.size w w1 ∧ w.heap.size ≤ b0 ∧ BigAt w1 b0 (P * q) ∧ w.heap.size ≤ b1 ∧ BigAt w1 b1 (p * Q) ∧ b0 ≠ b1)) ∨ (∃ b0 b1 : Nat, n = 1 ∧ l = #[true, true, true, true, true, true, true, true, true, true, true, true, true, true, true, false] ∧ a = { tmps := #[.pointer (some ⟨bx, 0, none⟩), .pointer (some ⟨by', 0, none⟩), undef, undef, .int .i64 0, .pointer (some ⟨bx, 0, none⟩), .pointer (some ⟨bx, 2, none⟩), .pointer (some ⟨by', 0, none⟩), .pointer (some ⟨by', 2, none⟩), .int .i64 C, .bool false, undef, undef, undef, undef, undef, undef, undef, .pointer (some ⟨b0, 0, none⟩), .pointer (some ⟨bx, 0, none⟩), .pointer (some ⟨bx, 0, none⟩), .pointer (some ⟨bx, 0, none⟩), .pointer (some ⟨by', 0, none⟩), .pointer (some ⟨by', 2, none⟩), .pointer (some ⟨b0, 0, none⟩), .pointer (some ⟨b1, 0, none⟩), .pointer (some ⟨by', 0, none⟩), .pointer (some ⟨by', 0, none⟩), .pointer (some ⟨by', 0, none⟩), .pointer (some ⟨bx, 0, none⟩), .pointer (some ⟨bx, 2, none⟩), .pointer (some ⟨b1, 0, none⟩), .int .i64 (cmpZ (P * q) (p * Q))], defers := [] } ∧ Hid (Below w.heap.size w w1 ∧ w.heap.size ≤ b0 ∧ BigAt w1 b0 (P * q) ∧ w.heap.size ≤ b1 ∧ BigAt w1 b1 (p * Q) ∧ b0 ≠ b1)) ∨ (∃ b0 b1 : Nat, n = 0 ∧ l = #[true, true, true, true, true, true, true, true, true, true, true, true, true, true, true, true] ∧ a = { tmps := #[.pointer (some ⟨bx, 0, none⟩), .pointer (some ⟨by', 0, none⟩), undef, undef, .int .i64 (cmpZ (P * q) (p * Q)), .pointer (some ⟨bx, 0, none⟩), .pointer (some ⟨bx, 2, none⟩), .pointer (some ⟨by', 0, none⟩), .pointer (some ⟨by', 2, none⟩), .int .i64 C, .bool false, undef, undef, undef, undef, undef, undef, undef, .pointer (some ⟨b0, 0, none⟩), .pointer (some ⟨bx, 0, none⟩), .pointer (some ⟨bx, 0, none⟩), .pointer (some ⟨bx, 0, none⟩), .pointer (some ⟨by', 0, none⟩), .pointer (some ⟨by', 2, none⟩), .pointer (some ⟨b0, 0, none⟩), .pointer (some ⟨b1, 0, none⟩), .pointer (some ⟨by', 0, none⟩), .pointer (some ⟨by', 0, none⟩), .pointer (some ⟨by', 0, none⟩), .pointer (some ⟨bx, 0, none⟩), .pointer (some ⟨bx, 2, none⟩), .pointer (some ⟨b1, 0, none⟩), .int .i64 (cmpZ (P * q) (p * Q))], defers := [] } ∧ Hid (Below w.heap.size w w1 ∧ w.heap.size ≤ b0 ∧ BigAt w1 b0 (P * q) ∧ w.heap.size ≤ b1 ∧ BigAt w1 b1 (p * Q) ∧ b0 ≠ b1))) ?steps _ _ _ _ ?start
    case start => exact Or.inl (⟨rfl, rfl, rfl, HK2.out.drew⟩)
    case steps =>
      intro n l a w1 hI
      rcases hI with hI | hI | hI | hI | hI | hI | hI | hI | hI | hI | hI | hI | hI | hI | hI
      · obtain ⟨rfl, rfl, rfl, HH⟩ := hI
        right
        refine ⟨7, [0, 5, 7], rfl, by kernel_rfl, by simp, fun i hi => ?_⟩
        simp only [List.mem_cons, List.not_mem_nil, or_false] at hi
        rcases hi with rfl | rfl | rfl
        · refine ⟨_, rfl, fun K' hK => ?_⟩
          go_simp
          have K := HH.out
          refine hK.out _ _ (fun _ _ => ⟨Nat.lt_of_lt_of_le bxl ((K.alloc K.size _)).size, Nat.lt_of_lt_of_le byl ((K.alloc K.size _)).size⟩) (Or.inr (Or.inl (⟨w1.heap.size, rfl, rfl, rfl, K.alloc K.size _, K.size, slot_new w1 _ _⟩)))
        · refine ⟨_, rfl, fun K' hK => ?_⟩
          go_simp
          have K := HH.out
          refine (den_pos by' p q w1 (HY.out.below K).at' HY.out.pos).mono ?_
          rintro e w2 ⟨rfl, hw2⟩
          rw [hw2]
          clear hw2 w2
          refine hK.out _ _ (fun _ _ => ⟨Nat.lt_of_lt_of_le bxl (K).size, Nat.lt_of_lt_of_le byl (K).size⟩) (Or.inr (Or.inr (Or.inr (Or.inr (Or.inl (⟨rfl, rfl, rfl, K⟩))))))
        · refine ⟨_, rfl, fun K' hK => ?_⟩
          go_simp
          have K := HH.out
          refine hK.out _ _ (fun _ _ => ⟨Nat.lt_of_lt_of_le bxl ((K.alloc K.size _)).size, Nat.lt_of_lt_of_le byl ((K.alloc K.size _)).size⟩) (Or.inr (Or.inr (Or.inl (⟨w1.heap.size, rfl, rfl, rfl, K.alloc K.size _, K.size, slot_new w1 _ _⟩))))
      · obtain ⟨b0, rfl, rfl, rfl, HH⟩ := hI
        right
        refine ⟨6, [5, 7], rfl, by kernel_rfl, by simp, fun i hi => ?_⟩
        simp only [List.mem_cons, List.not_mem_nil, or_false] at hi
        rcases hi with rfl | rfl
        · refine ⟨_, rfl, fun K' hK => ?_⟩
          go_simp
          obtain ⟨K, ge_b0, at_b0⟩ := HH.out
          refine (den_pos by' p q w1 (HY.out.below K).at' HY.out.pos).mono ?_
          rintro e w2 ⟨rfl, hw2⟩
          rw [hw2]
          clear hw2 w2
          refine hK.out _ _ (fun _ _ => ⟨Nat.lt_of_lt_of_le bxl (K).size, Nat.lt_of_lt_of_le byl (K).size⟩) (Or.inr (Or.inr (Or.inr (Or.inr (Or.inr (Or.inl (⟨b0, rfl, rfl, rfl, K, ge_b0, at_b0⟩)))))))
        · refine ⟨_, rfl, fun K' hK => ?_⟩
          go_simp
          obtain ⟨K, ge_b0, at_b0⟩ := HH.out
          refine hK.out _ _ (fun _ _ => ⟨Nat.lt_of_lt_of_le bxl ((K.alloc K.size _)).size, Nat.lt_of_lt_of_le byl ((K.alloc K.size _)).size⟩) (Or.inr (Or.inr (Or.inr (Or.inl (⟨b0, w1.heap.size, rfl, rfl, rfl, K.alloc K.size _, ge_b0, at_b0.below (Below.alloc_self' w1 _) (Nat.le_refl _), K.size, slot_new w1 _ _, (Nat.ne_of_lt at_b0.lt)⟩)))))
      · obtain ⟨b1, rfl, rfl, rfl, HH⟩ := hI
        right
        refine ⟨6, [0, 5], rfl, by kernel_rfl, by simp, fun i hi => ?_⟩
        simp only [List.mem_cons, List.not_mem_nil, or_false] at hi
        rcases hi with rfl | rfl
        · refine ⟨_, rfl, fun K' hK => ?_⟩
          go_simp
          obtain ⟨K, ge_b1, at_b1⟩ := HH.out
          refine hK.out _ _ (fun _ _ => ⟨Nat.lt_of_lt_of_le bxl ((K.alloc K.size _)).size, Nat.lt_of_lt_of_le byl ((K.alloc K.size _)).size⟩) (Or.inr (Or.inr (Or.inr (Or.inl (⟨w1.heap.size, b1, rfl, rfl, rfl, K.alloc K.size _, K.size, slot_new w1 _ _, ge_b1, at_b1.below (Below.alloc_self' w1 _) (Nat.le_refl _), (Nat.ne_of_gt at_b1.lt)⟩)))))
        · refine ⟨_, rfl, fun K' hK => ?_⟩
          go_simp
          obtain ⟨K, ge_b1, at_b1⟩ := HH.out
          refine (den_pos by' p q w1 (HY.out.below K).at' HY.out.pos).mono ?_
          rintro e w2 ⟨rfl, hw2⟩
          rw [hw2]
          clear hw2 w2
          refine hK.out _ _ (fun _ _ => ⟨Nat.lt_of_lt_of_le bxl (K).size, Nat.lt_of_lt_of_le byl (K).size⟩) (Or.inr (Or.inr (Or.inr (Or.inr (Or.inr (Or.inr (Or.inl (⟨b1, rfl, rfl, rfl, K, ge_b1, at_b1⟩))))))))
      · obtain ⟨b0, b1, rfl, rfl, rfl, HH⟩ := hI
        right
        refine ⟨5, [5], rfl, by kernel_rfl, by simp, fun i hi => ?_⟩
        simp only [List.mem_cons, List.not_mem_nil, or_false] at hi
        subst hi
        refine ⟨_, rfl, fun K' hK => ?_⟩
        go_simp
        obtain ⟨K, ge_b0, at_b0, ge_b1, at_b1, ne_b0_b1⟩ := HH.out
        refine (den_pos by' p q w1 (HY.out.below K).at' HY.out.pos).mono ?_
        rintro e w2 ⟨rfl, hw2⟩
        rw [hw2]
        clear hw2 w2
        refine hK.out _ _ (fun _ _ => ⟨Nat.lt_of_lt_of_le bxl (K).size, Nat.lt_of_lt_of_le byl (K).size⟩) (Or.inr (Or.inr (Or.inr (Or.inr (Or.inr (Or.inr (Or.inr (Or.inl (⟨b0, b1, rfl, rfl, rfl, K, ge_b0, at_b0, ge_b1, at_b1, ne_b0_b1⟩)))))))))
      · obtain ⟨rfl, rfl, rfl, HH⟩ := hI
        right
        refine ⟨6, [0, 7], rfl, by kernel_rfl, by simp, fun i hi => ?_⟩
        simp only [List.mem_cons, List.not_mem_nil, or_false] at hi
        rcases hi with rfl | rfl
        · refine ⟨_, rfl, fun K' hK => ?_⟩
          go_simp
          have K := HH.out
          refine hK.out _ _ (fun _ _ => ⟨Nat.lt_of_lt_of_le bxl ((K.alloc K.size _)).size, Nat.lt_of_lt_of_le byl ((K.alloc K.size _)).size⟩) (Or.inr (Or.inr (Or.inr (Or.inr (Or.inr (Or.inl (⟨w1.heap.size, rfl, rfl, rfl, K.alloc K.size _, K.size, slot_new w1 _ _⟩)))))))
        · refine ⟨_, rfl, fun K' hK => ?_⟩
          go_simp
          have K := HH.out
          refine hK.out _ _ (fun _ _ => ⟨Nat.lt_of_lt_of_le bxl ((K.alloc K.size _)).size, Nat.lt_of_lt_of_le byl ((K.alloc K.size _)).size⟩) (Or.inr (Or.inr (Or.inr (Or.inr (Or.inr (Or.inr (Or.inl (⟨w1.heap.size, rfl, rfl, rfl, K.alloc K.size _, K.size, slot_new w1 _ _⟩))))))))
      · obtain ⟨b0, rfl, rfl, rfl, HH⟩ := hI
        right
        refine ⟨5, [6, 7], rfl, by kernel_rfl, by simp, fun i hi => ?_⟩
        simp only [List.mem_cons, List.not_mem_nil, or_false] at hi
        rcases hi with rfl | rfl
        · refine ⟨_, rfl, fun K' hK => ?_⟩
          go_simp
          obtain ⟨K, ge_b0, at_b0⟩ := HH.out
          refine (Mul_at 0 2 b0 bx by' P q m m w1 at_b0 (HX.out.below K).at'.num (HY.out.below K).at'.den HB.out.P HB.out.q HB.out.m1.1 HB.out.m1.1).mono ?_
          rintro e w2 ⟨rfl, h2, u2⟩
          refine hK.out _ _ (fun _ _ => ⟨Nat.lt_of_lt_of_le bxl ((K.trans (u2.below K.size ge_b0))).size, Nat.lt_of_lt_of_le byl ((K.trans (u2.below K.size ge_b0))).size⟩) (Or.inr (Or.inr (Or.inr (Or.inr (Or.inr (Or.inr (Or.inr (Or.inr (Or.inl (⟨b0, rfl, rfl, rfl, (K.trans (u2.below K.size ge_b0)), ge_b0, h2⟩))))))))))
        · refine ⟨_, rfl, fun K' hK => ?_⟩
          go_simp
          obtain ⟨K, ge_b0, at_b0⟩ := HH.out
          refine hK.out _ _ (fun _ _ => ⟨Nat.lt_of_lt_of_le bxl ((K.alloc K.size _)).size, Nat.lt_of_lt_of_le byl ((K.alloc K.size _)).size⟩) (Or.inr (Or.inr (Or.inr (Or.inr (Or.inr (Or.inr (Or.inr (Or.inl (⟨b0, w1.heap.size, rfl, rfl, rfl, K.alloc K.size _, ge_b0, at_b0.below (Below.alloc_self' w1 _) (Nat.le_refl _), K.size, slot_new w1 _ _, (Nat.ne_of_lt at_b0.lt)⟩)))))))))
      · obtain ⟨b1, rfl, rfl, rfl, HH⟩ := hI
        right
        refine ⟨5, [0], rfl, by kernel_rfl, by simp, fun i hi => ?_⟩
        simp only [List.mem_cons, List.not_mem_nil, or_false] at hi
        subst hi
        refine ⟨_, rfl, fun K' hK => ?_⟩
        go_simp
        obtain ⟨K, ge_b1, at_b1⟩ := HH.out
        refine hK.out _ _ (fun _ _ => ⟨Nat.lt_of_lt_of_le bxl ((K.alloc K.size _)).size, Nat.lt_of_lt_of_le byl ((K.alloc K.size _)).size⟩) (Or.inr (Or.inr (Or.inr (Or.inr (Or.inr (Or.inr (Or.inr (Or.inl (⟨w1.heap.size, b1, rfl, rfl, rfl, K.alloc K.size _, K.size, slot_new w1 _ _, ge_b1, at_b1.below (Below.alloc_self' w1 _) (Nat.le_refl _), (Nat.ne_of_gt at_b1.lt)⟩)))))))))
      · obtain ⟨b0, b1, rfl, rfl, rfl, HH⟩ := hI
        right
        refine ⟨4, [6], rfl, by kernel_rfl, by simp, fun i hi => ?_⟩
        simp only [List.mem_cons, List.not_mem_nil, or_false] at hi
        subst hi
        refine ⟨_, rfl, fun K' hK => ?_⟩
        go_simp
        obtain ⟨K, ge_b0, at_b0, ge_b1, at_b1, ne_b0_b1⟩ := HH.out
        refine (Mul_at 0 2 b0 bx by' P q m m w1 at_b0 (HX.out.below K).at'.num (HY.out.below K).at'.den HB.out.P HB.out.q HB.out.m1.1 HB.out.m1.1).mono ?_
        rintro e w2 ⟨rfl, h2, u2⟩
        refine hK.out _ _ (fun _ _ => ⟨Nat.lt_of_lt_of_le bxl ((K.trans (u2.below K.size ge_b0))).size, Nat.lt_of_lt_of_le byl ((K.trans (u2.below K.size ge_b0))).size⟩) (Or.inr (Or.inr (Or.inr (Or.inr (Or.inr (Or.inr (Or.inr (Or.inr (Or.inr (Or.inl (⟨b0, b1, rfl, rfl, rfl, (K.trans (u2.below K.size ge_b0)), ge_b0, h2, ge_b1, at_b1.upd u2 (Ne.symm ne_b0_b1), ne_b0_b1⟩)))))))))))
      · obtain ⟨b0, rfl, rfl, rfl, HH⟩ := hI
        right
        refine ⟨4, [7, 12], rfl, by kernel_rfl, by simp, fun i hi => ?_⟩
        simp only [List.mem_cons, List.not_mem_nil, or_false] at hi
        rcases hi with rfl | rfl
        · refine ⟨_, rfl, fun K' hK => ?_⟩
          go_simp
          obtain ⟨K, ge_b0, at_b0⟩ := HH.out
          refine hK.out _ _ (fun _ _ => ⟨Nat.lt_of_lt_of_le bxl ((K.alloc K.size _)).size, Nat.lt_of_lt_of_le byl ((K.alloc K.size _)).size⟩) (Or.inr (Or.inr (Or.inr (Or.inr (Or.inr (Or.inr (Or.inr (Or.inr (Or.inr (Or.inl (⟨b0, w1.heap.size, rfl, rfl, rfl, K.alloc K.size _, ge_b0, at_b0.below (Below.alloc_self' w1 _) (Nat.le_refl _), K.size, slot_new w1 _ _, (Nat.ne_of_lt at_b0.lt)⟩)))))))))))
        · refine ⟨_, rfl, fun K' hK => ?_⟩
          go_simp
          obtain ⟨K, ge_b0, at_b0⟩ := HH.out
          refine (den_pos bx P Q w1 (HX.out.below K).at' HX.out.pos).mono ?_
          rintro e w2 ⟨rfl, hw2⟩
          rw [hw2]
          clear hw2 w2
          refine hK.out _ _ (fun _ _ => ⟨Nat.lt_of_lt_of_le bxl (K).size, Nat.lt_of_lt_of_le byl (K).size⟩) (Or.inr (Or.inr (Or.inr (Or.inr (Or.inr (Or.inr (Or.inr (Or.inr (Or.inr (Or.inr (Or.inl (⟨b0, rfl, rfl, rfl, K, ge_b0, at_b0⟩))))))))))))
      · obtain ⟨b0, b1, rfl, rfl, rfl, HH⟩ := hI
        right
        refine ⟨3, [12], rfl, by kernel_rfl, by simp, fun i hi => ?_⟩
        simp only [List.mem_cons, List.not_mem_nil, or_false] at hi
        subst hi
        refine ⟨_, rfl, fun K' hK => ?_⟩
        go_simp
        obtain ⟨K, ge_b0, at_b0, ge_b1, at_b1, ne_b0_b1⟩ := HH.out
        refine (den_pos bx P Q w1 (HX.out.below K).at' HX.out.pos).mono ?_
        rintro e w2 ⟨rfl, hw2⟩
        rw [hw2]
        clear hw2 w2
        refine hK.out _ _ (fun _ _ => ⟨Nat.lt_of_lt_of_le bxl (K).size, Nat.lt_of_lt_of_le byl (K).size⟩) (Or.inr (Or.inr (Or.inr (Or.inr (Or.inr (Or.inr (Or.inr (Or.inr (Or.inr (Or.inr (Or.inr (Or.inl (⟨b0, b1, rfl, rfl, rfl, K, ge_b0, at_b0, ge_b1, at_b1, ne_b0_b1⟩)))))))))))))
      · obtain ⟨b0, rfl, rfl, rfl, HH⟩ := hI
        right
        refine ⟨3, [7], rfl, by kernel_rfl, by simp, fun i hi => ?_⟩
        simp only [List.mem_cons, List.not_mem_nil, or_false] at hi
        subst hi
        refine ⟨_, rfl, fun K' hK => ?_⟩
        go_simp
        obtain ⟨K, ge_b0, at_b0⟩ := HH.out
        refine hK.out _ _ (fun _ _ => ⟨Nat.lt_of_lt_of_le bxl ((K.alloc K.size _)).size, Nat.lt_of_lt_of_le byl ((K.alloc K.size _)).size⟩) (Or.inr (Or.inr (Or.inr (Or.inr (Or.inr (Or.inr (Or.inr (Or.inr (Or.inr (Or.inr (Or.inr (Or.inl (⟨b0, w1.heap.size, rfl, rfl, rfl, K.alloc K.size _, ge_b0, at_b0.below (Below.alloc_self' w1 _) (Nat.le_refl _), K.size, slot_new w1 _ _, (Nat.ne_of_lt at_b0.lt)⟩)))))))))))))
      · obtain ⟨b0, b1, rfl, rfl, rfl, HH⟩ := hI
        right
        refine ⟨2, [13], rfl, by kernel_rfl, by simp, fun i hi => ?_⟩
        simp only [List.mem_cons, List.not_mem_nil, or_false] at hi
        subst hi
        refine ⟨_, rfl, fun K' hK => ?_⟩
        go_simp
        obtain ⟨K, ge_b0, at_b0, ge_b1, at_b1, ne_b0_b1⟩ := HH.out
        refine (Mul_at 0 2 b1 by' bx p Q m m w1 at_b1 (HY.out.below K).at'.num (HX.out.below K).at'.den HB.out.p HB.out.Q HB.out.m1.1 HB.out.m1.1).mono ?_
        rintro e w2 ⟨rfl, h2, u2⟩
        refine hK.out _ _ (fun _ _ => ⟨Nat.lt_of_lt_of_le bxl ((K.trans (u2.below K.size ge_b1))).size, Nat.lt_of_lt_of_le byl ((K.trans (u2.below K.size ge_b1))).size⟩) (Or.inr (Or.inr (Or.inr (Or.inr (Or.inr (Or.inr (Or.inr (Or.inr (Or.inr (Or.inr (Or.inr (Or.inr (Or.inl (⟨b0, b1, rfl, rfl, rfl, (K.trans (u2.below K.size ge_b1)), ge_b0, at_b0.upd u2 at_b1 ne_b0_b1, ge_b1, h2, ne_b0_b1⟩))))))))))))))
      · obtain ⟨b0, b1, rfl, rfl, rfl, HH⟩ := hI
        right
        refine ⟨1, [14], rfl, by kernel_rfl, by simp, fun i hi => ?_⟩
        simp only [List.mem_cons, List.not_mem_nil, or_false] at hi
        subst hi
        refine ⟨_, rfl, fun K' hK => ?_⟩
        go_simp
        obtain ⟨K, ge_b0, at_b0, ge_b1, at_b1, ne_b0_b1⟩ := HH.out
        refine (Cmp_any b0 b1 (P * q) (p * Q) (m + m) (m + m) w1 at_b0 at_b1 (mul_pw HB.out.P HB.out.q) (mul_pw HB.out.p HB.out.Q) HB.out.m1.2.1 HB.out.m1.2.1).mono ?_
        rintro e w2 ⟨rfl, kq, hw2⟩
        rw [hw2]
        clear hw2 w2
        refine hK.out _ _ (fun _ _ => ⟨Nat.lt_of_lt_of_le bxl ((below_drewN' K)).size, Nat.lt_of_lt_of_le byl ((below_drewN' K)).size⟩) (Or.inr (Or.inr (Or.inr (Or.inr (Or.inr (Or.inr (Or.inr (Or.inr (Or.inr (Or.inr (Or.inr (Or.inr (Or.inr (Or.inl (⟨b0, b1, rfl, rfl, rfl, (below_drewN' K), ge_b0, at_b0.below (below_drewN' (Below.refl w1.heap.size w1)) (Nat.le_refl _), ge_b1, at_b1.below (below_drewN' (Below.refl w1.heap.size w1)) (Nat.le_refl _), ne_b0_b1⟩)))))))))))))))
      · obtain ⟨b0, b1, rfl, rfl, rfl, HH⟩ := hI
        right
        refine ⟨0, [15], rfl, by kernel_rfl, by simp, fun i hi => ?_⟩
        simp only [List.mem_cons, List.not_mem_nil, or_false] at hi
        subst hi
        refine ⟨_, rfl, fun K' hK => ?_⟩
        go_simp
        obtain ⟨K, ge_b0, at_b0, ge_b1, at_b1, ne_b0_b1⟩ := HH.out
        refine hK.out _ _ (fun _ h => absurd rfl h) (Or.inr (Or.inr (Or.inr (Or.inr (Or.inr (Or.inr (Or.inr (Or.inr (Or.inr (Or.inr (Or.inr (Or.inr (Or.inr (Or.inr (⟨b0, b1, rfl, rfl, rfl, K, ge_b0, at_b0, ge_b1, at_b1, ne_b0_b1⟩)))))))))))))))
      · obtain ⟨b0, b1, rfl, rfl, rfl, HH⟩ := hI
        obtain ⟨K, ge_b0, at_b0, ge_b1, at_b1, ne_b0_b1⟩ := HH.out
        left
        refine ⟨by kernel_rfl, ?_⟩
        have HKe : Hid (Below w.heap.size w w1) := K
        clear HH K ge_b0 at_b0 ge_b1 at_b1 ne_b0_b1
        go_wp2
        go_ret
        exact ⟨rfl, HKe.out⟩

end Go.Proofs.Ytknnidbdgfimbaa
end

section
/- Ratios that stand. -/
set_option linter.unusedSimpArgs false
set_option linter.unusedVariables false
set_option maxRecDepth 100000
namespace Go.Proofs.Ytknnidbdgfimbaa
open Go.RowKit

theorem Rt.updR {w w' : World} {b z : Nat} {P Q : Int} (h : Rt w b P Q) (u : Upd z w w') (hz : RSlot w z) (hne : b ≠ z) : Rt w' b P Q := by
  obtain ⟨⟨s, t, h1, h2, h3⟩, h4, h5⟩ := h
  obtain ⟨x0, x1, x2, x3, hc⟩ := hz
  exact ⟨⟨s, t, (u.block b h1.lt hne).trans h1, h2.updR u hc, h3.updR u hc⟩, h4, h5⟩
theorem RSlot.updR {w w' : World} {b z : Nat} (h : RSlot w b) (u : Upd z w w') (hne : b ≠ z) : RSlot w' b := by
  obtain ⟨x0, x1, x2, x3, hc⟩ := h
  exact ⟨x0, x1, x2, x3, (u.block b hc.lt hne).trans hc⟩

/-- Ratios and fresh places for them that stand, and that nothing under B has turned. -/
structure Rk (w0 w : World) (B : Nat) (L : List (Nat × Int × Int)) (F : List Nat) : Prop where
  bel : Below B w0 w
  le : B ≤ w.heap.size
  rat : ∀ p ∈ L, Rt w p.1 p.2.1 p.2.2
  fr : ∀ b ∈ F, RSlot w b
theorem Rk.alloc {w0 w : World} {B : Nat} {L : List (Nat × Int × Int)} {F : List Nat} (h : Rk w0 w B L F) (x0 x1 x2 x3 : Value) : Rk w0 (w.alloc (.cells #[x0, x1, x2, x3] 59)) B L (w.heap.size :: F) :=
  ⟨h.bel.alloc h.le _, Nat.le_trans h.le (by simp), fun p hp => (h.rat p hp).below (Below.alloc_self' w _), fun b hb => by
    rcases List.mem_cons.1 hb with h1 | h1
    · subst h1; exact RSlot.new w x0 x1 x2 x3
    · exact (h.fr b h1).below (Below.alloc_self' w _)⟩
theorem Rk.below {w0 w w' : World} {B : Nat} {L : List (Nat × Int × Int)} {F : List Nat} (h : Rk w0 w B L F) (k : Below w.heap.size w w') : Rk w0 w' B L F :=
  ⟨h.bel.trans (k.mono h.le), Nat.le_trans h.le k.size, fun p hp => (h.rat p hp).below k, fun b hb => (h.fr b hb).below k⟩
theorem Rk.upd {w0 w w' : World} {B z : Nat} {P Q : Int} {L L' : List (Nat × Int × Int)} {F F' : List Nat} (h : Rk w0 w B L F) (hz : RSlot w z) (hB : B ≤ z) (hx : Rt w' z P Q) (u : Upd z w w') (hL : ∀ p ∈ L', p ∈ L ∧ p.1 ≠ z) (hF : ∀ f ∈ F', f ∈ F ∧ f ≠ z) : Rk w0 w' B ((z, P, Q) :: L') F' :=
  ⟨h.bel.trans (u.below h.le hB), Nat.le_trans h.le u.size, fun p hp => by
    rcases List.mem_cons.1 hp with h1 | h1
    · subst h1; exact hx
    · exact (h.rat p (hL p h1).1).updR u hz (hL p h1).2, fun c hc => (h.fr c (hF c hc).1).updR u (hF c hc).2⟩

end Go.Proofs.Ytknnidbdgfimbaa
end

section
/- arithmeticabig's ratios: NewRat, Sign. -/
set_option linter.unusedSimpArgs false
set_option linter.unusedVariables false
set_option maxRecDepth 100000
namespace Go.Proofs.Ytknnidbdgfimbaa
open Go.RowKit

set_option maxHeartbeats 2000000 in
/-- A whole number as a ratio: above 0, below 2^31. -/
theorem NewRat_small (n : Nat) (w : World) (h1 : 1 ≤ n) (h2 : n < 1000) :
    Calls Try.prog 30 #[.int .i64 n, .int .i64 1] w fun e w' => ∃ b, e = .returned (.pointer (some ⟨b, 0, none⟩)) ∧ w.heap.size ≤ b ∧ Rt w' b n 1 ∧ Below w.heap.size w w' := by
  go_enter Try.func30, Try.ntmps30
  go_wp2_with fail
  have HR0 : Hid (RSlot (w.alloc (.cells #[.bool false, .slice none 0 0, .bool false, .slice none 0 0] 59)) w.heap.size) := RSlot.new w _ _ _ _
  have K0 : Below w.heap.size w (w.alloc (.cells #[.bool false, .slice none 0 0, .bool false, .slice none 0 0] 59)) := (Below.refl _ _).alloc (Nat.le_refl _) _
  refine (NewInt_any (n : Int) _ (by omega) (by omega)).mono ?_
  rintro e w1 ⟨b1, rfl, m1⟩
  have HR1 : Hid (RSlot w1 w.heap.size ∧ BigAt w1 b1 n ∧ Below w.heap.size w w1) := ⟨HR0.out.below m1.2.2, m1.2.1, K0.trans (m1.2.2.mono (by simp))⟩
  clear m1 HR0 K0
  go_wp2_with fail
  refine (NewInt_any 1 _ (by omega) (by omega)).mono ?_
  rintro e w2 ⟨b2, rfl, m2⟩
  have HR2 : Hid (RSlot w2 w.heap.size ∧ BigAt w2 b1 n ∧ BigAt w2 b2 1 ∧ Below w.heap.size w w2) := ⟨HR1.out.1.below m2.2.2, HR1.out.2.1.below m2.2.2 (Nat.le_refl _), m2.2.1, HR1.out.2.2.trans (m2.2.2.mono HR1.out.2.2.size)⟩
  clear m2 HR1
  go_wp2_with fail
  refine (SetFrac_pos w.heap.size b1 0 b2 0 n 1 1 w2 HR2.out.1 HR2.out.2.1.at HR2.out.2.2.1.at (by decide) (by show (n : Int).natAbs < pw 1; rw [show pw 1 = 4294967296 from rfl]; omega) (by decide) (by decide)).mono ?_
  rintro e w3 ⟨rfl, P, Q, r1, r2, r3, r4, r5, r6, u3⟩
  have HE : Hid (Rt w3 w.heap.size n 1 ∧ Below w.heap.size w w3) := by
    obtain ⟨e1, e2⟩ := low_uniq r2 (show (0 : Int) < 1 by decide) r3 r4 (by simp)
    subst e1 e2
    exact ⟨⟨r1, r2, r4⟩, HR2.out.2.2.2.trans (u3.below HR2.out.2.2.2.size (Nat.le_refl _))⟩
  clear r1 r2 r3 r4 r5 r6 u3 HR2
  go_wp2
  go_ret
  exact ⟨w.heap.size, rfl, Nat.le_refl _, HE.out⟩

theorem Sign_at (bx : Nat) (x : Int) (w : World) (hx : IntAt w bx 0 x) :
    Calls Try.prog 49 #[.pointer (some ⟨bx, 0, none⟩)] w fun e w' => e = .returned (.int .i64 x.sign) ∧ w' = w := by
  obtain ⟨xa, xl, xc, cx0, cx1, nx, hl⟩ := hx.open
  clear hx nx
  rcases Int.lt_trichotomy x 0 with h | h | h
  · have h0 : ((xl : Int) == 0) = false := beq_eq_false_iff_ne.2 (by omega)
    simp only [h, decide_true] at cx0
    clear hl
    go_enter Try.func49, Try.ntmps49
    go_wp2
    go_ret
    exact ⟨ret_int (Int.sign_eq_neg_one_of_neg h).symm, rfl⟩
  · subst h
    have h0 : ((xl : Int) == 0) = true := beq_iff_eq.2 (by omega)
    clear hl
    go_enter Try.func49, Try.ntmps49
    go_wp2
    go_ret
    exact ⟨ret_int rfl, rfl⟩
  · have h0 : ((xl : Int) == 0) = false := beq_eq_false_iff_ne.2 (by omega)
    have h1 : ¬ x < 0 := by omega
    simp only [h1, decide_false] at cx0
    clear hl
    go_enter Try.func49, Try.ntmps49
    go_wp2
    go_ret
    exact ⟨ret_int (Int.sign_eq_one_of_pos h).symm, rfl⟩

set_option maxHeartbeats 2000000 in
theorem RSign_any (b : Nat) (P Q : Int) (w : World) (hx : Rt w b P Q) :
    Calls Try.prog 28 #[.pointer (some ⟨b, 0, none⟩)] w fun e w' => e = .returned (.int .i64 P.sign) ∧ w' = w := by
  have hl := hx.at'.num.lt
  have HX : Hid (Rt w b P Q) := hx
  clear hx
  go_enter Try.func28, Try.ntmps28
  go_wp2_with fail
  refine (Sign_at b P w HX.out.at'.num).mono ?_
  rintro e w1 ⟨rfl, hw⟩
  rw [hw]
  clear hw w1
  go_wp2
  go_ret
  exact ⟨rfl, rfl⟩

end Go.Proofs.Ytknnidbdgfimbaa
end

section
/- arithmeticabig's ratios by their values: Rv. -/
set_option linter.unusedSimpArgs false
set_option linter.unusedVariables false
set_option maxRecDepth 100000
namespace Go.Proofs.Ytknnidbdgfimbaa
open Go.RowKit

/-- The block holds a ratio of this value; its two numbers have at most m words. -/
def Rv (w : World) (b : Nat) (v : Rat) (m : Nat) : Prop := ∃ P Q : Int, Rt w b P Q ∧ (P : Rat) / (Q : Rat) = v ∧ P.natAbs < pw m ∧ Q.natAbs < pw m
theorem Rv.rslot {w : World} {b : Nat} {v : Rat} {m : Nat} (h : Rv w b v m) : RSlot w b := by obtain ⟨P, Q, h, _⟩ := h; exact h.at'.rslot
theorem Rv.lt {w : World} {b : Nat} {v : Rat} {m : Nat} (h : Rv w b v m) : b < w.heap.size := h.rslot.lt
theorem Rv.below {w w' : World} {b : Nat} {v : Rat} {m : Nat} (h : Rv w b v m) (k : Below w.heap.size w w') : Rv w' b v m := by
  obtain ⟨P, Q, h, r⟩ := h; exact ⟨P, Q, h.below k, r⟩
theorem Rv.updR {w w' : World} {b z : Nat} {v : Rat} {m : Nat} (h : Rv w b v m) (u : Upd z w w') (hz : RSlot w z) (hne : b ≠ z) : Rv w' b v m := by
  obtain ⟨P, Q, h, r⟩ := h; exact ⟨P, Q, h.updR u hz hne, r⟩
theorem Rv.le {w : World} {b : Nat} {v : Rat} {m n : Nat} (h : Rv w b v m) (hm : m ≤ n) : Rv w b v n := by
  obtain ⟨P, Q, h, r1, r2, r3⟩ := h; exact ⟨P, Q, h, r1, Nat.lt_of_lt_of_le r2 (pw_le hm), Nat.lt_of_lt_of_le r3 (pw_le hm)⟩
theorem rcast {a b : Int} (h : a = b) : (a : Rat) = (b : Rat) := by rw [h]
theorem rne {a : Int} (h : a ≠ 0) : (a : Rat) ≠ 0 := fun e => h (Rat.intCast_eq_zero_iff.1 e)
theorem rv_sub {A B P Q p q : Int} (hB : 0 < B) (hQ : 0 < Q) (hq : 0 < q) (h : A * (Q * q) = (P * q - p * Q) * B) : (A : Rat) / B = (P : Rat) / Q - (p : Rat) / q := by
  have h' := rcast h
  simp only [Rat.intCast_mul, Rat.intCast_sub] at h'
  have := rne (show B ≠ 0 by omega); have := rne (show Q ≠ 0 by omega); have := rne (show q ≠ 0 by omega)
  grind
theorem rv_add {A B P Q p q : Int} (hB : 0 < B) (hQ : 0 < Q) (hq : 0 < q) (h : A * (Q * q) = (P * q + p * Q) * B) : (A : Rat) / B = (P : Rat) / Q + (p : Rat) / q := by
  have h' := rcast h
  simp only [Rat.intCast_mul, Rat.intCast_add] at h'
  have := rne (show B ≠ 0 by omega); have := rne (show Q ≠ 0 by omega); have := rne (show q ≠ 0 by omega)
  grind
theorem rv_mul {A B P Q p q : Int} (hB : 0 < B) (hQ : 0 < Q) (hq : 0 < q) (h : A * (Q * q) = (P * p) * B) : (A : Rat) / B = (P : Rat) / Q * ((p : Rat) / q) := by
  have h' := rcast h
  simp only [Rat.intCast_mul] at h'
  have := rne (show B ≠ 0 by omega); have := rne (show Q ≠ 0 by omega); have := rne (show q ≠ 0 by omega)
  grind
theorem rv_quo {A B P Q p q : Int} (hB : 0 < B) (hQ : 0 < Q) (hq : 0 < q) (hp : p ≠ 0) (h : A * (Q * p) = (P * q) * B) : (A : Rat) / B = (P : Rat) / Q / ((p : Rat) / q) := by
  have h' := rcast h
  simp only [Rat.intCast_mul] at h'
  have := rne (show B ≠ 0 by omega); have := rne (show Q ≠ 0 by omega); have := rne (show q ≠ 0 by omega); have := rne hp
  grind
theorem rv_zero {p q : Int} (hq : 0 < q) : (p : Rat) / q = 0 ↔ p = 0 := by
  have h1 := rne (show q ≠ 0 by omega)
  constructor
  · intro h
    have : (p : Rat) = 0 := by grind
    exact Rat.intCast_eq_zero_iff.1 this
  · intro h; subst h; grind
theorem rv_eq {P Q p q : Int} (hQ : 0 < Q) (hq : 0 < q) : (P : Rat) / Q = (p : Rat) / q ↔ P * q = p * Q := by
  have h1 := rne (show q ≠ 0 by omega); have h2 := rne (show Q ≠ 0 by omega)
  constructor
  · intro h
    have : (P : Rat) * q = p * Q := by grind
    rw [← Rat.intCast_mul, ← Rat.intCast_mul] at this
    exact Rat.intCast_inj.1 this
  · intro h
    have h' := rcast h
    simp only [Rat.intCast_mul] at h'
    grind
theorem RMulV (bz bx by' : Nat) (u v : Rat) (m : Nat) (w : World) (hz : RSlot w bz) (hx : Rv w bx u m) (hy : Rv w by' v m) (hm : m ≤ 40000000) :
    Calls Try.prog 29 #[.pointer (some ⟨bz, 0, none⟩), .pointer (some ⟨bx, 0, none⟩), .pointer (some ⟨by', 0, none⟩)] w fun e w' => e = .returned (.pointer (some ⟨bz, 0, none⟩)) ∧ Rv w' bz (u * v) (m + m) ∧ Upd bz w w' := by
  obtain ⟨P, Q, x1, x2, x3, x4⟩ := hx
  obtain ⟨p, q, y1, y2, y3, y4⟩ := hy
  refine (RMul_any bz bx by' P Q p q m w hz x1 y1 ⟨x3, x4, y3, y4, hm⟩).mono ?_
  rintro e w' ⟨rfl, A, B, r1, r2, r3, r4, r5⟩
  refine ⟨rfl, ⟨A, B, r1, ?_, Nat.lt_of_le_of_lt r3 (mul_pw x3 y3), Nat.lt_of_le_of_lt r4 (mul_pw x4 y4)⟩, r5⟩
  rw [rv_mul r1.pos x1.pos y1.pos r2, x2, y2]
theorem RSubV (bz bx by' : Nat) (u v : Rat) (m : Nat) (w : World) (hz : RSlot w bz) (hx : Rv w bx u m) (hy : Rv w by' v m) (hm : m ≤ 40000000) :
    Calls Try.prog 33 #[.pointer (some ⟨bz, 0, none⟩), .pointer (some ⟨bx, 0, none⟩), .pointer (some ⟨by', 0, none⟩)] w fun e w' => e = .returned (.pointer (some ⟨bz, 0, none⟩)) ∧ Rv w' bz (u - v) (m + m + 1) ∧ Upd bz w w' := by
  obtain ⟨P, Q, x1, x2, x3, x4⟩ := hx
  obtain ⟨p, q, y1, y2, y3, y4⟩ := hy
  refine (RSub_any bz bx by' P Q p q m w hz x1 y1 ⟨x3, x4, y3, y4, hm⟩).mono ?_
  rintro e w' ⟨rfl, A, B, r1, r2, r3, r4, r5⟩
  refine ⟨rfl, ⟨A, B, r1, ?_, Nat.lt_of_le_of_lt r3 (sub_pw (mul_pw x3 y4) (mul_pw y3 x4)), Nat.lt_of_le_of_lt r4 (Nat.lt_of_lt_of_le (mul_pw x4 y4) (pw_le (by omega)))⟩, r5⟩
  rw [rv_sub r1.pos x1.pos y1.pos r2, x2, y2]
theorem RAddV (bz bx by' : Nat) (u v : Rat) (m : Nat) (w : World) (hz : RSlot w bz) (hx : Rv w bx u m) (hy : Rv w by' v m) (hm : m ≤ 40000000) :
    Calls Try.prog 27 #[.pointer (some ⟨bz, 0, none⟩), .pointer (some ⟨bx, 0, none⟩), .pointer (some ⟨by', 0, none⟩)] w fun e w' => e = .returned (.pointer (some ⟨bz, 0, none⟩)) ∧ Rv w' bz (u + v) (m + m + 1) ∧ Upd bz w w' := by
  obtain ⟨P, Q, x1, x2, x3, x4⟩ := hx
  obtain ⟨p, q, y1, y2, y3, y4⟩ := hy
  refine (RAdd_any bz bx by' P Q p q m w hz x1 y1 ⟨x3, x4, y3, y4, hm⟩).mono ?_
  rintro e w' ⟨rfl, A, B, r1, r2, r3, r4, r5⟩
  refine ⟨rfl, ⟨A, B, r1, ?_, Nat.lt_of_le_of_lt r3 (add_pw (mul_pw x3 y4) (mul_pw y3 x4)), Nat.lt_of_le_of_lt r4 (Nat.lt_of_lt_of_le (mul_pw x4 y4) (pw_le (by omega)))⟩, r5⟩
  rw [rv_add r1.pos x1.pos y1.pos r2, x2, y2]
theorem RQuoV (bz bx by' : Nat) (u v : Rat) (m : Nat) (w : World) (hz : RSlot w bz) (hx : Rv w bx u m) (hy : Rv w by' v m) (hm : m ≤ 40000000) (hv : v ≠ 0) :
    Calls Try.prog 32 #[.pointer (some ⟨bz, 0, none⟩), .pointer (some ⟨bx, 0, none⟩), .pointer (some ⟨by', 0, none⟩)] w fun e w' => e = .returned (.pointer (some ⟨bz, 0, none⟩)) ∧ Rv w' bz (u / v) (m + m) ∧ Upd bz w w' := by
  obtain ⟨P, Q, x1, x2, x3, x4⟩ := hx
  obtain ⟨p, q, y1, y2, y3, y4⟩ := hy
  have hp : p ≠ 0 := fun e => hv (by rw [← y2]; exact (rv_zero y1.pos).2 e)
  refine (RQuo_any bz bx by' P Q p q m w hz x1 y1 ⟨x3, x4, y3, y4, hm⟩ hp).mono ?_
  rintro e w' ⟨rfl, A, B, r1, r2, r3, r4, r5⟩
  refine ⟨rfl, ⟨A, B, r1, ?_, Nat.lt_of_le_of_lt r3 (mul_pw x3 y4), Nat.lt_of_le_of_lt r4 (mul_pw x4 y3)⟩, r5⟩
  rw [rv_quo r1.pos x1.pos y1.pos hp r2, x2, y2]
theorem RCmpV (bx by' : Nat) (u v : Rat) (m : Nat) (w : World) (hx : Rv w bx u m) (hy : Rv w by' v m) (hm : m ≤ 40000000) :
    Calls Try.prog 14 #[.pointer (some ⟨bx, 0, none⟩), .pointer (some ⟨by', 0, none⟩)] w fun e w' => (∃ c : Int, e = .returned (.int .i64 c) ∧ (c = 0 ↔ u = v)) ∧ Below w.heap.size w w' := by
  obtain ⟨P, Q, x1, x2, x3, x4⟩ := hx
  obtain ⟨p, q, y1, y2, y3, y4⟩ := hy
  refine (RCmp_any bx by' P Q p q m w x1 y1 ⟨x3, x4, y3, y4, hm⟩).mono ?_
  rintro e w' ⟨rfl, k⟩
  refine ⟨⟨_, rfl, ?_⟩, k⟩
  rw [cmpZ_zero, ← x2, ← y2, rv_eq x1.pos y1.pos]
theorem RSignV (b : Nat) (v : Rat) (m : Nat) (w : World) (hx : Rv w b v m) :
    Calls Try.prog 28 #[.pointer (some ⟨b, 0, none⟩)] w fun e w' => (∃ c : Int, e = .returned (.int .i64 c) ∧ (c = 0 ↔ v = 0)) ∧ w' = w := by
  obtain ⟨P, Q, x1, x2, x3, x4⟩ := hx
  refine (RSign_any b P Q w x1).mono ?_
  rintro e w' ⟨rfl, k⟩
  refine ⟨⟨_, rfl, ?_⟩, k⟩
  rw [← x2, rv_zero x1.pos]
  exact Int.sign_eq_zero_iff_zero
theorem NewRatV (n : Nat) (w : World) (h1 : 1 ≤ n) (h2 : n < 1000) :
    Calls Try.prog 30 #[.int .i64 n, .int .i64 1] w fun e w' => ∃ b, e = .returned (.pointer (some ⟨b, 0, none⟩)) ∧ w.heap.size ≤ b ∧ Rv w' b (n : Rat) 2 ∧ Below w.heap.size w w' := by
  refine (NewRat_small n w h1 h2).mono ?_
  rintro e w' ⟨b, rfl, hb, r, k⟩
  refine ⟨b, rfl, hb, ⟨n, 1, r, ?_, ?_, by decide⟩, k⟩
  · have : ((n : Int) : Rat) = (n : Rat) := rfl
    rw [this]; grind
  · show (n : Int).natAbs < pw 2
    rw [show pw 2 = 4294967296 * 4294967296 from rfl]; omega
/-- A whole number, as a ratio. -/
theorem SetIntV (bz ba : Nat) (x : Int) (w : World) (hz : RSlot w bz) (hx : BigAt w ba x) (h1 : -1000000000000 ≤ x) (h2 : x ≤ 1000000000000) :
    Calls Try.prog 31 #[.pointer (some ⟨bz, 0, none⟩), .pointer (some ⟨ba, 0, none⟩)] w fun e w' => e = .returned (.pointer (some ⟨bz, 0, none⟩)) ∧ Rv w' bz (x : Rat) 2 ∧ Upd bz w w' := by
  have hb : x.natAbs < pw 2 := by rw [show pw 2 = 4294967296 * 4294967296 from rfl]; omega
  refine (SetInt_any bz ba 0 x 2 w hz hx.at hb (by decide) (by decide)).mono ?_
  rintro e w' ⟨rfl, r, k⟩
  refine ⟨rfl, ⟨x, 1, r, ?_, hb, by decide⟩, k⟩
  grind

end Go.Proofs.Ytknnidbdgfimbaa
end
