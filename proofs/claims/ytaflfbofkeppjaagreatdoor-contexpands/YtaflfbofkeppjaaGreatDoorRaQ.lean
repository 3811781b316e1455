/- arithmeticabig's CmpAbs; the reference's FracIs, of a ratio that it is. -/
import Derived.Test.YtaflfbofkeppjaaGreatDoorRaN
import Derived.Test.YtaflfbofkeppjaaGreatDoorJoinJ
set_option linter.unusedSimpArgs false
set_option linter.unusedVariables false
set_option maxRecDepth 100000
namespace Go.Proofs.YtaflfbofkeppjaaGreatDoor
open Go.RowKit

set_option maxHeartbeats 1000000 in
theorem CmpAbs_at (ox oy bx by' : Nat) (x y : Int) (m n : Nat) (w : World) (hx : IntAt w bx ox x) (hy : IntAt w by' oy y) (hm : x.natAbs < pw m) (hn : y.natAbs < pw n) (hm' : m ≤ 100000000) (hn' : n ≤ 100000000) :
    Calls Tryz.prog 21 #[.pointer (some ⟨bx, ox, none⟩), .pointer (some ⟨by', oy, none⟩)] w fun e w' => e = .returned (.int .i64 (cmpN x.natAbs y.natAbs)) ∧ Below w.heap.size w w' := by
  obtain ⟨xa, xl, xc, cx0, cx1, nx, _⟩ := hx.open
  obtain ⟨ya, yl, yc, cy0, cy1, ny, _⟩ := hy.open
  have lx := hx.lt
  have ly := hy.lt
  have NX : Hid (NS w (.slice xa xl xc) x.natAbs) := nx
  have NY : Hid (NS w (.slice ya yl yc) y.natAbs) := ny
  have HM : Hid (x.natAbs < pw m) := hm
  have HN : Hid (y.natAbs < pw n) := hn
  clear hx hy nx ny hm hn cx0 cy0
  go_enter Tryz.func21, Tryz.ntmps21
  go_wp2_with fail
  refine wp_region_G (fun w' => w'.cell? ⟨bx, ox + 1, none⟩ = some (.slice xa xl xc) ∧ w'.cell? ⟨by', oy + 1, none⟩ = some (.slice ya yl yc)) 9 (by kernel_rfl) ⟨cx1, cy1⟩ (fun hHeld => ?_)
  refine wpAnyG_take (i := 0) (v := ?v0x1) rfl (by kernel_rfl) (fun _ _ _ h => h) (Or.inl ⟨by rfl, ?y0x1⟩) hHeld ?r0x1
  case y0x1 => (intro wS hSw; obtain ⟨s1, s2⟩ := hSw; go_simp; try with_reducible rfl)
  try simp only [Act.put, List.setIfInBounds_toArray, List.set_cons_zero, List.set_cons_succ]
  refine wpAnyG_take (i := 1) (v := ?v1x2) rfl (by kernel_rfl) (fun _ _ _ h => h) (Or.inl ⟨by rfl, ?y1x2⟩) hHeld ?r1x2
  case y1x2 => (intro wS hSw; obtain ⟨s1, s2⟩ := hSw; go_simp; try with_reducible rfl)
  try simp only [Act.put, List.setIfInBounds_toArray, List.set_cons_zero, List.set_cons_succ]
  refine wpAnyG_take (i := 2) (v := ?v2x3) rfl (by kernel_rfl) (fun _ _ _ h => h) (Or.inl ⟨by rfl, ?y2x3⟩) hHeld ?r2x3
  case y2x3 => (intro wS hSw; obtain ⟨s1, s2⟩ := hSw; go_simp; try with_reducible rfl)
  try simp only [Act.put, List.setIfInBounds_toArray, List.set_cons_zero, List.set_cons_succ]
  refine wpAnyG_take (i := 3) (v := ?v3x4) rfl (by kernel_rfl) (fun _ _ _ h => h) (Or.inl ⟨by rfl, ?y3x4⟩) hHeld ?r3x4
  case y3x4 => (intro wS hSw; obtain ⟨s1, s2⟩ := hSw; go_simp; try with_reducible rfl)
  try simp only [Act.put, List.setIfInBounds_toArray, List.set_cons_zero, List.set_cons_succ]
  refine wpAnyG_take (i := 4) (v := ?v4x5) rfl (by kernel_rfl) (fun _ _ _ h => h) (Or.inl ⟨by rfl, ?y4x5⟩) hHeld ?r4x5
  case y4x5 => (intro wS hSw; obtain ⟨s1, s2⟩ := hSw; go_simp; try with_reducible rfl)
  try simp only [Act.put, List.setIfInBounds_toArray, List.set_cons_zero, List.set_cons_succ]
  refine wpAnyG_take (i := 5) (v := ?v5x6) rfl (by kernel_rfl) (fun _ _ _ h => h) (Or.inl ⟨by rfl, ?y5x6⟩) hHeld ?r5x6
  case y5x6 => (intro wS hSw; obtain ⟨s1, s2⟩ := hSw; go_simp; try with_reducible rfl)
  try simp only [Act.put, List.setIfInBounds_toArray, List.set_cons_zero, List.set_cons_succ]
  refine wpAnyG_take (i := 6) (v := ?v6x7) rfl (by kernel_rfl) (fun _ _ _ h => h) (Or.inl ⟨by rfl, ?y6x7⟩) hHeld ?r6x7
  case y6x7 => (intro wS hSw; obtain ⟨s1, s2⟩ := hSw; go_simp; try with_reducible rfl)
  try simp only [Act.put, List.setIfInBounds_toArray, List.set_cons_zero, List.set_cons_succ]
  refine wpAnyG_take (i := 7) (v := ?v7x8) rfl (by kernel_rfl) (fun _ _ _ h => h) (Or.inl ⟨by rfl, ?y7x8⟩) hHeld ?r7x8
  case y7x8 => (intro wS hSw; obtain ⟨s1, s2⟩ := hSw; go_simp; try with_reducible rfl)
  try simp only [Act.put, List.setIfInBounds_toArray, List.set_cons_zero, List.set_cons_succ]
  refine wpAnyG_one (i := 8) rfl (by kernel_rfl) (fun K hK => ?_)
  go_simp
  refine (cmp_any _ _ x.natAbs y.natAbs m n _ NX.out.drew NY.out.drew HM.out HN.out hm' hn').mono ?_
  rintro e w1 ⟨rfl, k, hw1⟩
  have K1 : Below w.heap.size w w1 := by rw [hw1]; exact below_drewN' (Below.refl _ _).drew
  have HK1 : Hid (Below w.heap.size w w1) := K1
  have z1 : w1.cell? ⟨bx, ox + 1, none⟩ = some (.slice xa xl xc) ∧ w1.cell? ⟨by', oy + 1, none⟩ = some (.slice ya yl yc) := ⟨(K1.cell lx).trans cx1, (K1.cell ly).trans cy1⟩
  clear hw1 K1 hHeld
  have hHeld := z1
  refine hK.out _ _ hHeld ?_
  clear hK K
  try simp only [Act.put, List.setIfInBounds_toArray, List.set_cons_zero, List.set_cons_succ]
  refine wpAnyG_last (i := 9) rfl (by kernel_rfl) (by kernel_rfl) (fun K hK => ?_)
  go_simp
  refine hK.out _ _ ?_
  clear hK K
  try simp only [Act.put, List.setIfInBounds_toArray, List.set_cons_zero, List.set_cons_succ]
  refine wpAnyG_done (by kernel_rfl) ?_ _
  go_wp2
  go_ret
  exact ⟨rfl, HK1.out⟩

theorem cmpZ_self (x : Int) : cmpZ x x = 0 := by unfold cmpZ; simp

set_option maxHeartbeats 4000000 in
theorem FracIs_yes (b : Nat) (P Q : Int) (w : World) (hx : Rt w b P Q) (hP : P.natAbs ≤ 1000000000000000000) (hQ : Q.natAbs ≤ 1000000000000000000) (hP1 : P.natAbs < pw 2001) (hQ1 : Q.natAbs < pw 2001) :
    Calls Tryz.prog 23 #[.agg #[.int .i64 P, .int .i64 Q], .pointer (some ⟨b, 0, none⟩)] w fun e w' => e = .returned (.bool true) ∧ Below w.heap.size w w' := by
  obtain ⟨W0, hW0⟩ : ∃ W0, W0 = w.alloc (.cells #[.int .i64 P, .int .i64 Q] 42) := ⟨_, rfl⟩
  have k0 : Below w.heap.size w W0 := by rw [hW0]; exact (Below.refl _ _).alloc (Nat.le_refl _) _
  have B0 : Cl w.heap.size [.int .i64 P, .int .i64 Q] 42 W0 := by rw [hW0]; exact Cl.new [.int .i64 P, .int .i64 Q] _ w
  have HX0 : Hid (Rt W0 b P Q) := hx.below k0
  have HK0 : Hid (Below w.heap.size w W0) := k0
  have HB0 : Hid (Cl w.heap.size [.int .i64 P, .int .i64 Q] 42 W0) := B0
  have HP1 : Hid (P.natAbs < pw 2001 ∧ Q.natAbs < pw 2001) := ⟨hP1, hQ1⟩
  have HN : Hid (∀ W, Rt W b P Q → Calls Tryz.prog 20 #[.pointer (some ⟨b, 0, none⟩)] W fun e w' => e = .returned (.pointer (some ⟨b, 0, none⟩)) ∧ w' = W) := fun W h => Num_any b W h.at'.num.lt
  have HBP : Hid (∀ W, Calls Tryz.prog 16 #[.int .i64 P] W fun e w' => ∃ b, e = .returned (.pointer (some ⟨b, 0, none⟩)) ∧ Made W w' b P) := fun W => B_any P W (by omega) (by omega)
  have HBQ : Hid (∀ W, Calls Tryz.prog 16 #[.int .i64 Q] W fun e w' => ∃ b, e = .returned (.pointer (some ⟨b, 0, none⟩)) ∧ Made W w' b Q) := fun W => B_any Q W (by omega) (by omega)
  have c0 := B0.cell 0
  have c1 := B0.cell 1
  simp only [List.getElem?_cons_zero, List.getElem?_cons_succ] at c0 c1
  have HW0 : Hid (W0 = w.alloc (.cells #[.int .i64 P, .int .i64 Q] 42)) := hW0
  clear hx hW0 k0 B0 hP hQ hP1 hQ1
  go_enter Tryz.func23, Tryz.ntmps23
  go_wp2_with fail
  rw [← HW0.out]
  refine wp_region_G (fun w' => w'.cell? ⟨w.heap.size, 0, none⟩ = some (.int .i64 P) ∧ w'.cell? ⟨w.heap.size, 1, none⟩ = some (.int .i64 Q)) 16 (by kernel_rfl) ⟨c0, c1⟩ (fun hHeld => ?_)
  refine wpAnyG_take (i := 0) (v := ?v0x9) rfl (by kernel_rfl) (fun _ _ _ h => h) (Or.inl ⟨by rfl, ?y0x9⟩) hHeld ?r0x9
  case y0x9 => (intro wS hSw; obtain ⟨s1, s2⟩ := hSw; go_simp; try with_reducible rfl)
  try simp only [Act.put, List.setIfInBounds_toArray, List.set_cons_zero, List.set_cons_succ]
  refine wpAnyG_take (i := 2) (v := ?v2x10) rfl (by kernel_rfl) (fun _ _ _ h => h) (Or.inl ⟨by rfl, ?y2x10⟩) hHeld ?r2x10
  case y2x10 => (intro wS hSw; obtain ⟨s1, s2⟩ := hSw; go_simp; try with_reducible rfl)
  try simp only [Act.put, List.setIfInBounds_toArray, List.set_cons_zero, List.set_cons_succ]
  refine wpAnyG_take (i := 3) (v := ?v3x11) rfl (by kernel_rfl) (fun _ _ _ h => h) (Or.inl ⟨by rfl, ?y3x11⟩) hHeld ?r3x11
  case y3x11 => (intro wS hSw; obtain ⟨s1, s2⟩ := hSw; go_simp; try with_reducible rfl)
  try simp only [Act.put, List.setIfInBounds_toArray, List.set_cons_zero, List.set_cons_succ]
  refine wpAnyG_one (i := 1) rfl (by kernel_rfl) (fun K hK => ?_)
  go_simp
  refine (HN.out _ (HX0.out.below (Below.refl _ _).drew)).mono ?_
  rintro e w1 ⟨rfl, hw1⟩
  rw [hw1]
  clear hw1 w1
  refine hK.out _ _ hHeld ?_
  clear hK K
  try simp only [Act.put, List.setIfInBounds_toArray, List.set_cons_zero, List.set_cons_succ]
  refine wpAnyG_one (i := 4) rfl (by kernel_rfl) (fun K hK => ?_)
  go_simp
  refine (HBP.out _).mono ?_
  rintro e w1 ⟨b1, rfl, m1⟩
  have k1 : Below W0.heap.size W0 w1 := ((Below.refl W0.heap.size W0).drew).trans m1.2.2
  have HK1 : Hid (Below W0.heap.size W0 w1) := k1
  have HM1 : Hid (BigAt w1 b1 P) := m1.2.1
  have z1 : w1.cell? ⟨w.heap.size, 0, none⟩ = some (.int .i64 P) ∧ w1.cell? ⟨w.heap.size, 1, none⟩ = some (.int .i64 Q) := ⟨(HB0.out.below k1).cell 0, (HB0.out.below k1).cell 1⟩
  clear m1 k1 hHeld c0 c1
  have hHeld := z1
  refine hK.out _ _ hHeld ?_
  clear hK K
  try simp only [Act.put, List.setIfInBounds_toArray, List.set_cons_zero, List.set_cons_succ]
  refine wpAnyG_one (i := 5) rfl (by kernel_rfl) (fun K hK => ?_)
  go_simp
  refine (Cmp_at 0 0 b b1 P P 2001 2001 w1 (HX0.out.below HK1.out).at'.num HM1.out.at HP1.out.1 HP1.out.1 (by omega) (by omega)).mono ?_
  rw [cmpZ_self]
  rintro e w2 ⟨rfl, q2, hw2⟩
  have k2 : Below W0.heap.size W0 w2 := by rw [hw2]; exact below_drewN' HK1.out
  have HK2 : Hid (Below W0.heap.size W0 w2) := k2
  have z2 : w2.cell? ⟨w.heap.size, 0, none⟩ = some (.int .i64 P) ∧ w2.cell? ⟨w.heap.size, 1, none⟩ = some (.int .i64 Q) := ⟨(HB0.out.below k2).cell 0, (HB0.out.below k2).cell 1⟩
  clear hw2 k2 hHeld z1
  have hHeld := z2
  refine hK.out _ _ hHeld ?_
  clear hK K
  try simp only [Act.put, List.setIfInBounds_toArray, List.set_cons_zero, List.set_cons_succ]
  refine wpAnyG_take (i := 6) (v := ?v6x12) rfl (by kernel_rfl) (fun _ _ _ h => h) (Or.inl ⟨by rfl, ?y6x12⟩) hHeld ?r6x12
  case y6x12 => (intro wS hSw; obtain ⟨s1, s2⟩ := hSw; go_simp; try with_reducible rfl)
  try simp only [Act.put, List.setIfInBounds_toArray, List.set_cons_zero, List.set_cons_succ]
  refine wpAnyG_take (i := 7) (v := ?v7x13) rfl (by kernel_rfl) (fun _ _ _ h => h) (Or.inl ⟨by rfl, ?y7x13⟩) hHeld ?r7x13
  case y7x13 => (intro wS hSw; obtain ⟨s1, s2⟩ := hSw; go_simp; try with_reducible rfl)
  try simp only [Act.put, List.setIfInBounds_toArray, List.set_cons_zero, List.set_cons_succ]
  refine wpAnyG_take (i := 8) (v := ?v8x14) rfl (by kernel_rfl) (fun _ _ _ h => h) (Or.inl ⟨by kernel_rfl, ?y8x14⟩) hHeld ?r8x14
  case y8x14 => (intro wS hSw; have s1 := hSw; go_simp; try with_reducible rfl)
  try simp only [Act.put, List.setIfInBounds_toArray, List.set_cons_zero, List.set_cons_succ]
  refine wpAnyG_take (i := 10) (v := ?v10x15) rfl (by kernel_rfl) (fun _ _ _ h => h) (Or.inl ⟨by kernel_rfl, ?y10x15⟩) hHeld ?r10x15
  case y10x15 => (intro wS hSw; have s1 := hSw; go_simp; try with_reducible rfl)
  try simp only [Act.put, List.setIfInBounds_toArray, List.set_cons_zero, List.set_cons_succ]
  refine wpAnyG_take (i := 11) (v := .int .i64 Q) rfl (by kernel_rfl) (fun _ _ _ h => h) (Or.inl ⟨by kernel_rfl, ?y11x16⟩) hHeld ?r11x16
  case y11x16 => (intro wS hSw; obtain ⟨s1, s2⟩ := hSw; go_simp; try with_reducible rfl)
  try simp only [Act.put, List.setIfInBounds_toArray, List.set_cons_zero, List.set_cons_succ]
  refine wpAnyG_one (i := 9) rfl (by kernel_rfl) (fun K hK => ?_)
  rw [if_pos (by kernel_rfl)]
  go_simp
  refine (Denom_pos b P Q 2001 w2 (HX0.out.below HK2.out).at' HX0.out.pos HP1.out.2 (by omega)).mono ?_
  rintro e w3 ⟨b3, rfl, m3⟩
  have k3 : Below W0.heap.size W0 w3 := HK2.out.trans (m3.2.2.mono HK2.out.size)
  have HK3 : Hid (Below W0.heap.size W0 w3) := k3
  have HM3 : Hid (BigAt w3 b3 Q) := m3.2.1
  have z3 : w3.cell? ⟨w.heap.size, 0, none⟩ = some (.int .i64 P) ∧ w3.cell? ⟨w.heap.size, 1, none⟩ = some (.int .i64 Q) := ⟨(HB0.out.below k3).cell 0, (HB0.out.below k3).cell 1⟩
  clear m3 k3 hHeld z2
  have hHeld := z3
  refine hK.out _ _ hHeld ?_
  clear hK K
  try simp only [Act.put, List.setIfInBounds_toArray, List.set_cons_zero, List.set_cons_succ]
  refine wpAnyG_one (i := 12) rfl (by kernel_rfl) (fun K hK => ?_)
  rw [if_pos (by kernel_rfl)]
  go_simp
  refine (HBQ.out w3).mono ?_
  rintro e w4 ⟨b4, rfl, m4⟩
  have k4 : Below W0.heap.size W0 w4 := HK3.out.trans (m4.2.2.mono HK3.out.size)
  have HK4 : Hid (Below W0.heap.size W0 w4) := k4
  have HM4 : Hid (BigAt w4 b4 Q) := m4.2.1
  have HM5 : Hid (BigAt w4 b3 Q) := HM3.out.below m4.2.2 (Nat.le_refl _)
  have z4 : w4.cell? ⟨w.heap.size, 0, none⟩ = some (.int .i64 P) ∧ w4.cell? ⟨w.heap.size, 1, none⟩ = some (.int .i64 Q) := ⟨(HB0.out.below k4).cell 0, (HB0.out.below k4).cell 1⟩
  clear m4 k4 hHeld z3
  have hHeld := z4
  refine hK.out _ _ hHeld ?_
  clear hK K
  try simp only [Act.put, List.setIfInBounds_toArray, List.set_cons_zero, List.set_cons_succ]
  refine wpAnyG_one (i := 13) rfl (by kernel_rfl) (fun K hK => ?_)
  rw [if_pos (by kernel_rfl)]
  go_simp
  refine (Cmp_any b3 b4 Q Q 2001 2001 w4 HM5.out HM4.out HP1.out.2 HP1.out.2 (by omega) (by omega)).mono ?_
  rw [cmpZ_self]
  rintro e w5 ⟨rfl, q5, hw5⟩
  have k5 : Below W0.heap.size W0 w5 := by rw [hw5]; exact below_drewN' HK4.out
  have HK5 : Hid (Below W0.heap.size W0 w5) := k5
  have z5 : w5.cell? ⟨w.heap.size, 0, none⟩ = some (.int .i64 P) ∧ w5.cell? ⟨w.heap.size, 1, none⟩ = some (.int .i64 Q) := ⟨(HB0.out.below k5).cell 0, (HB0.out.below k5).cell 1⟩
  clear hw5 k5 hHeld z4
  have hHeld := z5
  refine hK.out _ _ hHeld ?_
  clear hK K
  try simp only [Act.put, List.setIfInBounds_toArray, List.set_cons_zero, List.set_cons_succ]
  refine wpAnyG_take (i := 14) (v := ?v14x17) rfl (by kernel_rfl) (fun _ _ _ h => h) (Or.inl ⟨by kernel_rfl, ?y14x17⟩) hHeld ?r14x17
  case y14x17 => (intro wS hSw; have s1 := hSw; go_simp; try with_reducible rfl)
  try simp only [Act.put, List.setIfInBounds_toArray, List.set_cons_zero, List.set_cons_succ]
  refine wpAnyG_take (i := 15) (v := ?v15x18) rfl (by kernel_rfl) (fun _ _ _ h => h) (Or.inl ⟨by rfl, ?y15x18⟩) hHeld ?r15x18
  case y15x18 => (intro wS hSw; obtain ⟨s1, s2⟩ := hSw; go_simp; try with_reducible rfl)
  try simp only [Act.put, List.setIfInBounds_toArray, List.set_cons_zero, List.set_cons_succ]
  refine wpAnyG_last (i := 16) rfl (by kernel_rfl) (by kernel_rfl) (fun K hK => ?_)
  go_simp
  refine hK.out _ _ ?_
  clear hK K
  try simp only [Act.put, List.setIfInBounds_toArray, List.set_cons_zero, List.set_cons_succ]
  refine wpAnyG_done (by kernel_rfl) ?_ _
  go_wp2
  go_ret
  exact ⟨rfl, HK0.out.trans (HK5.out.mono HK0.out.size)⟩

end Go.Proofs.YtaflfbofkeppjaaGreatDoor
