/- cmp.Compare, cmp.Or; package ring's compare at the example. -/
import Derived.Test.YtoionlnbodfhlacGreatDoorGfB
set_option linter.unusedSimpArgs false
set_option linter.unusedVariables false
set_option maxRecDepth 100000
namespace Go.Proofs.YtoionlnbodfhlacGreatDoor
open Go.RowKit

theorem isNaN_any (x : Int) (w : World) : Calls Tryz.prog 162 #[.int .i64 x] w fun e w' => e = .returned (.bool false) ∧ w' = w := by
  go_enter Tryz.func162, Tryz.ntmps162
  go_wp2
  go_ret
  exact ⟨rfl, rfl⟩

theorem Compare_val (x y c : Int) (w : World) (h : (x < y ∧ c = -1) ∨ (x = y ∧ c = 0) ∨ (y < x ∧ c = 1)) : Calls Tryz.prog 166 #[.int .i64 x, .int .i64 y] w fun e w' => e = .returned (.int .i64 c) ∧ w' = w := by
  rcases h with ⟨h, rfl⟩ | ⟨rfl, rfl⟩ | ⟨h, rfl⟩
  all_goals
    go_enter Tryz.func166, Tryz.ntmps166
    go_wp2_with (go_at_call 162; refine (isNaN_any _ _).mono ?_; rintro e w' ⟨rfl, rfl⟩)
    go_ret
    exact ⟨rfl, rfl⟩

theorem Or_val (b cap : Nat) (w : World) (hb : b < w.heap.size) (hc : 3 ≤ cap) (h0 : w.cell? ⟨b, 0, none⟩ = some (.int .i64 0)) (h1 : w.cell? ⟨b, 1, none⟩ = some (.int .i64 (-1))) :
    Calls Tryz.prog 165 #[.slice (some ⟨b, 0, none⟩) 3 cap] w fun e w' => e = .returned (.int .i64 (-1)) ∧ Below w.heap.size w w' := by
  go_enter Tryz.func165, Tryz.ntmps165
  go_wp2
  go_loopw [8] (fun iv wx => (iv = .int .i64 0 ∨ iv = .int .i64 1) ∧ Hid (wx = w)) (fun iv _ => 1 - (intOf iv).toNat)
  case atStart => exact ⟨.inl rfl, rfl⟩
  case round =>
    obtain ⟨rfl | rfl, HW⟩ := hrel
    · have hw := HW.out
      subst hw
      clear HW
      go_wp2
      go_roundw
      case rel => exact ⟨.inr rfl, by first | rfl | trivial⟩
      case measure => simp [intOf]
    · have hw := HW.out
      subst hw
      clear HW
      go_wp2
      go_ret
      exact ⟨rfl, Below.refl _ _⟩

/-- A ring and two pairs in memory. -/
structure Ry (b : Nat) (k : Kd) (x y : Pp) (w W : World) : Prop where
  r : Kt b k W
  x : Sv (b + 1) x.a x.b W
  y : Sv (b + 2) y.a y.b W
  k : Below b w W
theorem Ry.below {b : Nat} {k : Kd} {x y : Pp} {w W W' : World} (h : Ry b k x y w W) (c : Below W.heap.size W W') : Ry b k x y w W' :=
  ⟨h.r.below c, h.x.below c, h.y.below c, h.k.trans (c.mono (by have := h.x.lt; omega))⟩
theorem Ry.alloc {b : Nat} {k : Kd} {x y : Pp} {w W : World} (h : Ry b k x y w W) (o : Obj) : Ry b k x y w (W.alloc o) := h.below (Below.alloc (Below.refl _ _) (Nat.le_refl _) _)
theorem Ry.rd {b : Nat} {k : Kd} {x y : Pp} {w W : World} (h : Ry b k x y w W) : Rdm b k x y W := ⟨Kt.rd h.r, ⟨h.x.c0, h.x.c1⟩, h.y.c0, h.y.c1⟩
theorem ry_new (w : World) (k : Kd) (x y : Pp) : Ry w.heap.size k x y w (((w.alloc (.cells k.cells 84)).alloc (.cells #[.int .i64 x.a, .int .i64 x.b] 44)).alloc (.cells #[.int .i64 y.a, .int .i64 y.b] 44)) :=
  ⟨((Cl.new k.list 84 w).alloc _).alloc _, sv_alloc (sv_new _ _ _ (by simp) _ _) _, sv_new _ _ _ (by simp) _ _, below3 _ _ _ _⟩

set_option maxHeartbeats 1000000 in
theorem compare_5 (k : Kd) (K : KdIs 0 k) (w : World) : Calls Tryz.prog 141 #[k.v, pv ⟨1, 2⟩, pv ⟨2, 1⟩] w fun e w' => e = .returned (.int .i64 (-1)) ∧ Below w.heap.size w w' := by
  have HN1 : Hid (∀ w, Calls Tryz.prog 93 #[k.v, pv ⟨1, 2⟩] w fun e w' => e = .returned (.int .i64 5) ∧ Below w.heap.size w w') := fun w => rnorm_any 0 k K ⟨1, 2⟩ w (.inl rfl) ⟨by decide, by decide, by decide, by decide⟩
  have HN2 : Hid (∀ w, Calls Tryz.prog 93 #[k.v, pv ⟨2, 1⟩] w fun e w' => e = .returned (.int .i64 5) ∧ Below w.heap.size w w') := fun w => rnorm_any 0 k K ⟨2, 1⟩ w (.inl rfl) ⟨by decide, by decide, by decide, by decide⟩
  clear K
  obtain ⟨u, o, ft, fm, fc, fs⟩ := k
  have R0 := ry_new w ⟨u, o, ft, fm, fc, fs⟩ ⟨1, 2⟩ ⟨2, 1⟩
  go_enter Tryz.func141, Tryz.ntmps141
  go_wp2_with fail
  refine wp_region_G (Rdm w.heap.size ⟨u, o, ft, fm, fc, fs⟩ ⟨1, 2⟩ ⟨2, 1⟩) 19 (by kernel_rfl) R0.rd (fun hHeld => ?_)
  refine wpAnyG_take (i := 0) (v := ?v0x1) rfl (by kernel_rfl) (fun _ _ _ h => h) (Or.inl ⟨by rfl, ?y0x1⟩) hHeld ?r0x1
  case y0x1 => (intro wS hSw; obtain ⟨⟨s1, s2, s3, s4, s5, s6, s7⟩, ⟨s8, s9⟩, s10, s11⟩ := hSw; go_simp; try with_reducible rfl)
  try simp only [Act.put, List.setIfInBounds_toArray, List.set_cons_zero, List.set_cons_succ]
  refine wpAnyG_take (i := 1) (v := ?v1x2) rfl (by kernel_rfl) (fun _ _ _ h => h) (Or.inl ⟨by rfl, ?y1x2⟩) hHeld ?r1x2
  case y1x2 => (intro wS hSw; obtain ⟨⟨s1, s2, s3, s4, s5, s6, s7⟩, ⟨s8, s9⟩, s10, s11⟩ := hSw; go_simp; try with_reducible rfl)
  try simp only [Act.put, List.setIfInBounds_toArray, List.set_cons_zero, List.set_cons_succ]
  refine wpAnyG_take (i := 3) (v := ?v3x3) rfl (by kernel_rfl) (fun _ _ _ h => h) (Or.inl ⟨by rfl, ?y3x3⟩) hHeld ?r3x3
  case y3x3 => (intro wS hSw; obtain ⟨⟨s1, s2, s3, s4, s5, s6, s7⟩, ⟨s8, s9⟩, s10, s11⟩ := hSw; go_simp; try with_reducible rfl)
  try simp only [Act.put, List.setIfInBounds_toArray, List.set_cons_zero, List.set_cons_succ]
  refine wpAnyG_take (i := 4) (v := ?v4x4) rfl (by kernel_rfl) (fun _ _ _ h => h) (Or.inl ⟨by rfl, ?y4x4⟩) hHeld ?r4x4
  case y4x4 => (intro wS hSw; obtain ⟨⟨s1, s2, s3, s4, s5, s6, s7⟩, ⟨s8, s9⟩, s10, s11⟩ := hSw; go_simp; try with_reducible rfl)
  try simp only [Act.put, List.setIfInBounds_toArray, List.set_cons_zero, List.set_cons_succ]
  refine wpAnyG_take (i := 7) (v := ?v7x5) rfl (by kernel_rfl) (fun _ _ _ h => h) (Or.inl ⟨by rfl, ?y7x5⟩) hHeld ?r7x5
  case y7x5 => (intro wS hSw; obtain ⟨⟨s1, s2, s3, s4, s5, s6, s7⟩, ⟨s8, s9⟩, s10, s11⟩ := hSw; go_simp; try with_reducible rfl)
  try simp only [Act.put, List.setIfInBounds_toArray, List.set_cons_zero, List.set_cons_succ]
  refine wpAnyG_take (i := 8) (v := ?v8x6) rfl (by kernel_rfl) (fun _ _ _ h => h) (Or.inl ⟨by rfl, ?y8x6⟩) hHeld ?r8x6
  case y8x6 => (intro wS hSw; obtain ⟨⟨s1, s2, s3, s4, s5, s6, s7⟩, ⟨s8, s9⟩, s10, s11⟩ := hSw; go_simp; try with_reducible rfl)
  try simp only [Act.put, List.setIfInBounds_toArray, List.set_cons_zero, List.set_cons_succ]
  refine wpAnyG_take (i := 9) (v := ?v9x7) rfl (by kernel_rfl) (fun _ _ _ h => h) (Or.inl ⟨by rfl, ?y9x7⟩) hHeld ?r9x7
  case y9x7 => (intro wS hSw; obtain ⟨⟨s1, s2, s3, s4, s5, s6, s7⟩, ⟨s8, s9⟩, s10, s11⟩ := hSw; go_simp; try with_reducible rfl)
  try simp only [Act.put, List.setIfInBounds_toArray, List.set_cons_zero, List.set_cons_succ]
  refine wpAnyG_take (i := 10) (v := ?v10x8) rfl (by kernel_rfl) (fun _ _ _ h => h) (Or.inl ⟨by rfl, ?y10x8⟩) hHeld ?r10x8
  case y10x8 => (intro wS hSw; obtain ⟨⟨s1, s2, s3, s4, s5, s6, s7⟩, ⟨s8, s9⟩, s10, s11⟩ := hSw; go_simp; try with_reducible rfl)
  try simp only [Act.put, List.setIfInBounds_toArray, List.set_cons_zero, List.set_cons_succ]
  refine wpAnyG_take (i := 12) (v := ?v12x9) rfl (by kernel_rfl) (fun _ _ _ h => h) (Or.inl ⟨by rfl, ?y12x9⟩) hHeld ?r12x9
  case y12x9 => (intro wS hSw; obtain ⟨⟨s1, s2, s3, s4, s5, s6, s7⟩, ⟨s8, s9⟩, s10, s11⟩ := hSw; go_simp; try with_reducible rfl)
  try simp only [Act.put, List.setIfInBounds_toArray, List.set_cons_zero, List.set_cons_succ]
  refine wpAnyG_take (i := 13) (v := ?v13x10) rfl (by kernel_rfl) (fun _ _ _ h => h) (Or.inl ⟨by rfl, ?y13x10⟩) hHeld ?r13x10
  case y13x10 => (intro wS hSw; obtain ⟨⟨s1, s2, s3, s4, s5, s6, s7⟩, ⟨s8, s9⟩, s10, s11⟩ := hSw; go_simp; try with_reducible rfl)
  try simp only [Act.put, List.setIfInBounds_toArray, List.set_cons_zero, List.set_cons_succ]
  refine wpAnyG_take (i := 14) (v := ?v14x11) rfl (by kernel_rfl) (fun _ _ _ h => h) (Or.inl ⟨by rfl, ?y14x11⟩) hHeld ?r14x11
  case y14x11 => (intro wS hSw; obtain ⟨⟨s1, s2, s3, s4, s5, s6, s7⟩, ⟨s8, s9⟩, s10, s11⟩ := hSw; go_simp; try with_reducible rfl)
  try simp only [Act.put, List.setIfInBounds_toArray, List.set_cons_zero, List.set_cons_succ]
  refine wpAnyG_take (i := 15) (v := ?v15x12) rfl (by kernel_rfl) (fun _ _ _ h => h) (Or.inl ⟨by rfl, ?y15x12⟩) hHeld ?r15x12
  case y15x12 => (intro wS hSw; obtain ⟨⟨s1, s2, s3, s4, s5, s6, s7⟩, ⟨s8, s9⟩, s10, s11⟩ := hSw; go_simp; try with_reducible rfl)
  try simp only [Act.put, List.setIfInBounds_toArray, List.set_cons_zero, List.set_cons_succ]
  refine wpAnyG_one (i := 2) rfl (by kernel_rfl) (fun K hK => ?_)
  go_simp
  refine (HN1.out _).mono ?_
  rintro e w1 ⟨rfl, k1⟩
  replace k1 := ((Below.refl _ _).drew).trans k1
  have R1 := R0.below k1
  refine hK.out _ _ R1.rd ?_
  clear hK K
  try simp only [Act.put, List.setIfInBounds_toArray, List.set_cons_zero, List.set_cons_succ]
  refine wpAnyG_one (i := 5) rfl (by kernel_rfl) (fun K hK => ?_)
  go_simp
  refine (HN2.out _).mono ?_
  rintro e w2 ⟨rfl, k2⟩
  have R2 := R1.below k2
  refine hK.out _ _ R2.rd ?_
  clear hK K
  try simp only [Act.put, List.setIfInBounds_toArray, List.set_cons_zero, List.set_cons_succ]
  refine wpAnyG_one (i := 6) rfl (by kernel_rfl) (fun K hK => ?_)
  go_simp
  refine (Compare_val 5 5 0 _ (by decide)).mono ?_
  rintro e w3 ⟨rfl, rfl⟩
  refine hK.out _ _ R2.rd ?_
  clear hK K
  try simp only [Act.put, List.setIfInBounds_toArray, List.set_cons_zero, List.set_cons_succ]
  refine wpAnyG_one (i := 11) rfl (by kernel_rfl) (fun K hK => ?_)
  go_simp
  refine (Compare_val 1 2 (-1) _ (by decide)).mono ?_
  rintro e w4 ⟨rfl, rfl⟩
  refine hK.out _ _ R2.rd ?_
  clear hK K
  try simp only [Act.put, List.setIfInBounds_toArray, List.set_cons_zero, List.set_cons_succ]
  refine wpAnyG_one (i := 16) rfl (by kernel_rfl) (fun K hK => ?_)
  go_simp
  refine (Compare_val 2 1 1 _ (by decide)).mono ?_
  rintro e w5 ⟨rfl, rfl⟩
  refine hK.out _ _ R2.rd ?_
  clear hK K
  try simp only [Act.put, List.setIfInBounds_toArray, List.set_cons_zero, List.set_cons_succ]
  refine wpAnyG_one (i := 17) rfl (by kernel_rfl) (fun K hK => ?_)
  go_simp
  have R3 := R2.alloc (.cells #[.int .i64 0, .int .i64 (-1), .int .i64 1] 3)
  refine hK.out _ _ R3.rd ?_
  clear hK K
  try simp only [Act.put, List.setIfInBounds_toArray, List.set_cons_zero, List.set_cons_succ]
  refine wpAnyG_one (i := 18) rfl (by kernel_rfl) (fun K hK => ?_)
  go_simp
  have C3 := Cl.new [.int .i64 0, .int .i64 (-1), .int .i64 1] 3 w5
  refine (Or_val w5.heap.size 3 _ C3.lt (by decide) (C3.cell 0) (C3.cell 1)).mono ?_
  rintro e w6 ⟨rfl, k6⟩
  have R4 := R3.below k6
  refine hK.out _ _ R4.rd ?_
  clear hK K
  try simp only [Act.put, List.setIfInBounds_toArray, List.set_cons_zero, List.set_cons_succ]
  refine wpAnyG_last (i := 19) rfl (by kernel_rfl) (by kernel_rfl) (fun K hK => ?_)
  go_simp
  refine hK.out _ _ ?_
  clear hK K
  try simp only [Act.put, List.setIfInBounds_toArray, List.set_cons_zero, List.set_cons_succ]
  refine wpAnyG_done (by kernel_rfl) ?_ _
  have HK6 : Hid (Below w.heap.size w w6) := R4.k
  clear hHeld R0 R1 R2 R3 R4 C3 k1 k2 k6
  go_wp2_with fail
  go_ret
  exact ⟨rfl, HK6.out⟩

end Go.Proofs.YtoionlnbodfhlacGreatDoor
