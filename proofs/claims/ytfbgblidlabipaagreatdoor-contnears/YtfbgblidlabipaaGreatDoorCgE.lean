/- The program: cont.pair.plus, climb. -/
import Derived.Test.YtfbgblidlabipaaGreatDoorJoinR
import Derived.Test.YtfbgblidlabipaaGreatDoorJoinS
set_option linter.unusedSimpArgs false
set_option linter.unusedVariables false
set_option maxRecDepth 100000
namespace Go.Proofs.YtfbgblidlabipaaGreatDoor
open Go.RowKit LgM

abbrev S4p (b : Nat) (vx vy wx wy : Value) (w : World) : Prop := w.cell? ⟨b, 0, none⟩ = some vx ∧ w.cell? ⟨b, 1, none⟩ = some vy ∧ w.cell? ⟨b + 1, 0, none⟩ = some wx ∧ w.cell? ⟨b + 1, 1, none⟩ = some wy
structure Pp3 (b : Nat) (vx vy wx wy : Value) (w : World) : Prop where
  v : Cl b [vx, vy] 120 w
  u : Cl (b + 1) [wx, wy] 120 w
  z : Cl (b + 2) [.slice none 0 0, .slice none 0 0] 120 w
theorem Pp3.below {b B : Nat} {vx vy wx wy : Value} {w w' : World} (h : Pp3 b vx vy wx wy w) (k : Below B w w') (hB : b + 3 ≤ B) : Pp3 b vx vy wx wy w' :=
  ⟨(k.block _ (by omega)).trans h.v, (k.block _ (by omega)).trans h.u, (k.block _ (by omega)).trans h.z⟩
theorem Pp3.held {b : Nat} {vx vy wx wy : Value} {w : World} (h : Pp3 b vx vy wx wy w) : S4p b vx vy wx wy w := ⟨h.v.cell 0, h.v.cell 1, h.u.cell 0, h.u.cell 1⟩
theorem Pp3.start (vx vy wx wy : Value) (w : World) : Pp3 w.heap.size vx vy wx wy (((w.alloc (.cells #[vx, vy] 120)).alloc (.cells #[wx, wy] 120)).alloc (.cells #[.slice none 0 0, .slice none 0 0] 120)) := by
  refine ⟨((Cl.new [vx, vy] _ w).alloc _).alloc _, ?_, ?_⟩
  · have := (Cl.new [wx, wy] 120 (w.alloc (.cells #[vx, vy] 120))).alloc (.cells #[.slice none 0 0, .slice none 0 0] 120)
    rw [World.size_alloc] at this
    exact this
  · have := (Cl.new [.slice none 0 0, .slice none 0 0] 120 ((w.alloc (.cells #[vx, vy] 120)).alloc (.cells #[wx, wy] 120)))
    rw [World.size_alloc, World.size_alloc] at this
    exact this

theorem mul_lt2 {x t m : Nat} (h : x < Bs ^ m) (ht : t ≤ 1000000000) : x * t < Bs ^ (m + 2) := by
  have h3 : x * t ≤ x * (Bs * Bs) := Nat.mul_le_mul_left _ (Nat.le_trans ht (by decide))
  have h4 : x * (Bs * Bs) < Bs ^ m * (Bs * Bs) := Nat.mul_lt_mul_of_pos_right h (by decide)
  rw [show m + 2 = m + 1 + 1 from rfl, pow_s, pow_s, Nat.mul_assoc]; omega
theorem lt_more {x m : Nat} (h : x < Bs ^ m) : x < Bs ^ (m + 2) := Nat.lt_of_lt_of_le h (Nat.pow_le_pow_right (by decide) (by omega))

theorem LN.slice {w : World} {v : Value} {n : Nat} (h : LN w v n) : ∃ a k c, v = .slice a k c := by
  obtain ⟨k, a, _, _, c, h, _⟩ := h.open; exact ⟨a, k, c, h⟩

/-- A write to a block that holds no number leaves a list of numbers as it is. -/
theorem IS.setc {w : World} {s : Value} {xs : List Int} {b o' : Nat} {l : List Value} {T : TypeId} (h : IS w s xs) (hc : Cl b l T w) (hl : ∀ u ∈ l, ∀ z, u ≠ .int .i64 z) (v : Value) : IS (w.setCell ⟨b, o', none⟩ v) s xs := by
  obtain ⟨a, g, o, c, e, p, cell, lt⟩ := h.shape
  refine ⟨a, g, o, c, e, p, fun i hi => ?_, fun hp => by have := lt hp; simpa [World.setCell] using this⟩
  have hg : g ≠ b := by
    rintro rfl
    have h1 := cell i hi
    rw [hc.cell] at h1
    exact hl _ (List.mem_of_getElem? h1) _ rfl
  rw [World.cell?_of_block (w := w) (a := ⟨g, o + i, none⟩) (Below.heap_setCell w _ v g hg)]
  exact cell i hi
theorem LN.setc {w : World} {s : Value} {n : Nat} {b o' : Nat} {l : List Value} {T : TypeId} (h : LN w s n) (hc : Cl b l T w) (hl : ∀ u ∈ l, ∀ z, u ≠ .int .i64 z) (v : Value) : LN (w.setCell ⟨b, o', none⟩ v) s n := by
  obtain ⟨k, h1, h2⟩ := h
  exact ⟨k, h1, h2.setc hc hl v⟩

set_option maxHeartbeats 4000000 in
theorem pplus_any (vx vy wx wy : Value) (x y X Y t m : Nat) (w : World) (hx : LN w vx x) (hy : LN w vy y) (hX : LN w wx X) (hY : LN w wy Y) (hxm : x < Bs ^ m) (hym : y < Bs ^ m) (hXm : X < Bs ^ m) (hYm : Y < Bs ^ m) (hm : m ≤ 10000) (ht : t ≤ 1000000000) :
    Calls Tryz.prog 136 #[.agg #[vx, vy], .int .i64 (t : Int), .agg #[wx, wy]] w fun e w' => ∃ a b, e = .returned (.agg #[a, b]) ∧ LN w' a (x + X * t) ∧ LN w' b (y + Y * t) ∧ Below w.heap.size w w' := by
  obtain ⟨a1, k1, c1, rfl⟩ := hx.slice
  obtain ⟨a2, k2, c2, rfl⟩ := hy.slice
  obtain ⟨a3, k3, c3, rfl⟩ := hX.slice
  obtain ⟨a4, k4, c4, rfl⟩ := hY.slice
  have HX1 : Hid (LN w (.slice a1 k1 c1) x) := hx
  have HX2 : Hid (LN w (.slice a2 k2 c2) y) := hy
  have HX3 : Hid (LN w (.slice a3 k3 c3) X) := hX
  have HX4 : Hid (LN w (.slice a4 k4 c4) Y) := hY
  have HM : Hid (x < Bs ^ m ∧ y < Bs ^ m ∧ X < Bs ^ m ∧ Y < Bs ^ m) := ⟨hxm, hym, hXm, hYm⟩
  clear hx hy hX hY hxm hym hXm hYm
  have P0 := Pp3.start (.slice a1 k1 c1) (.slice a2 k2 c2) (.slice a3 k3 c3) (.slice a4 k4 c4) w
  obtain ⟨W0, hW0⟩ : ∃ W0, W0 = (((w.alloc (.cells #[.slice a1 k1 c1, .slice a2 k2 c2] 120)).alloc (.cells #[.slice a3 k3 c3, .slice a4 k4 c4] 120)).alloc (.cells #[.slice none 0 0, .slice none 0 0] 120)) := ⟨_, rfl⟩
  rw [← hW0] at P0
  have z0 : W0.heap.size = w.heap.size + 3 := by rw [hW0]; simp
  have KB0 : Hid (Below w.heap.size w W0) := by
    show Below _ _ _
    rw [hW0]; exact (((Below.refl _ _).alloc (Nat.le_refl _) _).alloc (by simp) _).alloc (by simp; omega) _
  go_enter Tryz.func136, Tryz.ntmps136
  go_wp2
  rw [← hW0]
  clear hW0
  refine wp_region_G (S4p w.heap.size (.slice a1 k1 c1) (.slice a2 k2 c2) (.slice a3 k3 c3) (.slice a4 k4 c4)) 15 (by kernel_rfl) P0.held (fun hHeld => ?_)
  refine wpAnyG_take (i := 0) (v := ?v0x1) rfl (by kernel_rfl) (fun _ _ _ h => h) (Or.inl ⟨by rfl, ?y0x1⟩) hHeld ?r0x1
  case y0x1 => (intro wS hSw; obtain ⟨s1, s2, s3, s4⟩ := hSw; go_simp; try with_reducible rfl)
  try simp only [Act.put, List.setIfInBounds_toArray, List.set_cons_zero, List.set_cons_succ]
  refine wpAnyG_take (i := 1) (v := ?v1x2) rfl (by kernel_rfl) (fun _ _ _ h => h) (Or.inl ⟨by rfl, ?y1x2⟩) hHeld ?r1x2
  case y1x2 => (intro wS hSw; obtain ⟨s1, s2, s3, s4⟩ := hSw; go_simp; try with_reducible rfl)
  try simp only [Act.put, List.setIfInBounds_toArray, List.set_cons_zero, List.set_cons_succ]
  refine wpAnyG_take (i := 2) (v := ?v2x3) rfl (by kernel_rfl) (fun _ _ _ h => h) (Or.inl ⟨by rfl, ?y2x3⟩) hHeld ?r2x3
  case y2x3 => (intro wS hSw; obtain ⟨s1, s2, s3, s4⟩ := hSw; go_simp; try with_reducible rfl)
  try simp only [Act.put, List.setIfInBounds_toArray, List.set_cons_zero, List.set_cons_succ]
  refine wpAnyG_take (i := 3) (v := ?v3x4) rfl (by kernel_rfl) (fun _ _ _ h => h) (Or.inl ⟨by rfl, ?y3x4⟩) hHeld ?r3x4
  case y3x4 => (intro wS hSw; obtain ⟨s1, s2, s3, s4⟩ := hSw; go_simp; try with_reducible rfl)
  try simp only [Act.put, List.setIfInBounds_toArray, List.set_cons_zero, List.set_cons_succ]
  refine wpAnyG_take (i := 4) (v := ?v4x5) rfl (by kernel_rfl) (fun _ _ _ h => h) (Or.inl ⟨by rfl, ?y4x5⟩) hHeld ?r4x5
  case y4x5 => (intro wS hSw; obtain ⟨s1, s2, s3, s4⟩ := hSw; go_simp; try with_reducible rfl)
  try simp only [Act.put, List.setIfInBounds_toArray, List.set_cons_zero, List.set_cons_succ]
  refine wpAnyG_take (i := 7) (v := ?v7x6) rfl (by kernel_rfl) (fun _ _ _ h => h) (Or.inl ⟨by rfl, ?y7x6⟩) hHeld ?r7x6
  case y7x6 => (intro wS hSw; obtain ⟨s1, s2, s3, s4⟩ := hSw; go_simp; try with_reducible rfl)
  try simp only [Act.put, List.setIfInBounds_toArray, List.set_cons_zero, List.set_cons_succ]
  refine wpAnyG_take (i := 8) (v := ?v8x7) rfl (by kernel_rfl) (fun _ _ _ h => h) (Or.inl ⟨by rfl, ?y8x7⟩) hHeld ?r8x7
  case y8x7 => (intro wS hSw; obtain ⟨s1, s2, s3, s4⟩ := hSw; go_simp; try with_reducible rfl)
  try simp only [Act.put, List.setIfInBounds_toArray, List.set_cons_zero, List.set_cons_succ]
  refine wpAnyG_take (i := 9) (v := ?v9x8) rfl (by kernel_rfl) (fun _ _ _ h => h) (Or.inl ⟨by rfl, ?y9x8⟩) hHeld ?r9x8
  case y9x8 => (intro wS hSw; obtain ⟨s1, s2, s3, s4⟩ := hSw; go_simp; try with_reducible rfl)
  try simp only [Act.put, List.setIfInBounds_toArray, List.set_cons_zero, List.set_cons_succ]
  refine wpAnyG_take (i := 10) (v := ?v10x9) rfl (by kernel_rfl) (fun _ _ _ h => h) (Or.inl ⟨by rfl, ?y10x9⟩) hHeld ?r10x9
  case y10x9 => (intro wS hSw; obtain ⟨s1, s2, s3, s4⟩ := hSw; go_simp; try with_reducible rfl)
  try simp only [Act.put, List.setIfInBounds_toArray, List.set_cons_zero, List.set_cons_succ]
  refine wpAnyG_take (i := 11) (v := ?v11x10) rfl (by kernel_rfl) (fun _ _ _ h => h) (Or.inl ⟨by rfl, ?y11x10⟩) hHeld ?r11x10
  case y11x10 => (intro wS hSw; obtain ⟨s1, s2, s3, s4⟩ := hSw; go_simp; try with_reducible rfl)
  try simp only [Act.put, List.setIfInBounds_toArray, List.set_cons_zero, List.set_cons_succ]
  refine wpAnyG_one (i := 5) rfl (by kernel_rfl) (fun K hK => ?_)
  go_simp
  refine (Times_any _ X t m _ (HX3.out.below KB0.out.drew) HM.out.2.2.1 (by omega) ht).mono ?_
  rintro e w1 ⟨r1, rfl, n1, k1'⟩
  obtain ⟨b1, l1, d1, rfl⟩ := n1.slice
  have B1 : Below w.heap.size w w1 := KB0.out.drew.trans (k1'.mono (by show _ ≤ W0.heap.size; omega))
  have P1 := P0.below ((Below.refl (w.heap.size + 3) W0).drew.trans (k1'.mono (by show _ ≤ W0.heap.size; omega))) (Nat.le_refl _)
  have z1 : w.heap.size + 3 ≤ w1.heap.size := by have := k1'.size; have e : W0.drew.heap.size = W0.heap.size := rfl; omega
  refine hK.out _ _ P1.held ?_
  clear hK K
  try simp only [Act.put, List.setIfInBounds_toArray, List.set_cons_zero, List.set_cons_succ]
  clear hHeld
  have hHeld := P1.held
  refine wpAnyG_one (i := 6) rfl (by kernel_rfl) (fun K hK => ?_)
  go_simp
  refine (Plus_any _ _ x (X * t) (m + 2) w1 (HX1.out.below B1) n1 (lt_more HM.out.1) (mul_lt2 HM.out.2.2.1 ht) (by omega)).mono ?_
  rintro e w2 ⟨r2, rfl, n2, k2'⟩
  obtain ⟨b2, l2, d2, rfl⟩ := n2.slice
  have B2 : Below w.heap.size w w2 := B1.trans (k2'.mono (by omega))
  have P2 := P1.below (k2'.mono z1) (Nat.le_refl _)
  have z2 : w.heap.size + 3 ≤ w2.heap.size := Nat.le_trans z1 k2'.size
  refine hK.out _ _ P2.held ?_
  clear hK K
  try simp only [Act.put, List.setIfInBounds_toArray, List.set_cons_zero, List.set_cons_succ]
  clear hHeld
  have hHeld := P2.held
  refine wpAnyG_one (i := 12) rfl (by kernel_rfl) (fun K hK => ?_)
  go_simp
  refine (Times_any _ Y t m _ (HX4.out.below B2) HM.out.2.2.2 (by omega) ht).mono ?_
  rintro e w3 ⟨r3, rfl, n3, k3'⟩
  obtain ⟨b3, l3, d3, rfl⟩ := n3.slice
  have B3 : Below w.heap.size w w3 := B2.trans (k3'.mono (by omega))
  have P3 := P2.below (k3'.mono z2) (Nat.le_refl _)
  have z3 : w.heap.size + 3 ≤ w3.heap.size := Nat.le_trans z2 k3'.size
  have n23 := n2.below k3'
  refine hK.out _ _ P3.held ?_
  clear hK K
  try simp only [Act.put, List.setIfInBounds_toArray, List.set_cons_zero, List.set_cons_succ]
  clear hHeld
  have hHeld := P3.held
  refine wpAnyG_one (i := 13) rfl (by kernel_rfl) (fun K hK => ?_)
  go_simp
  refine (Plus_any _ _ y (Y * t) (m + 2) w3 (HX2.out.below B3) n3 (lt_more HM.out.2.1) (mul_lt2 HM.out.2.2.2 ht) (by omega)).mono ?_
  rintro e w4 ⟨r4, rfl, n4, k4'⟩
  obtain ⟨b4, l4, d4, rfl⟩ := n4.slice
  have B4 : Below w.heap.size w w4 := B3.trans (k4'.mono (by omega))
  have P4 := P3.below (k4'.mono z3) (Nat.le_refl _)
  have z4 : w.heap.size + 3 ≤ w4.heap.size := Nat.le_trans z3 k4'.size
  have n24 := n23.below k4'
  refine hK.out _ _ P4.held ?_
  clear hK K
  try simp only [Act.put, List.setIfInBounds_toArray, List.set_cons_zero, List.set_cons_succ]
  clear hHeld
  have hHeld := P4.held
  have HB4 : Hid (Below w.heap.size w w4) := B4
  have HP4 : Hid (Pp3 w.heap.size (.slice a1 k1 c1) (.slice a2 k2 c2) (.slice a3 k3 c3) (.slice a4 k4 c4) w4) := P4
  have HN24 : Hid (LN w4 (.slice b2 l2 d2) (x + X * t)) := n24
  have HN4 : Hid (LN w4 (.slice b4 l4 d4) (y + Y * t)) := n4
  have e0 := P4.z.cell 0
  have e1 := P4.z.cell 1
  have g0 := P4.z.frozen 0
  have g1 := P4.z.frozen 1
  simp at e0 e1
  clear n1 n2 n3 n4 n23 n24 k1' k2' k3' k4' B1 B2 B3 B4 P0 P1 P2 P3 P4
  refine wpAnyG_take (i := 14) (v := ?v14x11) rfl (by kernel_rfl) (fun _ _ _ h => h) (Or.inl ⟨by rfl, ?y14x11⟩) hHeld ?r14x11
  case y14x11 => (intro wS hSw; obtain ⟨s1, s2, s3, s4⟩ := hSw; go_simp; try with_reducible rfl)
  try simp only [Act.put, List.setIfInBounds_toArray, List.set_cons_zero, List.set_cons_succ]
  refine wpAnyG_last (i := 15) rfl (by kernel_rfl) (by kernel_rfl) (fun K hK => ?_)
  go_simp
  refine hK.out _ _ ?_
  clear hK K
  try simp only [Act.put, List.setIfInBounds_toArray, List.set_cons_zero, List.set_cons_succ]
  refine wpAnyG_done (by kernel_rfl) ?_ _
  have Z1 : Cl (w.heap.size + 2) [.slice b2 l2 d2, .slice none 0 0] 120 (w4.setCell ⟨w.heap.size + 1 + 1, 0, none⟩ (.slice b2 l2 d2)) := HP4.out.z.set 0 (.slice b2 l2 d2)
  have Z2 : Cl (w.heap.size + 2) [.slice b2 l2 d2, .slice b4 l4 d4] 120 ((w4.setCell ⟨w.heap.size + 1 + 1, 0, none⟩ (.slice b2 l2 d2)).setCell ⟨w.heap.size + 1 + 1, 1, none⟩ (.slice b4 l4 d4)) := Z1.set 1 (.slice b4 l4 d4)
  have L1 : LN ((w4.setCell ⟨w.heap.size + 1 + 1, 0, none⟩ (.slice b2 l2 d2)).setCell ⟨w.heap.size + 1 + 1, 1, none⟩ (.slice b4 l4 d4)) (.slice b2 l2 d2) (x + X * t) :=
    (HN24.out.setc HP4.out.z (by simp) _).setc Z1 (by simp) _
  have L2 : LN ((w4.setCell ⟨w.heap.size + 1 + 1, 0, none⟩ (.slice b2 l2 d2)).setCell ⟨w.heap.size + 1 + 1, 1, none⟩ (.slice b4 l4 d4)) (.slice b4 l4 d4) (y + Y * t) :=
    (HN4.out.setc HP4.out.z (by simp) _).setc Z1 (by simp) _
  have KF : Below w.heap.size w ((w4.setCell ⟨w.heap.size + 1 + 1, 0, none⟩ (.slice b2 l2 d2)).setCell ⟨w.heap.size + 1 + 1, 1, none⟩ (.slice b4 l4 d4)) :=
    (HB4.out.setCell (by show w.heap.size ≤ w.heap.size + 1 + 1; omega) _).setCell (by show w.heap.size ≤ w.heap.size + 1 + 1; omega) _
  generalize hWF : (w4.setCell ⟨w.heap.size + 1 + 1, 0, none⟩ (.slice b2 l2 d2)).setCell ⟨w.heap.size + 1 + 1, 1, none⟩ (.slice b4 l4 d4) = WF at Z2 L1 L2 KF ⊢
  have f0 := Z2.cell 0
  have f1 := Z2.cell 1
  simp at f0 f1
  have HL1 : Hid (LN WF (.slice b2 l2 d2) (x + X * t)) := L1
  have HL2 : Hid (LN WF (.slice b4 l4 d4) (y + Y * t)) := L2
  have HKF : Hid (Below w.heap.size w WF) := KF
  clear hWF Z1 Z2 L1 L2 KF hHeld e0 e1 g0 g1
  go_wp2
  exact bodyPost_ret (v := .agg #[.slice b2 l2 d2, .slice b4 l4 d4]) (by simp [results, Tryz.results136, go_sem, f0, f1]) rfl ⟨_, _, rfl, HL1.out, HL2.out, HKF.out⟩

end Go.Proofs.YtfbgblidlabipaaGreatDoor
