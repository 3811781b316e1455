import Derived.Test.YtnkjadpmigpneaaGreatDoorJpI
set_option linter.unusedSimpArgs false
set_option linter.unusedVariables false
set_option maxRecDepth 100000
namespace Go.Proofs.YtnkjadpmigpneaaGreatDoor
open Go.RowKit LgM
structure Sb (b : Nat) (vx vy : Value) (p q : Bool) (w : World) : Prop where
  x : Cl b [vx, .bool p] 66 w
  y : Cl (b + 1) [vy, .bool q] 66 w
  z : Cl (b + 2) [.slice none 0 0, .bool false] 66 w
theorem Sb.below {b B : Nat} {vx vy : Value} {p q : Bool} {w w' : World} (h : Sb b vx vy p q w) (k : Below B w w') (hB : b + 3 ≤ B) : Sb b vx vy p q w' :=
  ⟨(k.block _ (by omega)).trans h.x, (k.block _ (by omega)).trans h.y, (k.block _ (by omega)).trans h.z⟩
theorem Sb.start (vx vy : Value) (p q : Bool) (w : World) : Sb w.heap.size vx vy p q (((w.alloc (.cells #[vx, .bool p] 66)).alloc (.cells #[vy, .bool q] 66)).alloc (.cells #[.slice none 0 0, .bool false] 66)) := by
  refine ⟨((Cl.new [vx, .bool p] _ w).alloc _).alloc _, ?_, ?_⟩
  · have := (Cl.new [vy, .bool q] 66 (w.alloc (.cells #[vx, .bool p] 66))).alloc (.cells #[.slice none 0 0, .bool false] 66)
    simpa using this
  · have := (Cl.new [.slice none 0 0, .bool false] 66 ((w.alloc (.cells #[vx, .bool p] 66)).alloc (.cells #[vy, .bool q] 66)))
    simpa using this
theorem prod_flag (x y : Int) : ((decide (x < 0) != decide (y < 0)) && decide ((x * y).natAbs ≠ 0)) = decide (x * y < 0) := by
  rcases Int.lt_trichotomy x 0 with h1 | h1 | h1
  · rcases Int.lt_trichotomy y 0 with h2 | h2 | h2
    · have := Int.mul_pos_of_neg_of_neg h1 h2
      simp [h1, h2]; omega
    · subst h2; simp
    · have := Int.mul_neg_of_neg_of_pos h1 h2
      have h3 : ¬ y < 0 := by omega
      have h4 : ¬ (x = 0 ∨ y = 0) := by omega
      simp [h1, h3, this, h4]; omega
  · subst h1; simp
  · have h5 : ¬ x < 0 := by omega
    rcases Int.lt_trichotomy y 0 with h2 | h2 | h2
    · have := Int.mul_neg_of_pos_of_neg h1 h2
      simp [h5, h2, this]; omega
    · subst h2; simp
    · have := Int.mul_pos h1 h2
      have h3 : ¬ y < 0 := by omega
      simp [h5, h3]; omega
set_option maxHeartbeats 2000000 in
theorem SProduct_any (vx vy : Value) (x y : Int) (m : Nat) (w : World) (hx : LN w vx x.natAbs) (hy : LN w vy y.natAbs) (hxm : x.natAbs < Bs ^ m) (hym : y.natAbs < Bs ^ m) (hm : m ≤ 100000000) :
    Calls Tryz.prog 84 #[.agg #[vx, .bool (decide (x < 0))], .agg #[vy, .bool (decide (y < 0))]] w fun e w' => ∃ v, e = .returned (.agg #[v, .bool (decide (x * y < 0))]) ∧ LN w' v (x * y).natAbs ∧ Below w.heap.size w w' := by
  obtain ⟨ax, kx, cx, rfl⟩ := hx.shape
  obtain ⟨ay, ky, cy, rfl⟩ := hy.shape
  obtain ⟨p, hp⟩ : ∃ p, p = decide (x < 0) := ⟨_, rfl⟩
  obtain ⟨q, hq⟩ : ∃ q, q = decide (y < 0) := ⟨_, rfl⟩
  rw [← hp, ← hq]
  have HPQ : Hid (p = decide (x < 0) ∧ q = decide (y < 0)) := ⟨hp, hq⟩
  have P0 := Sb.start (.slice ax kx cx) (.slice ay ky cy) p q w
  obtain ⟨W0, hW0⟩ : ∃ W0, W0 = (((w.alloc (.cells #[.slice ax kx cx, .bool p] 66)).alloc (.cells #[.slice ay ky cy, .bool q] 66)).alloc (.cells #[.slice none 0 0, .bool false] 66)) := ⟨_, rfl⟩
  rw [← hW0] at P0
  have z0 : W0.heap.size = w.heap.size + 3 := by rw [hW0]; simp
  have KB0 : Hid (Below w.heap.size w W0) := by
    show Below _ _ _
    rw [hW0]; exact (((Below.refl _ _).alloc (Nat.le_refl _) _).alloc (by simp) _).alloc (by simp; omega) _
  have HP0 : Hid (Sb w.heap.size (.slice ax kx cx) (.slice ay ky cy) p q W0) := P0
  have HZ0 : Hid (w.heap.size + 3 = W0.heap.size) := z0.symm
  have HXw : Hid (∀ W, Below W0.heap.size W0 W → LN W (.slice ax kx cx) x.natAbs ∧ LN W (.slice ay ky cy) y.natAbs) := fun W k => ⟨(hx.below KB0.out).below k, (hy.below KB0.out).below k⟩
  have HM : Hid (x.natAbs < Bs ^ m ∧ y.natAbs < Bs ^ m) := ⟨hxm, hym⟩
  have HS : Hid (∀ W, Below W0.heap.size W0 W → (W.cell? ⟨w.heap.size, 0, none⟩ = some (.slice ax kx cx) ∧ W.cell? ⟨w.heap.size, 1, none⟩ = some (.bool p)) ∧ (W.cell? ⟨w.heap.size + 1, 0, none⟩ = some (.slice ay ky cy) ∧ W.cell? ⟨w.heap.size + 1, 1, none⟩ = some (.bool q))) := fun W k => by
    have h := HP0.out.below k (Nat.le_of_eq HZ0.out)
    have a1 := h.x.cell 0
    have a2 := h.x.cell 1
    have a3 := h.y.cell 0
    have a4 := h.y.cell 1
    simp at a1 a2 a3 a4
    exact ⟨⟨a1, a2⟩, ⟨a3, a4⟩⟩
  have hS0 := HS.out W0 (Below.refl _ _)
  clear P0 z0 hx hy hxm hym hp hq
  go_enter Tryz.func84, Tryz.ntmps84
  go_wp2
  rw [← hW0]
  clear hW0
  refine wp_region_G (fun W => (W.cell? ⟨w.heap.size, 0, none⟩ = some (.slice ax kx cx) ∧ W.cell? ⟨w.heap.size, 1, none⟩ = some (.bool p)) ∧ (W.cell? ⟨w.heap.size + 1, 0, none⟩ = some (.slice ay ky cy) ∧ W.cell? ⟨w.heap.size + 1, 1, none⟩ = some (.bool q))) 11 (by kernel_rfl) hS0 (fun hHeld => ?_)
  refine wpAnyG_take (i := 0) (v := ?v0x1) rfl (by kernel_rfl) (fun _ _ _ h => h) (Or.inl ⟨by rfl, ?y0x1⟩) hHeld ?r0x1
  case y0x1 => (intro wS hSw; obtain ⟨⟨s1, s2⟩, s3, s4⟩ := hSw; go_simp; try with_reducible rfl)
  try simp only [Act.put, List.setIfInBounds_toArray, List.set_cons_zero, List.set_cons_succ]
  refine wpAnyG_take (i := 1) (v := ?v1x2) rfl (by kernel_rfl) (fun _ _ _ h => h) (Or.inl ⟨by rfl, ?y1x2⟩) hHeld ?r1x2
  case y1x2 => (intro wS hSw; obtain ⟨⟨s1, s2⟩, s3, s4⟩ := hSw; go_simp; try with_reducible rfl)
  try simp only [Act.put, List.setIfInBounds_toArray, List.set_cons_zero, List.set_cons_succ]
  refine wpAnyG_take (i := 2) (v := ?v2x3) rfl (by kernel_rfl) (fun _ _ _ h => h) (Or.inl ⟨by rfl, ?y2x3⟩) hHeld ?r2x3
  case y2x3 => (intro wS hSw; obtain ⟨⟨s1, s2⟩, s3, s4⟩ := hSw; go_simp; try with_reducible rfl)
  try simp only [Act.put, List.setIfInBounds_toArray, List.set_cons_zero, List.set_cons_succ]
  refine wpAnyG_take (i := 3) (v := ?v3x4) rfl (by kernel_rfl) (fun _ _ _ h => h) (Or.inl ⟨by rfl, ?y3x4⟩) hHeld ?r3x4
  case y3x4 => (intro wS hSw; obtain ⟨⟨s1, s2⟩, s3, s4⟩ := hSw; go_simp; try with_reducible rfl)
  try simp only [Act.put, List.setIfInBounds_toArray, List.set_cons_zero, List.set_cons_succ]
  refine wpAnyG_take (i := 5) (v := ?v5x5) rfl (by kernel_rfl) (fun _ _ _ h => h) (Or.inl ⟨by rfl, ?y5x5⟩) hHeld ?r5x5
  case y5x5 => (intro wS hSw; obtain ⟨⟨s1, s2⟩, s3, s4⟩ := hSw; go_simp; try with_reducible rfl)
  try simp only [Act.put, List.setIfInBounds_toArray, List.set_cons_zero, List.set_cons_succ]
  refine wpAnyG_take (i := 6) (v := ?v6x6) rfl (by kernel_rfl) (fun _ _ _ h => h) (Or.inl ⟨by rfl, ?y6x6⟩) hHeld ?r6x6
  case y6x6 => (intro wS hSw; obtain ⟨⟨s1, s2⟩, s3, s4⟩ := hSw; go_simp; try with_reducible rfl)
  try simp only [Act.put, List.setIfInBounds_toArray, List.set_cons_zero, List.set_cons_succ]
  refine wpAnyG_take (i := 7) (v := ?v7x7) rfl (by kernel_rfl) (fun _ _ _ h => h) (Or.inl ⟨by rfl, ?y7x7⟩) hHeld ?r7x7
  case y7x7 => (intro wS hSw; obtain ⟨⟨s1, s2⟩, s3, s4⟩ := hSw; go_simp; try with_reducible rfl)
  try simp only [Act.put, List.setIfInBounds_toArray, List.set_cons_zero, List.set_cons_succ]
  refine wpAnyG_take (i := 8) (v := ?v8x8) rfl (by kernel_rfl) (fun _ _ _ h => h) (Or.inl ⟨by rfl, ?y8x8⟩) hHeld ?r8x8
  case y8x8 => (intro wS hSw; obtain ⟨⟨s1, s2⟩, s3, s4⟩ := hSw; go_simp; try with_reducible rfl)
  try simp only [Act.put, List.setIfInBounds_toArray, List.set_cons_zero, List.set_cons_succ]
  refine wpAnyG_take (i := 9) (v := ?v9x9) rfl (by kernel_rfl) (fun _ _ _ h => h) (Or.inl ⟨by rfl, ?y9x9⟩) hHeld ?r9x9
  case y9x9 => (intro wS hSw; obtain ⟨⟨s1, s2⟩, s3, s4⟩ := hSw; go_simp; try with_reducible rfl)
  try simp only [Act.put, List.setIfInBounds_toArray, List.set_cons_zero, List.set_cons_succ]
  refine wpAnyG_one (i := 4) rfl (by kernel_rfl) (fun K hK => ?_)
  go_simp
  refine (NProduct_any _ _ x.natAbs y.natAbs m W0.drew (HXw.out _ (Below.refl _ _).drew).1 (HXw.out _ (Below.refl _ _).drew).2 HM.out.1 HM.out.2 hm).mono ?_
  rintro e w2 ⟨v, rfl, hv, k2⟩
  obtain ⟨av, kv, cv, rfl⟩ := hv.shape
  rw [← Int.natAbs_mul] at hv
  have HV2 : Hid (LN w2 (.slice av kv cv) (x * y).natAbs) := hv
  have HK2 : Hid (Below W0.heap.size W0 w2) := (Below.refl _ _).drew.trans k2
  refine hK.out _ _ (HS.out _ HK2.out) ?_
  clear hv k2
  clear hK K
  try simp only [Act.put, List.setIfInBounds_toArray, List.set_cons_zero, List.set_cons_succ]
  clear hHeld
  have hHeld := HS.out _ HK2.out
  obtain ⟨fl, hfl⟩ : ∃ fl, fl = ((p != q) && decide ((x * y).natAbs ≠ 0)) := ⟨_, rfl⟩
  have HFl : Hid (fl = decide (x * y < 0)) := by show _ = _; rw [hfl, HPQ.out.1, HPQ.out.2]; exact prod_flag x y
  refine wpAnyG_one (i := 10) rfl (by kernel_rfl) (fun K hK => ?_)
  go_simp
  have hc := signed_any (.slice av kv cv) (x * y).natAbs (p != q) w2 HV2.out
  rw [← hfl] at hc
  clear hfl
  refine hc.mono ?_
  rintro e w3 ⟨rfl, k3⟩
  have HKW : Hid (Below W0.heap.size W0 w3) := HK2.out.trans (k3.mono HK2.out.size)
  have HV : Hid (LN w3 (.slice av kv cv) (x * y).natAbs) := HV2.out.below k3
  refine hK.out _ _ (HS.out _ HKW.out) ?_
  clear hc k3
  clear hK K
  try simp only [Act.put, List.setIfInBounds_toArray, List.set_cons_zero, List.set_cons_succ]
  clear hHeld
  have HP4 : Hid (Cl (w.heap.size + 2) [.slice none 0 0, .bool false] 66 w3) := (HP0.out.below HKW.out (Nat.le_of_eq HZ0.out)).z
  have u1 := HP4.out.cell 0
  have u2 := HP4.out.cell 1
  have u3 := HP4.out.frozen 0
  have u4 := HP4.out.frozen 1
  simp at u1 u2
  refine wpAnyG_last (i := 11) rfl (by kernel_rfl) (by kernel_rfl) (fun K hK => ?_)
  go_simp
  refine hK.out _ _ ?_
  clear hK K
  try simp only [Act.put, List.setIfInBounds_toArray, List.set_cons_zero, List.set_cons_succ]
  refine wpAnyG_done (by kernel_rfl) ?_ _
  clear u1 u2 u3 u4
  go_wp2
  have C3 := HP4.out.two (.slice av kv cv) (.bool fl)
  have e1 := C3.cell 0
  have e2 := C3.cell 1
  simp at e1 e2
  refine bodyPost_ret (v := .agg #[.slice av kv cv, .bool fl]) (by simp [results, Tryz.results84, go_sem, e1, e2]) rfl ⟨_, by rw [HFl.out], ?_, ?_⟩
  · exact HV.out.setTwo HP4.out
  · exact ((KB0.out.trans (HKW.out.mono (by have := HZ0.out; omega))).setCell (by simp; omega) _).setCell (by simp; omega) _
end Go.Proofs.YtnkjadpmigpneaaGreatDoor
