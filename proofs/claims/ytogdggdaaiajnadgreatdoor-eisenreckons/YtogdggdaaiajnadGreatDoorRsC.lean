/- familyBy at the example (4 by 3 and by 5). -/
import Derived.Test.YtogdggdaaiajnadGreatDoorRsB
import Derived.Test.YtogdggdaaiajnadGreatDoorRegionG
set_option linter.unusedSimpArgs false
set_option linter.unusedVariables false
set_option maxRecDepth 100000
namespace Go.Proofs.YtogdggdaaiajnadGreatDoor
open Go.RowKit

set_option maxHeartbeats 1000000 in
theorem familyBy_3 (w : World) (hT : Tb w) : Calls Tryz.prog 134 #[.agg #[.int .i64 3, .int .i64 1], .int .i64 4] w fun e w' => ∃ g, e = .returned (.agg #[.slice (some ⟨g, 0, none⟩) 2 2, .int .i64 3, .int .i64 1]) ∧ w.heap.size ≤ g ∧ Cl g [.int .i64 1, .int .i64 2] 3 w' ∧ Below w.heap.size w w' := by
  have HT : Hid (Tb w) := hT
  clear hT
  go_enter Tryz.func134, Tryz.ntmps134
  go_wp2_with fail
  refine (raised_one 3 _ (by decide)).mono ?_
  rintro e w1 ⟨rfl, rfl⟩
  go_wp2_with fail
  refine (left_any 4 3 _ (by decide) (by decide) (by decide)).mono ?_
  rintro e w1 ⟨rfl, rfl⟩
  obtain ⟨W1, hW1⟩ : ∃ W1, W1 = (w.alloc (.cells #[.int .i64 3, .int .i64 1] 101)).alloc (.cells #[.slice none 0 0, .int .i64 0, .int .i64 0] 135) := ⟨_, rfl⟩
  have P1 : Cl w.heap.size [.int .i64 3, .int .i64 1] 101 W1 := by rw [hW1]; exact (Cl.new _ _ w).alloc _
  have R1 : Cl (w.heap.size + 1) [.slice none 0 0, .int .i64 0, .int .i64 0] 135 W1 := by
    rw [hW1]; have := Cl.new [.slice none 0 0, .int .i64 0, .int .i64 0] 135 (w.alloc (.cells #[.int .i64 3, .int .i64 1] 101)); rwa [World.size_alloc] at this
  have K1 : Hid (Below w.heap.size w W1) := by show Below _ _ _; rw [hW1]; exact Below.alloc (Below.alloc (Below.refl _ _) (Nat.le_refl _) _) (by simp) _
  have T1 : Hid (Tb W1) := by show Tb _; rw [hW1]; exact (HT.out.alloc _).alloc _
  have HP1 : Hid (Cl w.heap.size [.int .i64 3, .int .i64 1] 101 W1) := P1
  have HR1 : Hid (Cl (w.heap.size + 1) [.slice none 0 0, .int .i64 0, .int .i64 0] 135 W1) := R1
  have hsz : W1.heap.size = w.heap.size + 2 := by rw [hW1]; simp
  have p0 := P1.cell 0
  have p1 := P1.cell 1
  simp at p0 p1
  rw [← hW1]
  clear hW1 P1 R1 HT
  go_wp2
  go_loopw [6, 8] (fun uv tv wx => uv = .int .i64 1 ∧ tv = .int .i64 0 ∧ Hid (wx = W1)) (fun _ _ _ => 0)
  case atStart => exact ⟨rfl, rfl, rfl⟩
  case round =>
    obtain ⟨rfl, rfl, HW⟩ := hrel
    have hw := HW.out
    subst hw
    clear HW
    go_wp2_with fail
    refine (raised_zero 3 _).mono ?_
    rintro e w1 ⟨rfl, rfl⟩
    go_wp2_with fail
    refine wp_region_G (fun w' => w'.cell? ⟨w.heap.size, 0, none⟩ = some (.int .i64 3)) 9 (by kernel_rfl) p0 (fun hHeld => ?_)
    refine wpAnyG_take (i := 0) (v := ?v0) rfl (by kernel_rfl) (fun _ _ _ h => h) (Or.inl ⟨by rfl, ?y0⟩) hHeld ?r0
    case y0 => (intro wS hSw; obtain s1 := hSw; go_simp; try with_reducible rfl)
    try simp only [Act.put, List.setIfInBounds_toArray, List.set_cons_zero, List.set_cons_succ]
    refine wpAnyG_take (i := 1) (v := ?v1) rfl (by kernel_rfl) (fun _ _ _ h => h) (Or.inl ⟨by rfl, ?y1⟩) hHeld ?r1
    case y1 => (intro wS hSw; obtain s1 := hSw; go_simp; try with_reducible rfl)
    try simp only [Act.put, List.setIfInBounds_toArray, List.set_cons_zero, List.set_cons_succ]
    refine wpAnyG_take (i := 2) (v := ?v2) rfl (by kernel_rfl) (fun _ _ _ h => h) (Or.inl ⟨by rfl, ?y2⟩) hHeld ?r2
    case y2 => (intro wS hSw; obtain s1 := hSw; go_simp; try with_reducible rfl)
    try simp only [Act.put, List.setIfInBounds_toArray, List.set_cons_zero, List.set_cons_succ]
    refine wpAnyG_take (i := 3) (v := ?v3) rfl (by kernel_rfl) (fun _ _ _ h => h) (Or.inl ⟨by rfl, ?y3⟩) hHeld ?r3
    case y3 => (intro wS hSw; obtain s1 := hSw; go_simp; try with_reducible rfl)
    try simp only [Act.put, List.setIfInBounds_toArray, List.set_cons_zero, List.set_cons_succ]
    refine wpAnyG_take (i := 4) (v := ?v4) rfl (by kernel_rfl) (fun _ _ _ h => h) (Or.inl ⟨by rfl, ?y4⟩) hHeld ?r4
    case y4 => (intro wS hSw; obtain s1 := hSw; go_simp; try with_reducible rfl)
    try simp only [Act.put, List.setIfInBounds_toArray, List.set_cons_zero, List.set_cons_succ]
    refine wpAnyG_take (i := 5) (v := ?v5) rfl (by kernel_rfl) (fun _ _ _ h => h) (Or.inl ⟨by rfl, ?y5⟩) hHeld ?r5
    case y5 => (intro wS hSw; obtain s1 := hSw; go_simp; try with_reducible rfl)
    try simp only [Act.put, List.setIfInBounds_toArray, List.set_cons_zero, List.set_cons_succ]
    refine wpAnyG_take (i := 6) (v := ?v6) rfl (by kernel_rfl) (fun _ _ _ h => h) (Or.inl ⟨by rfl, ?y6⟩) hHeld ?r6
    case y6 => (intro wS hSw; obtain s1 := hSw; go_simp; try with_reducible rfl)
    try simp only [Act.put, List.setIfInBounds_toArray, List.set_cons_zero, List.set_cons_succ]
    refine wpAnyG_take (i := 7) (v := ?v7) rfl (by kernel_rfl) (fun _ _ _ h => h) (Or.inl ⟨by rfl, ?y7⟩) hHeld ?r7
    case y7 => (intro wS hSw; obtain s1 := hSw; go_simp; try with_reducible rfl)
    try simp only [Act.put, List.setIfInBounds_toArray, List.set_cons_zero, List.set_cons_succ]
    refine wpAnyG_one (i := 8) rfl (by kernel_rfl) (fun K hK => ?_)
    go_simp
    refine (rootsOfUnit_3 _ (T1.out.below (Below.drew (Below.refl _ _)))).mono ?_
    rintro e w2 ⟨g, rfl, hg, hc, k2⟩
    have G2 : Hid (Cl g [.int .i64 1, .int .i64 2] 3 w2) := hc
    have P2 : Hid (Cl w.heap.size [.int .i64 3, .int .i64 1] 101 w2) := HP1.out.drew.below k2
    have R2 : Hid (Cl (w.heap.size + 1) [.slice none 0 0, .int .i64 0, .int .i64 0] 135 w2) := HR1.out.drew.below k2
    have K2 : Hid (Below w.heap.size w w2) := (Below.drew K1.out).trans (k2.mono K1.out.size)
    have z2 := k2.size
    simp at z2 hg
    clear hc k2 HP1 HR1 K1 T1 p1 hHeld
    have hHeld : w2.cell? ⟨w.heap.size, 0, none⟩ = some (.int .i64 3) := P2.out.cell 0
    refine hK.out _ _ hHeld ?_
    clear hK K
    try simp only [Act.put, List.setIfInBounds_toArray, List.set_cons_zero, List.set_cons_succ]
    refine wpAnyG_last (i := 9) rfl (by kernel_rfl) (by kernel_rfl) (fun K hK => ?_)
    go_simp
    refine hK.out _ _ ?_
    clear hK K
    try simp only [Act.put, List.setIfInBounds_toArray, List.set_cons_zero, List.set_cons_succ]
    refine wpAnyG_done (by kernel_rfl) ?_ _
    clear hHeld p0
    go_wp2
    go_loopw [65] (fun iv wx => ∃ i : Nat, (i = 0 ∨ i = 1 ∨ i = 2) ∧ iv = .int .i64 i ∧ Hid (Cl g [.int .i64 1, .int .i64 2] 3 wx ∧ Cl (w.heap.size + 1) [.slice none 0 0, .int .i64 0, .int .i64 0] 135 wx ∧ Below w.heap.size w wx)) (fun iv _ => 2 - (intOf iv).toNat)
    case atStart => exact ⟨0, .inl rfl, rfl, G2.out, R2.out, K2.out⟩
    case round =>
      obtain ⟨i, hi, rfl, HI⟩ := hrel
      clear G2 P2 R2 K2 z2
      have d0 := HI.out.1.cell 0
      have d1 := HI.out.1.cell 1
      have d2 := HI.out.1.frozen 0
      have d3 := HI.out.1.frozen 1
      simp at d0 d1
      rcases hi with rfl | rfl | rfl
      · go_wp2
        go_roundw
        case rel => exact ⟨1, .inr (.inl rfl), rfl, HI.out.1.set 0 (.int .i64 1), HI.out.2.1.other (show w.heap.size + 1 ≠ g by omega) _, HI.out.2.2.setCell (show w.heap.size ≤ g by omega) _⟩
        case measure => simp [intOf]
      · go_wp2
        go_roundw
        case rel => exact ⟨2, .inr (.inr rfl), rfl, HI.out.1.set 1 (.int .i64 2), HI.out.2.1.other (show w.heap.size + 1 ≠ g by omega) _, HI.out.2.2.setCell (show w.heap.size ≤ g by omega) _⟩
        case measure => simp [intOf]
      · have e0 := HI.out.2.1.cell 0
        have e1 := HI.out.2.1.cell 1
        have e2 := HI.out.2.1.cell 2
        have e3 := HI.out.2.1.frozen 0
        have e4 := HI.out.2.1.frozen 1
        have e5 := HI.out.2.1.frozen 2
        have e6 := HI.out.2.1.lt
        simp at e0 e1 e2
        go_wp2
        refine bodyPost_ret (v := .agg #[.slice (some ⟨g, 0, none⟩) 2 2, .int .i64 3, .int .i64 1]) (by simp [results, Tryz.results134, go_sem, e0, e1, e2, e6]) rfl ⟨g, rfl, by omega, ?_, ?_⟩
        · exact ((HI.out.1.other (show g ≠ w.heap.size + 1 by omega) _).other (show g ≠ w.heap.size + 1 by omega) _).other (show g ≠ w.heap.size + 1 by omega) _
        · exact ((HI.out.2.2.setCell (by show w.heap.size ≤ w.heap.size + 1; omega) _).setCell (by show w.heap.size ≤ w.heap.size + 1; omega) _).setCell (by show w.heap.size ≤ w.heap.size + 1; omega) _

set_option maxHeartbeats 1000000 in
theorem familyBy_5 (w : World) (hT : Tb w) : Calls Tryz.prog 134 #[.agg #[.int .i64 5, .int .i64 1], .int .i64 4] w fun e w' => ∃ g, e = .returned (.agg #[.slice (some ⟨g, 0, none⟩) 2 2, .int .i64 5, .int .i64 1]) ∧ w.heap.size ≤ g ∧ Cl g [.int .i64 3, .int .i64 2] 3 w' ∧ Below w.heap.size w w' := by
  have HT : Hid (Tb w) := hT
  clear hT
  go_enter Tryz.func134, Tryz.ntmps134
  go_wp2_with fail
  refine (raised_one 5 _ (by decide)).mono ?_
  rintro e w1 ⟨rfl, rfl⟩
  go_wp2_with fail
  refine (left_any 4 5 _ (by decide) (by decide) (by decide)).mono ?_
  rintro e w1 ⟨rfl, rfl⟩
  obtain ⟨W1, hW1⟩ : ∃ W1, W1 = (w.alloc (.cells #[.int .i64 5, .int .i64 1] 101)).alloc (.cells #[.slice none 0 0, .int .i64 0, .int .i64 0] 135) := ⟨_, rfl⟩
  have P1 : Cl w.heap.size [.int .i64 5, .int .i64 1] 101 W1 := by rw [hW1]; exact (Cl.new _ _ w).alloc _
  have R1 : Cl (w.heap.size + 1) [.slice none 0 0, .int .i64 0, .int .i64 0] 135 W1 := by
    rw [hW1]; have := Cl.new [.slice none 0 0, .int .i64 0, .int .i64 0] 135 (w.alloc (.cells #[.int .i64 5, .int .i64 1] 101)); rwa [World.size_alloc] at this
  have K1 : Hid (Below w.heap.size w W1) := by show Below _ _ _; rw [hW1]; exact Below.alloc (Below.alloc (Below.refl _ _) (Nat.le_refl _) _) (by simp) _
  have T1 : Hid (Tb W1) := by show Tb _; rw [hW1]; exact (HT.out.alloc _).alloc _
  have HP1 : Hid (Cl w.heap.size [.int .i64 5, .int .i64 1] 101 W1) := P1
  have HR1 : Hid (Cl (w.heap.size + 1) [.slice none 0 0, .int .i64 0, .int .i64 0] 135 W1) := R1
  have hsz : W1.heap.size = w.heap.size + 2 := by rw [hW1]; simp
  have p0 := P1.cell 0
  have p1 := P1.cell 1
  simp at p0 p1
  rw [← hW1]
  clear hW1 P1 R1 HT
  go_wp2
  go_loopw [6, 8] (fun uv tv wx => uv = .int .i64 4 ∧ tv = .int .i64 0 ∧ Hid (wx = W1)) (fun _ _ _ => 0)
  case atStart => exact ⟨rfl, rfl, rfl⟩
  case round =>
    obtain ⟨rfl, rfl, HW⟩ := hrel
    have hw := HW.out
    subst hw
    clear HW
    go_wp2_with fail
    refine (raised_zero 5 _).mono ?_
    rintro e w1 ⟨rfl, rfl⟩
    go_wp2_with fail
    refine wp_region_G (fun w' => w'.cell? ⟨w.heap.size, 0, none⟩ = some (.int .i64 5)) 9 (by kernel_rfl) p0 (fun hHeld => ?_)
    refine wpAnyG_take (i := 0) (v := ?v0) rfl (by kernel_rfl) (fun _ _ _ h => h) (Or.inl ⟨by rfl, ?y0⟩) hHeld ?r0
    case y0 => (intro wS hSw; obtain s1 := hSw; go_simp; try with_reducible rfl)
    try simp only [Act.put, List.setIfInBounds_toArray, List.set_cons_zero, List.set_cons_succ]
    refine wpAnyG_take (i := 1) (v := ?v1) rfl (by kernel_rfl) (fun _ _ _ h => h) (Or.inl ⟨by rfl, ?y1⟩) hHeld ?r1
    case y1 => (intro wS hSw; obtain s1 := hSw; go_simp; try with_reducible rfl)
    try simp only [Act.put, List.setIfInBounds_toArray, List.set_cons_zero, List.set_cons_succ]
    refine wpAnyG_take (i := 2) (v := ?v2) rfl (by kernel_rfl) (fun _ _ _ h => h) (Or.inl ⟨by rfl, ?y2⟩) hHeld ?r2
    case y2 => (intro wS hSw; obtain s1 := hSw; go_simp; try with_reducible rfl)
    try simp only [Act.put, List.setIfInBounds_toArray, List.set_cons_zero, List.set_cons_succ]
    refine wpAnyG_take (i := 3) (v := ?v3) rfl (by kernel_rfl) (fun _ _ _ h => h) (Or.inl ⟨by rfl, ?y3⟩) hHeld ?r3
    case y3 => (intro wS hSw; obtain s1 := hSw; go_simp; try with_reducible rfl)
    try simp only [Act.put, List.setIfInBounds_toArray, List.set_cons_zero, List.set_cons_succ]
    refine wpAnyG_take (i := 4) (v := ?v4) rfl (by kernel_rfl) (fun _ _ _ h => h) (Or.inl ⟨by rfl, ?y4⟩) hHeld ?r4
    case y4 => (intro wS hSw; obtain s1 := hSw; go_simp; try with_reducible rfl)
    try simp only [Act.put, List.setIfInBounds_toArray, List.set_cons_zero, List.set_cons_succ]
    refine wpAnyG_take (i := 5) (v := ?v5) rfl (by kernel_rfl) (fun _ _ _ h => h) (Or.inl ⟨by rfl, ?y5⟩) hHeld ?r5
    case y5 => (intro wS hSw; obtain s1 := hSw; go_simp; try with_reducible rfl)
    try simp only [Act.put, List.setIfInBounds_toArray, List.set_cons_zero, List.set_cons_succ]
    refine wpAnyG_take (i := 6) (v := ?v6) rfl (by kernel_rfl) (fun _ _ _ h => h) (Or.inl ⟨by rfl, ?y6⟩) hHeld ?r6
    case y6 => (intro wS hSw; obtain s1 := hSw; go_simp; try with_reducible rfl)
    try simp only [Act.put, List.setIfInBounds_toArray, List.set_cons_zero, List.set_cons_succ]
    refine wpAnyG_take (i := 7) (v := ?v7) rfl (by kernel_rfl) (fun _ _ _ h => h) (Or.inl ⟨by rfl, ?y7⟩) hHeld ?r7
    case y7 => (intro wS hSw; obtain s1 := hSw; go_simp; try with_reducible rfl)
    try simp only [Act.put, List.setIfInBounds_toArray, List.set_cons_zero, List.set_cons_succ]
    refine wpAnyG_one (i := 8) rfl (by kernel_rfl) (fun K hK => ?_)
    go_simp
    refine (rootsOfUnit_5 _ (T1.out.below (Below.drew (Below.refl _ _)))).mono ?_
    rintro e w2 ⟨g, rfl, hg, hc, k2⟩
    have G2 : Hid (Cl g [.int .i64 3, .int .i64 2] 3 w2) := hc
    have P2 : Hid (Cl w.heap.size [.int .i64 5, .int .i64 1] 101 w2) := HP1.out.drew.below k2
    have R2 : Hid (Cl (w.heap.size + 1) [.slice none 0 0, .int .i64 0, .int .i64 0] 135 w2) := HR1.out.drew.below k2
    have K2 : Hid (Below w.heap.size w w2) := (Below.drew K1.out).trans (k2.mono K1.out.size)
    have z2 := k2.size
    simp at z2 hg
    clear hc k2 HP1 HR1 K1 T1 p1 hHeld
    have hHeld : w2.cell? ⟨w.heap.size, 0, none⟩ = some (.int .i64 5) := P2.out.cell 0
    refine hK.out _ _ hHeld ?_
    clear hK K
    try simp only [Act.put, List.setIfInBounds_toArray, List.set_cons_zero, List.set_cons_succ]
    refine wpAnyG_last (i := 9) rfl (by kernel_rfl) (by kernel_rfl) (fun K hK => ?_)
    go_simp
    refine hK.out _ _ ?_
    clear hK K
    try simp only [Act.put, List.setIfInBounds_toArray, List.set_cons_zero, List.set_cons_succ]
    refine wpAnyG_done (by kernel_rfl) ?_ _
    clear hHeld p0
    go_wp2
    go_loopw [65] (fun iv wx => ∃ i : Nat, (i = 0 ∨ i = 1 ∨ i = 2) ∧ iv = .int .i64 i ∧ Hid (Cl g [.int .i64 3, .int .i64 2] 3 wx ∧ Cl (w.heap.size + 1) [.slice none 0 0, .int .i64 0, .int .i64 0] 135 wx ∧ Below w.heap.size w wx)) (fun iv _ => 2 - (intOf iv).toNat)
    case atStart => exact ⟨0, .inl rfl, rfl, G2.out, R2.out, K2.out⟩
    case round =>
      obtain ⟨i, hi, rfl, HI⟩ := hrel
      clear G2 P2 R2 K2 z2
      have d0 := HI.out.1.cell 0
      have d1 := HI.out.1.cell 1
      have d2 := HI.out.1.frozen 0
      have d3 := HI.out.1.frozen 1
      simp at d0 d1
      rcases hi with rfl | rfl | rfl
      · go_wp2
        go_roundw
        case rel => exact ⟨1, .inr (.inl rfl), rfl, HI.out.1.set 0 (.int .i64 3), HI.out.2.1.other (show w.heap.size + 1 ≠ g by omega) _, HI.out.2.2.setCell (show w.heap.size ≤ g by omega) _⟩
        case measure => simp [intOf]
      · go_wp2
        go_roundw
        case rel => exact ⟨2, .inr (.inr rfl), rfl, HI.out.1.set 1 (.int .i64 2), HI.out.2.1.other (show w.heap.size + 1 ≠ g by omega) _, HI.out.2.2.setCell (show w.heap.size ≤ g by omega) _⟩
        case measure => simp [intOf]
      · have e0 := HI.out.2.1.cell 0
        have e1 := HI.out.2.1.cell 1
        have e2 := HI.out.2.1.cell 2
        have e3 := HI.out.2.1.frozen 0
        have e4 := HI.out.2.1.frozen 1
        have e5 := HI.out.2.1.frozen 2
        have e6 := HI.out.2.1.lt
        simp at e0 e1 e2
        go_wp2
        refine bodyPost_ret (v := .agg #[.slice (some ⟨g, 0, none⟩) 2 2, .int .i64 5, .int .i64 1]) (by simp [results, Tryz.results134, go_sem, e0, e1, e2, e6]) rfl ⟨g, rfl, by omega, ?_, ?_⟩
        · exact ((HI.out.1.other (show g ≠ w.heap.size + 1 by omega) _).other (show g ≠ w.heap.size + 1 by omega) _).other (show g ≠ w.heap.size + 1 by omega) _
        · exact ((HI.out.2.2.setCell (by show w.heap.size ≤ w.heap.size + 1; omega) _).setCell (by show w.heap.size ≤ w.heap.size + 1; omega) _).setCell (by show w.heap.size ≤ w.heap.size + 1; omega) _

end Go.Proofs.YtogdggdaaiajnadGreatDoor
