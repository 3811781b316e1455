import Derived.Test.YtnkjadpmigpneaaGreatDoorJnJ
import Derived.Test.YtnkjadpmigpneaaGreatDoorJnA
section
/- Package long: the Sum and Difference of signed numbers. -/
set_option linter.unusedSimpArgs false
set_option linter.unusedVariables false
set_option maxRecDepth 100000
namespace Go.Proofs.YtnkjadpmigpneaaGreatDoor
open Go.RowKit LgM



set_option maxHeartbeats 4000000 in
theorem SPlus_any (vx vy : Value) (x y : Int) (m : Nat) (w : World) (hx : LN w vx x.natAbs) (hy : LN w vy y.natAbs) (hxm : x.natAbs < Bs ^ m) (hym : y.natAbs < Bs ^ m) (hm : m ≤ 100000000) :
    Calls Tryz.prog 87 #[.agg #[vx, .bool (decide (x < 0))], .agg #[vy, .bool (decide (y < 0))]] w fun e w' => ∃ v, e = .returned (.agg #[v, .bool (decide (x + y < 0))]) ∧ LN w' v (x + y).natAbs ∧ Below w.heap.size w w' := by
  obtain ⟨ax, kx, cx, rfl⟩ := hx.shape
  obtain ⟨ay, ky, cy, rfl⟩ := hy.shape
  obtain ⟨p, hp⟩ : ∃ p, p = decide (x < 0) := ⟨_, rfl⟩
  obtain ⟨q, hq⟩ : ∃ q, q = decide (y < 0) := ⟨_, rfl⟩
  rw [← hp, ← hq]
  have HPQ : Hid (p = decide (x < 0) ∧ q = decide (y < 0)) := ⟨hp, hq⟩
  have P0 := Sb.start (.slice ax kx cx) (.slice ay ky cy) p q w
  obtain ⟨W0, hW0⟩ : ∃ W0, W0 = (((w.alloc (.cells #[.slice ax kx cx, .bool p] 66)).alloc (.cells #[.slice ay ky cy, .bool q] 66)).alloc (.cells #[.slice none 0 0, .bool false] 66)) := ⟨_, rfl⟩
  rw [← hW0] at P0
  have z0 : W0.heap.size = w.heap.size + 3 := by rw [hW0]; simp
  have KB0 : Hid (Below w.heap.size w W0) := by
    show Below _ _ _
    rw [hW0]; exact (((Below.refl _ _).alloc (Nat.le_refl _) _).alloc (by simp) _).alloc (by simp; omega) _
  have HP0 : Hid (Sb w.heap.size (.slice ax kx cx) (.slice ay ky cy) p q W0) := P0
  have HZ0 : Hid (w.heap.size + 3 = W0.heap.size) := z0.symm
  have HXw : Hid (∀ W, Below W0.heap.size W0 W → LN W (.slice ax kx cx) x.natAbs ∧ LN W (.slice ay ky cy) y.natAbs) := fun W k => ⟨(hx.below KB0.out).below k, (hy.below KB0.out).below k⟩
  have HM : Hid (x.natAbs < Bs ^ m ∧ y.natAbs < Bs ^ m) := ⟨hxm, hym⟩
  have HS : Hid (∀ W, Below W0.heap.size W0 W → (W.cell? ⟨w.heap.size, 0, none⟩ = some (.slice ax kx cx) ∧ W.cell? ⟨w.heap.size, 1, none⟩ = some (.bool p)) ∧ (W.cell? ⟨w.heap.size + 1, 0, none⟩ = some (.slice ay ky cy) ∧ W.cell? ⟨w.heap.size + 1, 1, none⟩ = some (.bool q))) := fun W k => by
    have h := HP0.out.below k (Nat.le_of_eq HZ0.out)
    have a1 := h.x.cell 0
    have a2 := h.x.cell 1
    have a3 := h.y.cell 0
    have a4 := h.y.cell 1
    simp at a1 a2 a3 a4
    exact ⟨⟨a1, a2⟩, ⟨a3, a4⟩⟩
  have hS0 := HS.out W0 (Below.refl _ _)
  clear P0 z0 hx hy hxm hym hp hq
  by_cases hpq : p = q
  · have hpb : (p == q) = true := by simp [hpq]
    have hsum : x.natAbs + y.natAbs = (x + y).natAbs := by
      have h1 := HPQ.out.1
      have h2 := HPQ.out.2
      rw [hpq, h2] at h1
      by_cases h3 : y < 0
      · have h4 : x < 0 := by simpa [h3] using h1.symm
        omega
      · have h4 : ¬ x < 0 := by simpa [h3] using h1.symm
        omega
    have HFg : Hid ((p && decide ((x + y).natAbs ≠ 0)) = decide (x + y < 0)) := by
      show _ = _
      have h1 := HPQ.out.1
      have h2 := HPQ.out.2
      have h1' := h1
      rw [hpq, h2] at h1
      rw [h1']
      by_cases h3 : y < 0
      · have h4 : x < 0 := by simpa [h3] using h1.symm
        have h5 : x + y < 0 := by omega
        simp [h4, h5]; omega
      · have h4 : ¬ x < 0 := by simpa [h3] using h1.symm
        have h5 : ¬ x + y < 0 := by omega
        simp [h4, h5]
    have HOp : Hid (∀ W, Below W0.heap.size W0 W → Calls Tryz.prog 96 #[.agg #[.slice ax kx cx], .agg #[.slice ay ky cy]] W fun e w' => ∃ v, e = .returned (.agg #[v]) ∧ LN w' v (x + y).natAbs ∧ Below W.heap.size W w') := fun W k => by
      have := Plus_any _ _ x.natAbs y.natAbs m W (HXw.out W k).1 (HXw.out W k).2 HM.out.1 HM.out.2 hm
      rw [hsum] at this; exact this
    have HK1 : Hid (Below W0.heap.size W0 W0) := Below.refl _ _
    clear hpq hsum
    go_enter Tryz.func87, Tryz.ntmps87
    go_wp2
    rw [← hW0]
    clear hW0 hpb
    refine wp_region_G (fun W => (W.cell? ⟨w.heap.size, 0, none⟩ = some (.slice ax kx cx) ∧ W.cell? ⟨w.heap.size, 1, none⟩ = some (.bool p)) ∧ (W.cell? ⟨w.heap.size + 1, 0, none⟩ = some (.slice ay ky cy) ∧ W.cell? ⟨w.heap.size + 1, 1, none⟩ = some (.bool q))) 8 (by kernel_rfl) (HS.out _ HK1.out.drew) (fun hHeld => ?_)
    refine wpAnyG_take (i := 0) (v := ?v0x1) rfl (by kernel_rfl) (fun _ _ _ h => h) (Or.inl ⟨by rfl, ?y0x1⟩) hHeld ?r0x1
    case y0x1 => (intro wS hSw; obtain ⟨⟨s1, s2⟩, s3, s4⟩ := hSw; go_simp; try with_reducible rfl)
    try simp only [Act.put, List.setIfInBounds_toArray, List.set_cons_zero, List.set_cons_succ]
    refine wpAnyG_take (i := 1) (v := ?v1x2) rfl (by kernel_rfl) (fun _ _ _ h => h) (Or.inl ⟨by rfl, ?y1x2⟩) hHeld ?r1x2
    case y1x2 => (intro wS hSw; obtain ⟨⟨s1, s2⟩, s3, s4⟩ := hSw; go_simp; try with_reducible rfl)
    try simp only [Act.put, List.setIfInBounds_toArray, List.set_cons_zero, List.set_cons_succ]
    refine wpAnyG_take (i := 2) (v := ?v2x3) rfl (by kernel_rfl) (fun _ _ _ h => h) (Or.inl ⟨by rfl, ?y2x3⟩) hHeld ?r2x3
    case y2x3 => (intro wS hSw; obtain ⟨⟨s1, s2⟩, s3, s4⟩ := hSw; go_simp; try with_reducible rfl)
    try simp only [Act.put, List.setIfInBounds_toArray, List.set_cons_zero, List.set_cons_succ]
    refine wpAnyG_take (i := 3) (v := ?v3x4) rfl (by kernel_rfl) (fun _ _ _ h => h) (Or.inl ⟨by rfl, ?y3x4⟩) hHeld ?r3x4
    case y3x4 => (intro wS hSw; obtain ⟨⟨s1, s2⟩, s3, s4⟩ := hSw; go_simp; try with_reducible rfl)
    try simp only [Act.put, List.setIfInBounds_toArray, List.set_cons_zero, List.set_cons_succ]
    refine wpAnyG_take (i := 5) (v := ?v5x5) rfl (by kernel_rfl) (fun _ _ _ h => h) (Or.inl ⟨by rfl, ?y5x5⟩) hHeld ?r5x5
    case y5x5 => (intro wS hSw; obtain ⟨⟨s1, s2⟩, s3, s4⟩ := hSw; go_simp; try with_reducible rfl)
    try simp only [Act.put, List.setIfInBounds_toArray, List.set_cons_zero, List.set_cons_succ]
    refine wpAnyG_take (i := 6) (v := ?v6x6) rfl (by kernel_rfl) (fun _ _ _ h => h) (Or.inl ⟨by rfl, ?y6x6⟩) hHeld ?r6x6
    case y6x6 => (intro wS hSw; obtain ⟨⟨s1, s2⟩, s3, s4⟩ := hSw; go_simp; try with_reducible rfl)
    try simp only [Act.put, List.setIfInBounds_toArray, List.set_cons_zero, List.set_cons_succ]
    refine wpAnyG_one (i := 4) rfl (by kernel_rfl) (fun K hK => ?_)
    go_simp
    refine (HOp.out _ HK1.out.drew).mono ?_
    rintro e w2 ⟨v, rfl, hv, k2⟩
    obtain ⟨av, kv, cv, rfl⟩ := hv.shape
    have HV2 : Hid (LN w2 (.slice av kv cv) (x + y).natAbs) := hv
    have HK2 : Hid (Below W0.heap.size W0 w2) := HK1.out.drew.trans (k2.mono HK1.out.size)
    refine hK.out _ _ (HS.out _ HK2.out) ?_
    clear hv k2
    clear hK K
    try simp only [Act.put, List.setIfInBounds_toArray, List.set_cons_zero, List.set_cons_succ]
    clear hHeld
    have hHeld := HS.out _ HK2.out
    refine wpAnyG_one (i := 7) rfl (by kernel_rfl) (fun K hK => ?_)
    go_simp
    have hc := signed_any (.slice av kv cv) (x + y).natAbs p w2 HV2.out
    rw [HFg.out] at hc
    obtain ⟨fl, hfl⟩ : ∃ fl, fl = decide (x + y < 0) := ⟨_, rfl⟩
    have HFl : Hid (fl = decide (x + y < 0)) := hfl
    rw [← hfl] at hc
    clear hfl
    refine hc.mono ?_
    rintro e w3 ⟨rfl, k3⟩
    have HKW : Hid (Below W0.heap.size W0 w3) := HK2.out.trans (k3.mono HK2.out.size)
    have HV : Hid (LN w3 (.slice av kv cv) (x + y).natAbs) := HV2.out.below k3
    refine hK.out _ _ (HS.out _ HKW.out) ?_
    clear hc k3
    clear hK K
    try simp only [Act.put, List.setIfInBounds_toArray, List.set_cons_zero, List.set_cons_succ]
    clear hHeld
    have HP4 : Hid (Cl (w.heap.size + 2) [.slice none 0 0, .bool false] 66 w3) := (HP0.out.below HKW.out (Nat.le_of_eq HZ0.out)).z
    have u1 := HP4.out.cell 0
    have u2 := HP4.out.cell 1
    have u3 := HP4.out.frozen 0
    have u4 := HP4.out.frozen 1
    simp at u1 u2
    refine wpAnyG_last (i := 8) rfl (by kernel_rfl) (by kernel_rfl) (fun K hK => ?_)
    go_simp
    refine hK.out _ _ ?_
    clear hK K
    try simp only [Act.put, List.setIfInBounds_toArray, List.set_cons_zero, List.set_cons_succ]
    refine wpAnyG_done (by kernel_rfl) ?_ _
    clear u1 u2 u3 u4
    go_wp2
    have C3 := HP4.out.two (.slice av kv cv) (.bool fl)
    have e1 := C3.cell 0
    have e2 := C3.cell 1
    simp at e1 e2
    refine bodyPost_ret (v := .agg #[.slice av kv cv, .bool fl]) (by simp [results, Tryz.results87, go_sem, e1, e2]) rfl ⟨_, by rw [HFl.out], ?_, ?_⟩
    · exact HV.out.setTwo HP4.out
    · exact ((KB0.out.trans (HKW.out.mono (by have := HZ0.out; omega))).setCell (by simp; omega) _).setCell (by simp; omega) _
  · have hpb : (p == q) = false := by simp [hpq]
    have HNE : Hid ((x < 0 ∧ ¬ y < 0) ∨ (¬ x < 0 ∧ y < 0)) := by
      show _ ∨ _
      have h1 := HPQ.out.1
      have h2 := HPQ.out.2
      by_cases h3 : x < 0 <;> by_cases h4 : y < 0
      · exact absurd (by rw [h1, h2]; simp [h3, h4]) hpq
      · exact .inl ⟨h3, h4⟩
      · exact .inr ⟨h3, h4⟩
      · exact absurd (by rw [h1, h2]; simp [h3, h4]) hpq
    have HCm : Hid (Calls Tryz.prog 79 #[.agg #[.slice ax kx cx], .agg #[.slice ay ky cy]] W0 fun e w' => e = .returned (.int .i64 (cmI x.natAbs y.natAbs)) ∧ Below W0.heap.size W0 w') := NCompare_any _ _ _ _ W0 (HXw.out W0 (Below.refl _ _)).1 (HXw.out W0 (Below.refl _ _)).2 m HM.out.1 (by omega)
    obtain ⟨C, hC⟩ : ∃ C, cmI (x.natAbs : Int) (y.natAbs : Int) = C := ⟨_, rfl⟩
    rw [hC] at HCm
    clear hpq
    by_cases hlt : x.natAbs < y.natAbs
    · have hCn : C = -1 := by rw [← hC, cmI, if_pos (by omega)]
      subst hCn
      have hdif : y.natAbs - x.natAbs = (x + y).natAbs := by rcases HNE.out with h | h <;> omega
      have HFg : Hid ((q && decide ((x + y).natAbs ≠ 0)) = decide (x + y < 0)) := by
        show _ = _
        rw [HPQ.out.2]
        rcases HNE.out with h | h
        · have h5 : ¬ x + y < 0 := by omega
          simp [h.2, h5]
        · have h5 : x + y < 0 := by omega
          simp [h.2, h5]; omega
      have HOp : Hid (∀ W, Below W0.heap.size W0 W → Calls Tryz.prog 108 #[.agg #[.slice ay ky cy], .agg #[.slice ax kx cx]] W fun e w' => ∃ v, e = .returned (.agg #[v]) ∧ LN w' v (x + y).natAbs ∧ Below W.heap.size W w') := fun W k => by
        have := NMinus_any _ _ y.natAbs x.natAbs m W (HXw.out W k).2 (HXw.out W k).1 HM.out.2 hm (by omega)
        rw [hdif] at this; exact this
      clear hC hlt hdif
      go_enter Tryz.func87, Tryz.ntmps87
      go_wp2_with fail
      rw [← hW0]
      clear hW0
      refine HCm.out.mono ?_
      rintro e w1 ⟨rfl, k1⟩
      have HK1 : Hid (Below W0.heap.size W0 w1) := k1
      clear k1 hS0 hpb
      go_wp2
      refine wp_region_G (fun W => (W.cell? ⟨w.heap.size, 0, none⟩ = some (.slice ax kx cx) ∧ W.cell? ⟨w.heap.size, 1, none⟩ = some (.bool p)) ∧ (W.cell? ⟨w.heap.size + 1, 0, none⟩ = some (.slice ay ky cy) ∧ W.cell? ⟨w.heap.size + 1, 1, none⟩ = some (.bool q))) 8 (by kernel_rfl) (HS.out _ HK1.out.drew) (fun hHeld => ?_)
      refine wpAnyG_take (i := 0) (v := ?v0x7) rfl (by kernel_rfl) (fun _ _ _ h => h) (Or.inl ⟨by rfl, ?y0x7⟩) hHeld ?r0x7
      case y0x7 => (intro wS hSw; obtain ⟨⟨s1, s2⟩, s3, s4⟩ := hSw; go_simp; try with_reducible rfl)
      try simp only [Act.put, List.setIfInBounds_toArray, List.set_cons_zero, List.set_cons_succ]
      refine wpAnyG_take (i := 1) (v := ?v1x8) rfl (by kernel_rfl) (fun _ _ _ h => h) (Or.inl ⟨by rfl, ?y1x8⟩) hHeld ?r1x8
      case y1x8 => (intro wS hSw; obtain ⟨⟨s1, s2⟩, s3, s4⟩ := hSw; go_simp; try with_reducible rfl)
      try simp only [Act.put, List.setIfInBounds_toArray, List.set_cons_zero, List.set_cons_succ]
      refine wpAnyG_take (i := 2) (v := ?v2x9) rfl (by kernel_rfl) (fun _ _ _ h => h) (Or.inl ⟨by rfl, ?y2x9⟩) hHeld ?r2x9
      case y2x9 => (intro wS hSw; obtain ⟨⟨s1, s2⟩, s3, s4⟩ := hSw; go_simp; try with_reducible rfl)
      try simp only [Act.put, List.setIfInBounds_toArray, List.set_cons_zero, List.set_cons_succ]
      refine wpAnyG_take (i := 3) (v := ?v3x10) rfl (by kernel_rfl) (fun _ _ _ h => h) (Or.inl ⟨by rfl, ?y3x10⟩) hHeld ?r3x10
      case y3x10 => (intro wS hSw; obtain ⟨⟨s1, s2⟩, s3, s4⟩ := hSw; go_simp; try with_reducible rfl)
      try simp only [Act.put, List.setIfInBounds_toArray, List.set_cons_zero, List.set_cons_succ]
      refine wpAnyG_take (i := 5) (v := ?v5x11) rfl (by kernel_rfl) (fun _ _ _ h => h) (Or.inl ⟨by rfl, ?y5x11⟩) hHeld ?r5x11
      case y5x11 => (intro wS hSw; obtain ⟨⟨s1, s2⟩, s3, s4⟩ := hSw; go_simp; try with_reducible rfl)
      try simp only [Act.put, List.setIfInBounds_toArray, List.set_cons_zero, List.set_cons_succ]
      refine wpAnyG_take (i := 6) (v := ?v6x12) rfl (by kernel_rfl) (fun _ _ _ h => h) (Or.inl ⟨by rfl, ?y6x12⟩) hHeld ?r6x12
      case y6x12 => (intro wS hSw; obtain ⟨⟨s1, s2⟩, s3, s4⟩ := hSw; go_simp; try with_reducible rfl)
      try simp only [Act.put, List.setIfInBounds_toArray, List.set_cons_zero, List.set_cons_succ]
      refine wpAnyG_one (i := 4) rfl (by kernel_rfl) (fun K hK => ?_)
      go_simp
      refine (HOp.out _ HK1.out.drew).mono ?_
      rintro e w2 ⟨v, rfl, hv, k2⟩
      obtain ⟨av, kv, cv, rfl⟩ := hv.shape
      have HV2 : Hid (LN w2 (.slice av kv cv) (x + y).natAbs) := hv
      have HK2 : Hid (Below W0.heap.size W0 w2) := HK1.out.drew.trans (k2.mono HK1.out.size)
      refine hK.out _ _ (HS.out _ HK2.out) ?_
      clear hv k2
      clear hK K
      try simp only [Act.put, List.setIfInBounds_toArray, List.set_cons_zero, List.set_cons_succ]
      clear hHeld
      have hHeld := HS.out _ HK2.out
      refine wpAnyG_one (i := 7) rfl (by kernel_rfl) (fun K hK => ?_)
      go_simp
      have hc := signed_any (.slice av kv cv) (x + y).natAbs q w2 HV2.out
      rw [HFg.out] at hc
      obtain ⟨fl, hfl⟩ : ∃ fl, fl = decide (x + y < 0) := ⟨_, rfl⟩
      have HFl : Hid (fl = decide (x + y < 0)) := hfl
      rw [← hfl] at hc
      clear hfl
      refine hc.mono ?_
      rintro e w3 ⟨rfl, k3⟩
      have HKW : Hid (Below W0.heap.size W0 w3) := HK2.out.trans (k3.mono HK2.out.size)
      have HV : Hid (LN w3 (.slice av kv cv) (x + y).natAbs) := HV2.out.below k3
      refine hK.out _ _ (HS.out _ HKW.out) ?_
      clear hc k3
      clear hK K
      try simp only [Act.put, List.setIfInBounds_toArray, List.set_cons_zero, List.set_cons_succ]
      clear hHeld
      have HP4 : Hid (Cl (w.heap.size + 2) [.slice none 0 0, .bool false] 66 w3) := (HP0.out.below HKW.out (Nat.le_of_eq HZ0.out)).z
      have u1 := HP4.out.cell 0
      have u2 := HP4.out.cell 1
      have u3 := HP4.out.frozen 0
      have u4 := HP4.out.frozen 1
      simp at u1 u2
      refine wpAnyG_last (i := 8) rfl (by kernel_rfl) (by kernel_rfl) (fun K hK => ?_)
      go_simp
      refine hK.out _ _ ?_
      clear hK K
      try simp only [Act.put, List.setIfInBounds_toArray, List.set_cons_zero, List.set_cons_succ]
      refine wpAnyG_done (by kernel_rfl) ?_ _
      clear u1 u2 u3 u4
      go_wp2
      have C3 := HP4.out.two (.slice av kv cv) (.bool fl)
      have e1 := C3.cell 0
      have e2 := C3.cell 1
      simp at e1 e2
      refine bodyPost_ret (v := .agg #[.slice av kv cv, .bool fl]) (by simp [results, Tryz.results87, go_sem, e1, e2]) rfl ⟨_, by rw [HFl.out], ?_, ?_⟩
      · exact HV.out.setTwo HP4.out
      · exact ((KB0.out.trans (HKW.out.mono (by have := HZ0.out; omega))).setCell (by simp; omega) _).setCell (by simp; omega) _
    · have hCn : ¬ C < 0 := by rw [← hC, cmI, if_neg (by omega)]; split <;> omega
      have hdif : x.natAbs - y.natAbs = (x + y).natAbs := by rcases HNE.out with h | h <;> omega
      have HFg : Hid ((p && decide ((x + y).natAbs ≠ 0)) = decide (x + y < 0)) := by
        show _ = _
        rw [HPQ.out.1]
        rcases HNE.out with h | h
        · by_cases h6 : x + y = 0
          · simp [h.1, h6]
          · have h5 : x + y < 0 := by omega
            simp [h.1, h5, h6]
        · have h5 : ¬ x + y < 0 := by omega
          simp [h.1, h5]
      have HOp : Hid (∀ W, Below W0.heap.size W0 W → Calls Tryz.prog 108 #[.agg #[.slice ax kx cx], .agg #[.slice ay ky cy]] W fun e w' => ∃ v, e = .returned (.agg #[v]) ∧ LN w' v (x + y).natAbs ∧ Below W.heap.size W w') := fun W k => by
        have := NMinus_any _ _ x.natAbs y.natAbs m W (HXw.out W k).1 (HXw.out W k).2 HM.out.1 hm (by omega)
        rw [hdif] at this; exact this
      clear hC hlt hdif
      go_enter Tryz.func87, Tryz.ntmps87
      go_wp2_with fail
      rw [← hW0]
      clear hW0
      refine HCm.out.mono ?_
      rintro e w1 ⟨rfl, k1⟩
      have HK1 : Hid (Below W0.heap.size W0 w1) := k1
      clear k1 hS0 hpb
      go_wp2
      refine wp_region_G (fun W => (W.cell? ⟨w.heap.size, 0, none⟩ = some (.slice ax kx cx) ∧ W.cell? ⟨w.heap.size, 1, none⟩ = some (.bool p)) ∧ (W.cell? ⟨w.heap.size + 1, 0, none⟩ = some (.slice ay ky cy) ∧ W.cell? ⟨w.heap.size + 1, 1, none⟩ = some (.bool q))) 8 (by kernel_rfl) (HS.out _ HK1.out.drew) (fun hHeld => ?_)
      refine wpAnyG_take (i := 0) (v := ?v0x13) rfl (by kernel_rfl) (fun _ _ _ h => h) (Or.inl ⟨by rfl, ?y0x13⟩) hHeld ?r0x13
      case y0x13 => (intro wS hSw; obtain ⟨⟨s1, s2⟩, s3, s4⟩ := hSw; go_simp; try with_reducible rfl)
      try simp only [Act.put, List.setIfInBounds_toArray, List.set_cons_zero, List.set_cons_succ]
      refine wpAnyG_take (i := 1) (v := ?v1x14) rfl (by kernel_rfl) (fun _ _ _ h => h) (Or.inl ⟨by rfl, ?y1x14⟩) hHeld ?r1x14
      case y1x14 => (intro wS hSw; obtain ⟨⟨s1, s2⟩, s3, s4⟩ := hSw; go_simp; try with_reducible rfl)
      try simp only [Act.put, List.setIfInBounds_toArray, List.set_cons_zero, List.set_cons_succ]
      refine wpAnyG_take (i := 2) (v := ?v2x15) rfl (by kernel_rfl) (fun _ _ _ h => h) (Or.inl ⟨by rfl, ?y2x15⟩) hHeld ?r2x15
      case y2x15 => (intro wS hSw; obtain ⟨⟨s1, s2⟩, s3, s4⟩ := hSw; go_simp; try with_reducible rfl)
      try simp only [Act.put, List.setIfInBounds_toArray, List.set_cons_zero, List.set_cons_succ]
      refine wpAnyG_take (i := 3) (v := ?v3x16) rfl (by kernel_rfl) (fun _ _ _ h => h) (Or.inl ⟨by rfl, ?y3x16⟩) hHeld ?r3x16
      case y3x16 => (intro wS hSw; obtain ⟨⟨s1, s2⟩, s3, s4⟩ := hSw; go_simp; try with_reducible rfl)
      try simp only [Act.put, List.setIfInBounds_toArray, List.set_cons_zero, List.set_cons_succ]
      refine wpAnyG_take (i := 5) (v := ?v5x17) rfl (by kernel_rfl) (fun _ _ _ h => h) (Or.inl ⟨by rfl, ?y5x17⟩) hHeld ?r5x17
      case y5x17 => (intro wS hSw; obtain ⟨⟨s1, s2⟩, s3, s4⟩ := hSw; go_simp; try with_reducible rfl)
      try simp only [Act.put, List.setIfInBounds_toArray, List.set_cons_zero, List.set_cons_succ]
      refine wpAnyG_take (i := 6) (v := ?v6x18) rfl (by kernel_rfl) (fun _ _ _ h => h) (Or.inl ⟨by rfl, ?y6x18⟩) hHeld ?r6x18
      case y6x18 => (intro wS hSw; obtain ⟨⟨s1, s2⟩, s3, s4⟩ := hSw; go_simp; try with_reducible rfl)
      try simp only [Act.put, List.setIfInBounds_toArray, List.set_cons_zero, List.set_cons_succ]
      refine wpAnyG_one (i := 4) rfl (by kernel_rfl) (fun K hK => ?_)
      go_simp
      refine (HOp.out _ HK1.out.drew).mono ?_
      rintro e w2 ⟨v, rfl, hv, k2⟩
      obtain ⟨av, kv, cv, rfl⟩ := hv.shape
      have HV2 : Hid (LN w2 (.slice av kv cv) (x + y).natAbs) := hv
      have HK2 : Hid (Below W0.heap.size W0 w2) := HK1.out.drew.trans (k2.mono HK1.out.size)
      refine hK.out _ _ (HS.out _ HK2.out) ?_
      clear hv k2
      clear hK K
      try simp only [Act.put, List.setIfInBounds_toArray, List.set_cons_zero, List.set_cons_succ]
      clear hHeld
      have hHeld := HS.out _ HK2.out
      refine wpAnyG_one (i := 7) rfl (by kernel_rfl) (fun K hK => ?_)
      go_simp
      have hc := signed_any (.slice av kv cv) (x + y).natAbs p w2 HV2.out
      rw [HFg.out] at hc
      obtain ⟨fl, hfl⟩ : ∃ fl, fl = decide (x + y < 0) := ⟨_, rfl⟩
      have HFl : Hid (fl = decide (x + y < 0)) := hfl
      rw [← hfl] at hc
      clear hfl
      refine hc.mono ?_
      rintro e w3 ⟨rfl, k3⟩
      have HKW : Hid (Below W0.heap.size W0 w3) := HK2.out.trans (k3.mono HK2.out.size)
      have HV : Hid (LN w3 (.slice av kv cv) (x + y).natAbs) := HV2.out.below k3
      refine hK.out _ _ (HS.out _ HKW.out) ?_
      clear hc k3
      clear hK K
      try simp only [Act.put, List.setIfInBounds_toArray, List.set_cons_zero, List.set_cons_succ]
      clear hHeld
      have HP4 : Hid (Cl (w.heap.size + 2) [.slice none 0 0, .bool false] 66 w3) := (HP0.out.below HKW.out (Nat.le_of_eq HZ0.out)).z
      have u1 := HP4.out.cell 0
      have u2 := HP4.out.cell 1
      have u3 := HP4.out.frozen 0
      have u4 := HP4.out.frozen 1
      simp at u1 u2
      refine wpAnyG_last (i := 8) rfl (by kernel_rfl) (by kernel_rfl) (fun K hK => ?_)
      go_simp
      refine hK.out _ _ ?_
      clear hK K
      try simp only [Act.put, List.setIfInBounds_toArray, List.set_cons_zero, List.set_cons_succ]
      refine wpAnyG_done (by kernel_rfl) ?_ _
      clear u1 u2 u3 u4
      go_wp2
      have C3 := HP4.out.two (.slice av kv cv) (.bool fl)
      have e1 := C3.cell 0
      have e2 := C3.cell 1
      simp at e1 e2
      refine bodyPost_ret (v := .agg #[.slice av kv cv, .bool fl]) (by simp [results, Tryz.results87, go_sem, e1, e2]) rfl ⟨_, by rw [HFl.out], ?_, ?_⟩
      · exact HV.out.setTwo HP4.out
      · exact ((KB0.out.trans (HKW.out.mono (by have := HZ0.out; omega))).setCell (by simp; omega) _).setCell (by simp; omega) _

end Go.Proofs.YtnkjadpmigpneaaGreatDoor
end

section
/- Plain: determinants of whole numbers: linear in each row, 0 where two rows are the same, turned by a swap. -/
set_option linter.unusedSimpArgs false
set_option linter.unusedVariables false
set_option maxRecDepth 100000
namespace Go.Proofs.YtnkjadpmigpneaaGreatDoor.DtM

/-- The sum of the first n. -/
def sm : Nat → (Nat → Int) → Int
  | 0, _ => 0
  | n + 1, f => sm n f + f n
theorem sm_congr {n : Nat} {f g : Nat → Int} (h : ∀ i, i < n → f i = g i) : sm n f = sm n g := by
  induction n with
  | zero => rfl
  | succ n ih => rw [sm, sm, ih (fun i hi => h i (by omega)), h n (by omega)]
theorem sm_zero {n : Nat} {f : Nat → Int} (h : ∀ i, i < n → f i = 0) : sm n f = 0 := by
  induction n with
  | zero => rfl
  | succ n ih => rw [sm, ih (fun i hi => h i (by omega)), h n (by omega)]; rfl
theorem sm_lin (n : Nat) (f g : Nat → Int) (x y : Int) : sm n (fun i => x * f i + y * g i) = x * sm n f + y * sm n g := by
  induction n with
  | zero => simp [sm]
  | succ n ih => simp only [sm]; rw [ih]; grind
/-- Two beside each other that cancel, and noughts elsewhere. -/
theorem sm_two {n k : Nat} {f : Nat → Int} (hk : k + 1 < n) (h0 : ∀ i, i < n → i ≠ k → i ≠ k + 1 → f i = 0) (h1 : f k + f (k + 1) = 0) : sm n f = 0 := by
  induction n with
  | zero => omega
  | succ n ih =>
    rw [sm]
    by_cases e : k + 1 = n
    · subst e
      rw [sm, sm_zero (fun i hi => h0 i (by omega) (by omega) (by omega))]; omega
    · rw [ih (by omega) (fun i hi => h0 i (by omega)), h0 n (by omega) (by omega) (by omega)]; rfl

def sgi (i : Nat) : Int := if i % 2 = 0 then 1 else -1
theorem sgi_succ (i : Nat) : sgi (i + 1) = -sgi i := by unfold sgi; split <;> split <;> omega
/-- Without row i and the first column. -/
def mn (i : Nat) (a : Nat → Nat → Int) : Nat → Nat → Int := fun r c => a (if r < i then r else r + 1) (c + 1)
def det : Nat → (Nat → Nat → Int) → Int
  | 0, _ => 1
  | n + 1, a => sm (n + 1) (fun i => sgi i * a i 0 * det n (mn i a))
theorem det_congr {n : Nat} : ∀ {a b : Nat → Nat → Int}, (∀ r c, r < n → c < n → a r c = b r c) → det n a = det n b := by
  induction n with
  | zero => intro a b _; rfl
  | succ n ih =>
    intro a b h
    rw [det, det]
    refine sm_congr (fun i hi => ?_)
    rw [h i 0 hi (by omega), ih (a := mn i a) (b := mn i b) (fun r c hr hc => ?_)]
    unfold mn
    split <;> exact h _ _ (by omega) (by omega)
/-- Row k replaced. -/
def rp (k : Nat) (v : Nat → Int) (a : Nat → Nat → Int) : Nat → Nat → Int := fun r c => if r = k then v c else a r c
theorem mn_rp_same (k : Nat) (v : Nat → Int) (a : Nat → Nat → Int) : mn k (rp k v a) = mn k a := by
  funext r c
  unfold mn rp
  rw [if_neg (by split <;> omega)]
theorem mn_rp_above {i k : Nat} (h : k < i) (v : Nat → Int) (a : Nat → Nat → Int) : mn i (rp k v a) = rp k (fun c => v (c + 1)) (mn i a) := by
  funext r c
  show (if (if r < i then r else r + 1) = k then v (c + 1) else a (if r < i then r else r + 1) (c + 1)) = (if r = k then v (c + 1) else a (if r < i then r else r + 1) (c + 1))
  by_cases e2 : r < i
  · simp only [if_pos e2]
  · simp only [if_neg e2]; rw [if_neg (by omega), if_neg (by omega)]
theorem mn_rp_below {i k : Nat} (h : i ≤ k) (v : Nat → Int) (a : Nat → Nat → Int) : mn i (rp (k + 1) v a) = rp k (fun c => v (c + 1)) (mn i a) := by
  funext r c
  show (if (if r < i then r else r + 1) = k + 1 then v (c + 1) else a (if r < i then r else r + 1) (c + 1)) = (if r = k then v (c + 1) else a (if r < i then r else r + 1) (c + 1))
  by_cases e2 : r < i
  · simp only [if_pos e2]; rw [if_neg (by omega), if_neg (by omega)]
  · simp only [if_neg e2]
    by_cases e : r = k
    · rw [if_pos e, if_pos (by omega)]
    · rw [if_neg e, if_neg (by omega)]
/-- It is linear in each row. -/
theorem det_lin {n : Nat} : ∀ {k : Nat} (a : Nat → Nat → Int) (u v : Nat → Int) (x y : Int), k < n → det n (rp k (fun c => x * u c + y * v c) a) = x * det n (rp k u a) + y * det n (rp k v a) := by
  induction n with
  | zero => intro k a u v x y hk; omega
  | succ n ih =>
    intro k a u v x y hk
    rw [det, det, det, ← sm_lin]
    refine sm_congr (fun i hi => ?_)
    rcases Nat.lt_trichotomy i k with h | h | h
    · obtain ⟨k', rfl⟩ : ∃ k', k = k' + 1 := ⟨k - 1, by omega⟩
      rw [mn_rp_below (by omega), mn_rp_below (by omega), mn_rp_below (by omega), ih (mn i a) (fun c => u (c + 1)) (fun c => v (c + 1)) x y (by omega)]
      have e : ∀ w : Nat → Int, rp (k' + 1) w a i 0 = a i 0 := fun w => if_neg (by omega)
      rw [e, e, e]; grind
    · subst h
      rw [mn_rp_same, mn_rp_same, mn_rp_same]
      have e : ∀ w : Nat → Int, rp i w a i 0 = w 0 := fun w => if_pos rfl
      rw [e, e, e]; grind
    · rw [mn_rp_above h, mn_rp_above h, mn_rp_above h, ih (mn i a) (fun c => u (c + 1)) (fun c => v (c + 1)) x y (by omega)]
      have e : ∀ w : Nat → Int, rp k w a i 0 = a i 0 := fun w => if_neg (by omega)
      rw [e, e, e]; grind
/-- Where two rows beside each other are the same it is 0. -/
theorem det_same {n : Nat} : ∀ {k : Nat} (a : Nat → Nat → Int), k + 1 < n → (∀ c, a k c = a (k + 1) c) → det n a = 0 := by
  induction n with
  | zero => intro k a hk; omega
  | succ n ih =>
    intro k a hk h
    rw [det]
    refine sm_two hk (fun i hi h1 h2 => ?_) ?_
    · rcases Nat.lt_or_ge i k with c | c
      · obtain ⟨k', rfl⟩ : ∃ k', k = k' + 1 := ⟨k - 1, by omega⟩
        rw [ih (k := k') (mn i a) (by omega) (fun c => ?_), Int.mul_zero]
        unfold mn
        rw [if_neg (by omega), if_neg (by omega)]; exact h _
      · rw [ih (k := k) (mn i a) (by omega) (fun c => ?_), Int.mul_zero]
        unfold mn
        rw [if_pos (by omega), if_pos (by omega)]; exact h _
    · have e : mn k a = mn (k + 1) a := by
        funext r c
        unfold mn
        by_cases e1 : r < k
        · rw [if_pos e1, if_pos (by omega)]
        · rw [if_neg e1]
          by_cases e2 : r < k + 1
          · obtain rfl : r = k := by omega
            rw [if_pos e2]; exact (h _).symm
          · rw [if_neg e2]
      rw [e, h 0, sgi_succ]; grind
/-- Two rows beside each other swapped. -/
def sw (k : Nat) (a : Nat → Nat → Int) : Nat → Nat → Int := fun r c => a (if r = k then k + 1 else if r = k + 1 then k else r) c
theorem det_sw {n k : Nat} (a : Nat → Nat → Int) (hk : k + 1 < n) : det n (sw k a) = -det n a := by
  have key : det n (rp k (fun c => 1 * a k c + 1 * a (k + 1) c) (rp (k + 1) (fun c => 1 * a k c + 1 * a (k + 1) c) a)) = 0 := by
    refine det_same _ hk (fun c => ?_)
    unfold rp
    rw [if_pos rfl, if_neg (by omega), if_pos rfl]
  rw [det_lin _ (fun c => a k c) (fun c => a (k + 1) c) 1 1 (by omega)] at key
  have comm : ∀ u v : Nat → Int, rp k u (rp (k + 1) v a) = rp (k + 1) v (rp k u a) := by
    intro u v
    funext r c
    unfold rp
    by_cases e1 : r = k
    · subst e1; rw [if_pos rfl, if_neg (by omega), if_pos rfl]
    · rw [if_neg e1]
      by_cases e2 : r = k + 1
      · rw [if_pos e2, if_pos e2]
      · rw [if_neg e2, if_neg e2, if_neg e1]
  rw [comm, comm, det_lin _ (fun c => a k c) (fun c => a (k + 1) c) 1 1 (by omega), det_lin _ (fun c => a k c) (fun c => a (k + 1) c) 1 1 (by omega)] at key
  have z1 : det n (rp (k + 1) (fun c => a k c) (rp k (fun c => a k c) a)) = 0 := by
    refine det_same (k := k) _ hk (fun c => ?_)
    unfold rp
    rw [if_neg (by omega), if_pos rfl, if_pos rfl]
  have z2 : det n (rp (k + 1) (fun c => a (k + 1) c) (rp k (fun c => a (k + 1) c) a)) = 0 := by
    refine det_same (k := k) _ hk (fun c => ?_)
    unfold rp
    rw [if_neg (by omega), if_pos rfl, if_pos rfl]
  have e1 : rp (k + 1) (fun c => a (k + 1) c) (rp k (fun c => a k c) a) = a := by
    funext r c
    unfold rp
    by_cases e1 : r = k + 1
    · rw [if_pos e1, e1]
    · rw [if_neg e1]
      by_cases e2 : r = k
      · rw [if_pos e2, e2]
      · rw [if_neg e2]
  have e2 : rp (k + 1) (fun c => a k c) (rp k (fun c => a (k + 1) c) a) = sw k a := by
    funext r c
    unfold rp sw
    by_cases e1 : r = k + 1
    · subst e1; rw [if_pos rfl, if_neg (by omega), if_pos rfl]
    · rw [if_neg e1]
      by_cases e2 : r = k
      · subst e2; rw [if_pos rfl, if_pos rfl]
      · rw [if_neg e2, if_neg e2, if_neg e1]
  rw [z1, z2, e1, e2] at key
  omega

/-- Where two rows are the same it is 0. -/
theorem det_eq {n : Nat} : ∀ (m k : Nat) (a : Nat → Nat → Int), k + m + 1 < n → (∀ c, a k c = a (k + m + 1) c) → det n a = 0 := by
  intro m
  induction m with
  | zero => intro k a hk h; exact det_same a hk h
  | succ m ih =>
    intro k a hk h
    have e := det_sw (k := k + m + 1) a (n := n) (by omega)
    have z := ih k (sw (k + m + 1) a) (by omega) (fun c => ?_)
    · rw [z] at e; omega
    · unfold sw
      rw [if_neg (by omega), if_neg (by omega), if_pos rfl]
      exact h c
theorem rp_self (k : Nat) (a : Nat → Nat → Int) : rp k (a k) a = a := by
  funext r c
  unfold rp
  by_cases e : r = k
  · rw [if_pos e, e]
  · rw [if_neg e]
/-- A multiple of one row is added to another one. -/
theorem det_add {n k l : Nat} (a : Nat → Nat → Int) (x : Int) (hk : k < n) (hl : l < n) (hkl : k ≠ l) : det n (rp k (fun c => a k c + x * a l c) a) = det n a := by
  have e := det_lin a (a k) (a l) 1 x hk
  simp only [Int.one_mul] at e
  rw [e, rp_self]
  have z : det n (rp k (a l) a) = 0 := by
    rcases Nat.lt_or_ge k l with c | c
    · obtain ⟨m, rfl⟩ : ∃ m, l = k + m + 1 := ⟨l - k - 1, by omega⟩
      refine det_eq m k _ hl (fun c => ?_)
      unfold rp
      rw [if_pos rfl, if_neg (by omega)]
    · obtain ⟨m, rfl⟩ : ∃ m, k = l + m + 1 := ⟨k - l - 1, by omega⟩
      refine det_eq m l _ hk (fun c => ?_)
      unfold rp
      rw [if_neg (by omega), if_pos rfl]
  rw [z, Int.mul_zero, Int.add_zero]
/-- A row times a number. -/
theorem det_mul {n k : Nat} (a : Nat → Nat → Int) (x : Int) (hk : k < n) : det n (rp k (fun c => x * a k c) a) = x * det n a := by
  have e := det_lin a (a k) (a k) x 0 hk
  simp only [Int.zero_mul, Int.add_zero] at e
  rw [e, rp_self]
/-- Noughts below the diagonal: the product of the diagonal. -/
def dg (a : Nat → Nat → Int) : Nat → Int
  | 0 => 1
  | n + 1 => dg a n * a n n
theorem sm_first {n : Nat} {f : Nat → Int} (h : ∀ i, 0 < i → i < n + 1 → f i = 0) : sm (n + 1) f = f 0 := by
  induction n with
  | zero => simp [sm]
  | succ n ih => rw [sm, ih (fun i h1 h2 => h i h1 (by omega)), h (n + 1) (by omega) (by omega), Int.add_zero]
theorem dg_mn (a : Nat → Nat → Int) (n : Nat) : dg a (n + 1) = a 0 0 * dg (mn 0 a) n := by
  induction n with
  | zero => simp [dg]
  | succ n ih =>
    rw [dg, ih, dg]
    show a 0 0 * dg (mn 0 a) n * a (n + 1) (n + 1) = a 0 0 * (dg (mn 0 a) n * mn 0 a n n)
    have e : mn 0 a n n = a (n + 1) (n + 1) := by unfold mn; rw [if_neg (by omega)]
    rw [e, Int.mul_assoc]
theorem det_tri {n : Nat} : ∀ (a : Nat → Nat → Int), (∀ r c, r < n → c < r → a r c = 0) → det n a = dg a n := by
  induction n with
  | zero => intro a _; rfl
  | succ n ih =>
    intro a h
    rw [det, sm_first (fun i h1 h2 => by rw [h i 0 h2 h1]; simp), dg_mn, ih (mn 0 a) (fun r c hr hc => ?_)]
    · simp [sgi]
    · unfold mn
      rw [if_neg (by omega)]
      exact h _ _ (by omega) (by omega)

/-- Two rows change places, one of them with its sign turned. -/
theorem det_turn {n k l : Nat} (a : Nat → Nat → Int) (hk : k < n) (hl : l < n) (hkl : k ≠ l) : det n (rp k (a l) (rp l (fun c => -a k c) a)) = det n a := by
  have e1 := det_add a 1 hk hl hkl
  have e2 := det_add (rp k (fun c => a k c + 1 * a l c) a) (-1) hl hk (Ne.symm hkl)
  have e3 := det_add (rp l (fun c => rp k (fun c => a k c + 1 * a l c) a l c + -1 * rp k (fun c => a k c + 1 * a l c) a k c) (rp k (fun c => a k c + 1 * a l c) a)) 1 hk hl hkl
  rw [e2, e1] at e3
  rw [← e3]
  refine det_congr (fun r c _ _ => ?_)
  simp only [rp]
  by_cases h1 : r = k
  · subst h1
    simp only [if_true, if_neg hkl, if_neg (Ne.symm hkl)]; omega
  · simp only [if_neg h1]
    by_cases h2 : r = l
    · subst h2
      simp only [if_true, if_neg h1]; omega
    · simp only [if_neg h2]
/-- Rows from k on with noughts in the columns up to k. -/
theorem det_short {n : Nat} : ∀ {k : Nat} (a : Nat → Nat → Int), k < n → (∀ r c, k ≤ r → r < n → c ≤ k → a r c = 0) → det n a = 0 := by
  induction n with
  | zero => intro k a hk; omega
  | succ n ih =>
    intro k a hk h
    rw [det]
    refine sm_zero (fun i hi => ?_)
    rcases Nat.lt_or_ge i k with g | g
    · obtain ⟨k', rfl⟩ : ∃ k', k = k' + 1 := ⟨k - 1, by omega⟩
      rw [ih (k := k') (mn i a) (by omega) (fun r c h1 h2 h3 => ?_), Int.mul_zero]
      unfold mn
      by_cases e : r < i
      · omega
      · rw [if_neg e]; exact h _ _ (by omega) (by omega) (by omega)
    · rw [h i 0 g hi (by omega)]; simp

end Go.Proofs.YtnkjadpmigpneaaGreatDoor.DtM
end
