/- The law CurvePoints, walked. -/
import Derived.Test.YtbeceimopamllaaDoorCuY
import Derived.Test.YtbeceimopamllaaDoorCuW
import Derived.Test.YtbeceimopamllaaDoorCuU
set_option linter.unusedSimpArgs false
set_option linter.unusedVariables false
set_option maxRecDepth 100000
namespace Go.Proofs.YtbeceimopamllaaDoor
open Go.RowKit EC

theorem mul_self_nn (x : Int) : 0 ≤ x * x := by
  rcases Int.le_total 0 x with h | h
  · exact Int.mul_nonneg h h
  · exact Int.mul_nonneg_of_nonpos_of_nonpos h h
theorem many_le {P A B : Nat} (h : ∀ s, s < P → HS.rt P s ≤ 2) (hP : 0 < P) : ∀ x, manyx P A B x ≤ 1 + 2 * x := by
  intro x
  unfold manyx
  have := HS.sg_le (g := fun z => HS.rt P ((z * z * z + A * z + B) % P)) (B := 2) x (fun i _ => h _ (Nat.mod_lt _ hP))
  omega

set_option maxHeartbeats 4000000 in
theorem lpoints_bad (p a b c d : Int) (w : World) (h : Cf p a b c d) (hc : c ≠ 0) (hT : Tb w) :
    Calls Tryd.prog 3 #[.int .i64 p, .int .i64 a, .int .i64 b] w fun e w' => e = .returned (.bool true) ∧ Below w.heap.size w w' := by
  have HBg : Hid (∀ w, Tb w → Calls Tryd.prog 10 #[] w fun e w' => e = .returned (.bool true) ∧ Below w.heap.size w w') := fun w h => curveBegun_any w h
  have HCk : Hid (∀ w, Tb w → Calls Tryd.prog 7 #[.int .i64 p, .int .i64 a, .int .i64 b] w fun e w' => e = .returned (.agg #[.int .i64 c, .int .i64 d]) ∧ Below w.heap.size w w') := fun w hT => cCheck_any p a b c d w h hT
  have HPt : Hid (∀ w, Tb w → Calls Tryd.prog 8 #[.int .i64 p, .int .i64 a, .int .i64 b] w fun e w' => e = .returned (.tuple #[.slice none 0 0, .agg #[.int .i64 c, .int .i64 d]]) ∧ Below w.heap.size w w') := fun w hT => Points_bad p a b c d w h hc hT
  have HCf : Hid (∀ w, Calls Tryd.prog 9 #[.int .i64 p, .int .i64 a, .int .i64 b] w fun e w' => e = .returned (.agg #[.int .i64 c, .int .i64 d]) ∧ Below w.heap.size w w') := fun w => refCurveFault_any p a b c d w h
  have HT : Hid (Tb w) := hT
  have hcb : (c != 0) = true := by simp [bne]; exact hc
  clear h hc hT
  go_enter Tryd.func3, Tryd.ntmps3
  go_wp2_with fail
  refine (HCk.out _ HT.out).mono ?_
  rintro e w1 ⟨rfl, k1⟩
  have HM : Hid (Mm [(w1.heap.size, [.int .i64 c, .int .i64 d], 23)] w (w1.alloc (.cells #[.int .i64 c, .int .i64 d] 23))) := ((Mm.nil w).below k1).new [.int .i64 c, .int .i64 d] 23 rfl
  clear k1
  go_wp2_with fail
  refine (HPt.out _ (HT.out.below HM.out.k)).mono ?_
  rintro e w2 ⟨rfl, k2⟩
  have HM2 : Hid (Mm [(w2.heap.size, [.int .i64 c, .int .i64 d], 23), (w1.heap.size, [.int .i64 c, .int .i64 d], 23)] w (w2.alloc (.cells #[.int .i64 c, .int .i64 d] 23))) := (HM.out.below k2).new [.int .i64 c, .int .i64 d] 23 rfl
  clear k2 HM
  go_wp2_with fail
  refine (HCf.out _).mono ?_
  rintro e w3 ⟨rfl, k3⟩
  have HM3 : Hid (Mm [(w3.heap.size, [.int .i64 c, .int .i64 d], 23), (w2.heap.size, [.int .i64 c, .int .i64 d], 23), (w1.heap.size, [.int .i64 c, .int .i64 d], 23)] w (w3.alloc (.cells #[.int .i64 c, .int .i64 d] 23))) := (HM2.out.below k3).new [.int .i64 c, .int .i64 d] 23 rfl
  clear k3 HM2
  go_wp2_with fail
  refine (HBg.out _ (HT.out.below HM3.out.k)).mono ?_
  rintro e W4 ⟨rfl, k4⟩
  have HM : Hid (Mm [(w3.heap.size, [.int .i64 c, .int .i64 d], 23), (w2.heap.size, [.int .i64 c, .int .i64 d], 23), (w1.heap.size, [.int .i64 c, .int .i64 d], 23)] w W4) := HM3.out.below k4
  clear k4 HM3
  have e0 : W4.cell? ⟨w3.heap.size, 0, none⟩ = some (.int .i64 c) := (HM.out.at 0 rfl).cell 0
  have e1 : W4.cell? ⟨w3.heap.size, 1, none⟩ = some (.int .i64 d) := (HM.out.at 0 rfl).cell 1
  have e2 : W4.cell? ⟨w2.heap.size, 0, none⟩ = some (.int .i64 c) := (HM.out.at 1 rfl).cell 0
  have e3 : W4.cell? ⟨w2.heap.size, 1, none⟩ = some (.int .i64 d) := (HM.out.at 1 rfl).cell 1
  have e4 : W4.cell? ⟨w1.heap.size, 0, none⟩ = some (.int .i64 c) := (HM.out.at 2 rfl).cell 0
  have e5 : W4.cell? ⟨w1.heap.size, 1, none⟩ = some (.int .i64 d) := (HM.out.at 2 rfl).cell 1
  go_wp2
  go_ret
  exact ⟨rfl, HM.out.k⟩

set_option maxHeartbeats 8000000 in
theorem lpoints_ok (P A B g0 : Nat) (w : World) (hv : Cv P (A : Int) (B : Int)) (hg : HS.Gen P g0) (hT : Tb w) :
    Calls Tryd.prog 3 #[.int .i64 P, .int .i64 (A : Int), .int .i64 (B : Int)] w fun e w' => e = .returned (.bool true) ∧ Below w.heap.size w w' := by
  have HBg : Hid (∀ w, Tb w → Calls Tryd.prog 10 #[] w fun e w' => e = .returned (.bool true) ∧ Below w.heap.size w w') := fun w h => curveBegun_any w h
  have HCk : Hid (∀ w, Tb w → Calls Tryd.prog 7 #[.int .i64 P, .int .i64 (A : Int), .int .i64 (B : Int)] w fun e w' => e = .returned (.agg #[.int .i64 0, .int .i64 0]) ∧ Below w.heap.size w w') := fun w hT => cCheck_any P A B 0 0 w (cf_of hv) hT
  have HPt : Hid (∀ w, Tb w → Calls Tryd.prog 8 #[.int .i64 P, .int .i64 (A : Int), .int .i64 (B : Int)] w fun e w' => ∃ (aa : Option Addr) (cc : Nat), e = .returned (.tuple #[.slice aa (pts P A B P).length cc, .agg #[.int .i64 0, .int .i64 0]]) ∧ PS w' (.slice aa (pts P A B P).length cc) (pts P A B P) ∧ Below w.heap.size w w') := fun w hT => Points_ok P A B w hv hT
  have HCf : Hid (∀ w, Calls Tryd.prog 9 #[.int .i64 P, .int .i64 (A : Int), .int .i64 (B : Int)] w fun e w' => e = .returned (.agg #[.int .i64 0, .int .i64 0]) ∧ Below w.heap.size w w') := fun w => refCurveFault_any P A B 0 0 w (cf_of hv)
  have HRp : Hid (∀ w, Calls Tryd.prog 13 #[.int .i64 P, .int .i64 (A : Int), .int .i64 (B : Int)] w fun e w' => ∃ (aa : Option Addr) (cc : Nat), e = .returned (.slice aa (pts P A B P).length cc) ∧ Below w.heap.size w w') := fun w => refPoints_any P A B w hv
  have HLg : Hid (∀ (c : Nat) w, c ≤ 1000000000000 → Calls Tryd.prog 12 #[.int .i64 c, .int .i64 P] w fun e w' => e = .returned (.int .i64 ((HS.rt P (c % P) : Nat) - 1 : Int)) ∧ Below w.heap.size w w') := fun c w hc => Legendre_any P g0 c w hg hv.p2 hc
  have HHs := pts_hasse hv
  have hlenP := pts_len P A B P
  have hlen1 : (pts P (A : Int) (B : Int) P).length = manyx P A B P := pts_cnt P A B P
  have hPP : P * P ≤ 2000 * 2000 := Nat.mul_le_mul hv.p2 hv.p2
  have hpos : 1 ≤ (pts P (A : Int) (B : Int) P).length := by rw [pts_cons]; simp
  have h0 : (pts P (A : Int) (B : Int) P).getD 0 farP = farP := by rw [pts_cons]; rfl
  have HV : Hid (Cv P (A : Int) (B : Int)) := hv
  have hp := hv.p2
  have hp5 := hv.p5
  have ha := hv.a1
  have hb := hv.b1
  have HT : Hid (Tb w) := hT
  have HOnL : Hid (∀ i, 1 ≤ i → i < (pts P (A : Int) (B : Int) P).length → ((pts P (A : Int) (B : Int) P).getD i farP).far = false ∧ hasB P A B ((pts P (A : Int) (B : Int) P).getD i farP) = true) := fun i h1 h2 => pts_on hv h1 h2
  have HLs : Hid (∀ i, 1 ≤ i → i + 1 < (pts P (A : Int) (B : Int) P).length → Lx ((pts P (A : Int) (B : Int) P).getD i farP) ((pts P (A : Int) (B : Int) P).getD (i + 1) farP)) := fun i h1 h2 => pts_less h1 h2
  have HRt : Hid (∀ s, s < P → HS.rt P s ≤ 2) := fun s hs => HS.rt_le hg hs
  obtain ⟨L, hL⟩ : ∃ L, pts P (A : Int) (B : Int) P = L := ⟨_, rfl⟩
  rw [hL] at HPt HRp HHs hlenP hlen1 hpos h0 HOnL HLs
  obtain ⟨LN, hLN⟩ : ∃ n, L.length = n := ⟨_, rfl⟩
  rw [hLN] at HPt HRp HHs hlenP hlen1 hpos HOnL HLs
  have HLen : Hid (L.length = LN) := hLN
  have HLen1 : Hid (LN = manyx P A B P) := hlen1
  have hD : ((LN : Int) - (P : Int) - 1) * ((LN : Int) - (P : Int) - 1) ≤ 4 * (P : Int) := HHs
  obtain ⟨D, hDe⟩ : ∃ D, ((LN : Int) - (P : Int) - 1) * ((LN : Int) - (P : Int) - 1) = D := ⟨_, rfl⟩
  rw [hDe] at hD
  have hLN2 : LN ≤ 5000000 := by omega
  have hD0 : 0 ≤ D := by rw [← hDe]; exact mul_self_nn _
  clear hv hg hT hL hLN HHs hPP hlen1 hlenP
  go_enter Tryd.func3, Tryd.ntmps3
  go_wp2_with fail
  refine (HCk.out _ HT.out).mono ?_
  rintro e w1 ⟨rfl, k1⟩
  have HM : Hid (Mm [(w1.heap.size, [.int .i64 0, .int .i64 0], 23)] w (w1.alloc (.cells #[.int .i64 0, .int .i64 0] 23))) := ((Mm.nil w).below k1).new [.int .i64 0, .int .i64 0] 23 rfl
  clear k1
  go_wp2_with fail
  refine (HPt.out _ (HT.out.below HM.out.k)).mono ?_
  rintro e w2 ⟨aa, cp, rfl, hps, k2⟩
  have HM2 : Hid (Mm [(w2.heap.size, [.int .i64 0, .int .i64 0], 23), (w1.heap.size, [.int .i64 0, .int .i64 0], 23)] w (w2.alloc (.cells #[.int .i64 0, .int .i64 0] 23))) := (HM.out.below k2).new [.int .i64 0, .int .i64 0] 23 rfl
  have HP2 : Hid (PS (w2.alloc (.cells #[.int .i64 0, .int .i64 0] 23)) (.slice aa LN cp) L) := hps.below (ala _ _)
  clear k2 HM hps
  go_wp2_with fail
  refine (HCf.out _).mono ?_
  rintro e w3 ⟨rfl, k3⟩
  have HM3 : Hid (Mm [(w3.heap.size, [.int .i64 0, .int .i64 0], 23), (w2.heap.size, [.int .i64 0, .int .i64 0], 23), (w1.heap.size, [.int .i64 0, .int .i64 0], 23)] w (w3.alloc (.cells #[.int .i64 0, .int .i64 0] 23))) := (HM2.out.below k3).new [.int .i64 0, .int .i64 0] 23 rfl
  have HP3 : Hid (PS (w3.alloc (.cells #[.int .i64 0, .int .i64 0] 23)) (.slice aa LN cp) L) := (HP2.out.below k3).below (ala _ _)
  clear k3 HM2 HP2
  go_wp2_with fail
  refine (HBg.out _ (HT.out.below HM3.out.k)).mono ?_
  rintro e W4 ⟨rfl, k4⟩
  have HM : Hid (Mm [(w3.heap.size, [.int .i64 0, .int .i64 0], 23), (w2.heap.size, [.int .i64 0, .int .i64 0], 23), (w1.heap.size, [.int .i64 0, .int .i64 0], 23)] w W4) := HM3.out.below k4
  have HPS : Hid (PS W4 (.slice aa LN cp) L) := HP3.out.below k4
  clear k4 HM3 HP3
  have e0 : W4.cell? ⟨w3.heap.size, 0, none⟩ = some (.int .i64 0) := (HM.out.at 0 rfl).cell 0
  have e1 : W4.cell? ⟨w3.heap.size, 1, none⟩ = some (.int .i64 0) := (HM.out.at 0 rfl).cell 1
  have e2 : W4.cell? ⟨w2.heap.size, 0, none⟩ = some (.int .i64 0) := (HM.out.at 1 rfl).cell 0
  have e3 : W4.cell? ⟨w2.heap.size, 1, none⟩ = some (.int .i64 0) := (HM.out.at 1 rfl).cell 1
  have e4 : W4.cell? ⟨w1.heap.size, 0, none⟩ = some (.int .i64 0) := (HM.out.at 2 rfl).cell 0
  have e5 : W4.cell? ⟨w1.heap.size, 1, none⟩ = some (.int .i64 0) := (HM.out.at 2 rfl).cell 1
  obtain ⟨aa', g, cap', e', h1', h2'⟩ := HPS.out
  rw [HLen.out] at e' h1' h2'
  injection e' with e1' _ _
  rw [(h1' (by omega)).1] at e1'
  subst e1'
  have hgl : g < W4.heap.size := (h1' (by omega)).2
  have HCell : Hid (∀ i, i < LN → W4.cell? ⟨g, i * 3, none⟩ = some (.int .i64 (L.getD i farP).x) ∧ W4.cell? ⟨g, i * 3 + 1, none⟩ = some (.int .i64 (L.getD i farP).y) ∧ W4.cell? ⟨g, i * 3 + 2, none⟩ = some (.bool (L.getD i farP).far)) := h2'
  have z := h2' 0 (by omega)
  rw [h0] at z
  obtain ⟨z0, z1, z2⟩ := z
  unfold farP at z0 z1 z2
  simp only [Nat.zero_mul, Nat.zero_add] at z0 z1 z2
  have HGL : Hid (g < W4.heap.size) := hgl
  have HKW : Hid (Below w.heap.size w W4) := HM.out.k
  have hl1 : decide ((LN : Int) < 1) = false := decide_eq_false (by omega)
  have hl2 : decide (LN < 1) = false := decide_eq_false (by omega)
  clear h1' h2' hgl h0 HPS
  go_wp2
  clear e0 e1 e2 e3 e4 e5 z0 z1 z2 HM
  go_loopw [11] (fun iv wx => ∃ i : Nat, 1 ≤ i ∧ i ≤ LN ∧ iv = .int .i64 i ∧ Hid (Below W4.heap.size W4 wx)) (fun iv _ => LN - (intOf iv).toNat)
  case atStart => exact ⟨1, by omega, by omega, rfl, Below.refl _ _⟩
  case round =>
    obtain ⟨i, hi, hiL, rfl, HB⟩ := hrel
    by_cases hlt : i < LN
    · obtain ⟨j, rfl⟩ : ∃ j, i = j + 1 := ⟨i - 1, by omega⟩
      obtain ⟨i, hie⟩ : ∃ i, j + 1 = i := ⟨_, rfl⟩
      rw [hie] at hi hiL hlt ⊢
      have hij : (i : Int) - 1 = (j : Int) := by omega
      have hjt : j < LN := by omega
      have hwj : IntKind.i64.wrap (j : Int) = (j : Int) := by rw [IntKind.wrap_i64]; omega
      have hon := HOnL.out i hi hlt
      have hls : 1 ≤ j → Lx (L.getD j farP) (L.getD i farP) := fun hj => by have := HLs.out j hj (by omega); rwa [hie] at this
      have ci := HCell.out i hlt
      have cj := HCell.out j hjt
      obtain ⟨qi, hqi⟩ : ∃ q, L.getD i farP = q := ⟨_, rfl⟩
      obtain ⟨qj, hqj⟩ : ∃ q, L.getD j farP = q := ⟨_, rfl⟩
      rw [hqi] at hon hls ci
      rw [hqj] at hls cj
      obtain ⟨xi, yi, fi⟩ := qi
      obtain ⟨xj, yj, fj⟩ := qj
      simp only at hon ci cj
      obtain ⟨rfl, hon⟩ := hon
      have HOn : Hid (∀ w, Calls Tryd.prog 11 #[.int .i64 P, .int .i64 (A : Int), .int .i64 (B : Int), Pv ⟨xi, yi, false⟩] w fun e w' => e = .returned (.bool true) ∧ Below w.heap.size w w') := fun w => by
        have := refOnCurve_any P A B ⟨xi, yi, false⟩ w HV.out
        rw [hon] at this
        exact this
      unfold Pv at HOn
      have HH : Hid (∀ wz, Below W4.heap.size W4 wz → wz.cell? ⟨g, i * 3, none⟩ = some (.int .i64 xi) ∧ wz.cell? ⟨g, i * 3 + 1, none⟩ = some (.int .i64 yi) ∧ wz.cell? ⟨g, i * 3 + 2, none⟩ = some (.bool false) ∧ wz.cell? ⟨g, j * 3, none⟩ = some (.int .i64 xj) ∧ wz.cell? ⟨g, j * 3 + 1, none⟩ = some (.int .i64 yj) ∧ wz.cell? ⟨g, j * 3 + 2, none⟩ = some (.bool fj)) := fun wz hb => by
        have e : ∀ o, wz.cell? ⟨g, o, none⟩ = W4.cell? ⟨g, o, none⟩ := fun o => World.cell?_of_block (hb.block g HGL.out)
        rw [e, e, e, e, e, e]
        exact ⟨ci.1, ci.2.1, ci.2.2, cj.1, cj.2.1, cj.2.2⟩
      have hG := HH.out wr HB.out
      have hwi : IntKind.i64.wrap (i : Int) = (i : Int) := by rw [IntKind.wrap_i64]; omega
      clear hqi hqj hon ci cj
      by_cases hj0 : j = 0
      · have hi1 : decide (1 < (i : Int)) = false := decide_eq_false (by omega)
        clear hls
        go_wp2_with fail
        refine wp_region_G (fun wz => wz.cell? ⟨g, i * 3, none⟩ = some (.int .i64 xi) ∧ wz.cell? ⟨g, i * 3 + 1, none⟩ = some (.int .i64 yi) ∧ wz.cell? ⟨g, i * 3 + 2, none⟩ = some (.bool false) ∧ wz.cell? ⟨g, j * 3, none⟩ = some (.int .i64 xj) ∧ wz.cell? ⟨g, j * 3 + 1, none⟩ = some (.int .i64 yj) ∧ wz.cell? ⟨g, j * 3 + 2, none⟩ = some (.bool fj)) 61 (by as_aux_lemma => kernel_rfl) hG (fun hHeld => ?_)
        refine wpAnyG_take (i := 0) (v := .slice (some ⟨g, 0, none⟩) LN cp) rfl (by as_aux_lemma => kernel_rfl) (fun _ _ _ h => h) (Or.inl ⟨by as_aux_lemma => kernel_rfl, ?y0x1⟩) hHeld ?r0x1
        case y0x1 => (intro wS hSw; (go_simp))
        try simp only [Act.put, List.setIfInBounds_toArray, List.set_cons_zero, List.set_cons_succ]
        refine wpAnyG_take (i := 1) (v := .int .i64 i) rfl (by as_aux_lemma => kernel_rfl) (fun _ _ _ h => h) (Or.inl ⟨by as_aux_lemma => kernel_rfl, ?y1x2⟩) hHeld ?r1x2
        case y1x2 => (intro wS hSw; (go_simp))
        try simp only [Act.put, List.setIfInBounds_toArray, List.set_cons_zero, List.set_cons_succ]
        refine wpAnyG_take (i := 2) (v := .pointer (some ⟨g, i * 3, none⟩)) rfl (by as_aux_lemma => kernel_rfl) (fun _ _ _ h => h) (Or.inl ⟨by as_aux_lemma => kernel_rfl, ?y2x3⟩) hHeld ?r2x3
        case y2x3 => (intro wS hSw; (go_simp; try simp [hlt]))
        try simp only [Act.put, List.setIfInBounds_toArray, List.set_cons_zero, List.set_cons_succ]
        refine wpAnyG_take (i := 3) (v := .pointer (some ⟨g, i * 3 + 2, none⟩)) rfl (by as_aux_lemma => kernel_rfl) (fun _ _ _ h => h) (Or.inl ⟨by as_aux_lemma => kernel_rfl, ?y3x4⟩) hHeld ?r3x4
        case y3x4 => (intro wS hSw; (go_simp))
        try simp only [Act.put, List.setIfInBounds_toArray, List.set_cons_zero, List.set_cons_succ]
        refine wpAnyG_take (i := 4) (v := .bool false) rfl (by as_aux_lemma => kernel_rfl) (fun _ _ _ h => h) (Or.inl ⟨by as_aux_lemma => kernel_rfl, ?y4x5⟩) hHeld ?r4x5
        case y4x5 => (intro wS hSw; (obtain ⟨s1, s2, s3, s4, s5, s6⟩ := hSw; go_simp))
        try simp only [Act.put, List.setIfInBounds_toArray, List.set_cons_zero, List.set_cons_succ]
        refine wpAnyG_take (i := 5) (v := .bool false) rfl (by as_aux_lemma => kernel_rfl) (fun _ _ _ h => h) (Or.inl ⟨by as_aux_lemma => kernel_rfl, ?y5x6⟩) hHeld ?r5x6
        case y5x6 => (intro wS hSw; (go_simp))
        try simp only [Act.put, List.setIfInBounds_toArray, List.set_cons_zero, List.set_cons_succ]
        refine wpAnyG_take (i := 6) (v := .int .i64 P) rfl (by as_aux_lemma => kernel_rfl) (fun _ _ _ h => h) (Or.inl ⟨by as_aux_lemma => kernel_rfl, ?y6x7⟩) hHeld ?r6x7
        case y6x7 => (intro wS hSw; (go_simp))
        try simp only [Act.put, List.setIfInBounds_toArray, List.set_cons_zero, List.set_cons_succ]
        refine wpAnyG_take (i := 7) (v := .int .i64 (A : Int)) rfl (by as_aux_lemma => kernel_rfl) (fun _ _ _ h => h) (Or.inl ⟨by as_aux_lemma => kernel_rfl, ?y7x8⟩) hHeld ?r7x8
        case y7x8 => (intro wS hSw; (go_simp))
        try simp only [Act.put, List.setIfInBounds_toArray, List.set_cons_zero, List.set_cons_succ]
        refine wpAnyG_take (i := 8) (v := .int .i64 (B : Int)) rfl (by as_aux_lemma => kernel_rfl) (fun _ _ _ h => h) (Or.inl ⟨by as_aux_lemma => kernel_rfl, ?y8x9⟩) hHeld ?r8x9
        case y8x9 => (intro wS hSw; (go_simp))
        try simp only [Act.put, List.setIfInBounds_toArray, List.set_cons_zero, List.set_cons_succ]
        refine wpAnyG_take (i := 9) (v := .slice (some ⟨g, 0, none⟩) LN cp) rfl (by as_aux_lemma => kernel_rfl) (fun _ _ _ h => h) (Or.inl ⟨by as_aux_lemma => kernel_rfl, ?y9x10⟩) hHeld ?r9x10
        case y9x10 => (intro wS hSw; (go_simp))
        try simp only [Act.put, List.setIfInBounds_toArray, List.set_cons_zero, List.set_cons_succ]
        refine wpAnyG_take (i := 10) (v := .int .i64 i) rfl (by as_aux_lemma => kernel_rfl) (fun _ _ _ h => h) (Or.inl ⟨by as_aux_lemma => kernel_rfl, ?y10x11⟩) hHeld ?r10x11
        case y10x11 => (intro wS hSw; (go_simp))
        try simp only [Act.put, List.setIfInBounds_toArray, List.set_cons_zero, List.set_cons_succ]
        refine wpAnyG_take (i := 11) (v := .pointer (some ⟨g, i * 3, none⟩)) rfl (by as_aux_lemma => kernel_rfl) (fun _ _ _ h => h) (Or.inl ⟨by as_aux_lemma => kernel_rfl, ?y11x12⟩) hHeld ?r11x12
        case y11x12 => (intro wS hSw; (go_simp; try simp [hlt]))
        try simp only [Act.put, List.setIfInBounds_toArray, List.set_cons_zero, List.set_cons_succ]
        refine wpAnyG_take (i := 12) (v := .agg #[.int .i64 xi, .int .i64 yi, .bool false]) rfl (by as_aux_lemma => kernel_rfl) (fun _ _ _ h => h) (Or.inl ⟨by as_aux_lemma => kernel_rfl, ?y12x13⟩) hHeld ?r12x13
        case y12x13 => (intro wS hSw; (obtain ⟨s1, s2, s3, s4, s5, s6⟩ := hSw; go_simp))
        try simp only [Act.put, List.setIfInBounds_toArray, List.set_cons_zero, List.set_cons_succ]
        refine wpAnyG_one (i := 13) rfl (by as_aux_lemma => kernel_rfl) (fun K hK => ?_)
        rw [if_pos (by as_aux_lemma => kernel_rfl)]
        go_simp
        refine (HOn.out _).mono ?_
        rintro e w5 ⟨rfl, k5⟩
        have HB5 : Hid (Below W4.heap.size W4 w5) := HB.out.drew.trans (k5.mono HB.out.size)
        have hG5 := HH.out w5 HB5.out
        clear k5
        refine hK.out _ _ hG5 ?_
        clear hK K
        try simp only [Act.put, List.setIfInBounds_toArray, List.set_cons_zero, List.set_cons_succ]
        clear hHeld
        have hHeld := hG5
        refine wpAnyG_take (i := 14) (v := .bool false) rfl (by as_aux_lemma => kernel_rfl) (fun _ _ _ h => h) (Or.inl ⟨by as_aux_lemma => kernel_rfl, ?y14x14⟩) hHeld ?r14x14
        case y14x14 => (intro wS hSw; (go_simp))
        try simp only [Act.put, List.setIfInBounds_toArray, List.set_cons_zero, List.set_cons_succ]
        refine wpAnyG_take (i := 15) (v := .bool false) rfl (by as_aux_lemma => kernel_rfl) (fun _ _ _ h => h) (Or.inl ⟨by as_aux_lemma => kernel_rfl, ?y15x15⟩) hHeld ?r15x15
        case y15x15 => (intro wS hSw; (go_simp))
        try simp only [Act.put, List.setIfInBounds_toArray, List.set_cons_zero, List.set_cons_succ]
        refine wpAnyG_take (i := 16) (v := .bool false) rfl (by as_aux_lemma => kernel_rfl) (fun _ _ _ h => h) (Or.inl ⟨by as_aux_lemma => kernel_rfl, ?y16x16⟩) hHeld ?r16x16
        case y16x16 => (intro wS hSw; (go_simp))
        try simp only [Act.put, List.setIfInBounds_toArray, List.set_cons_zero, List.set_cons_succ]
        refine wpAnyG_take (i := 17) (v := .int .i64 i) rfl (by as_aux_lemma => kernel_rfl) (fun _ _ _ h => h) (Or.inl ⟨by as_aux_lemma => kernel_rfl, ?y17x17⟩) hHeld ?r17x17
        case y17x17 => (intro wS hSw; (go_simp))
        try simp only [Act.put, List.setIfInBounds_toArray, List.set_cons_zero, List.set_cons_succ]
        refine wpAnyG_take (i := 18) (v := .bool false) rfl (by as_aux_lemma => kernel_rfl) (fun _ _ _ h => h) (Or.inl ⟨by as_aux_lemma => kernel_rfl, ?y18x18⟩) hHeld ?r18x18
        case y18x18 => (intro wS hSw; (go_simp; try simp only [hi1]))
        try simp only [Act.put, List.setIfInBounds_toArray, List.set_cons_zero, List.set_cons_succ]
        refine wpAnyG_take (i := 19) (v := .bool false) rfl (by as_aux_lemma => kernel_rfl) (fun _ _ _ h => h) (Or.inl ⟨by as_aux_lemma => kernel_rfl, ?y19x19⟩) hHeld ?r19x19
        case y19x19 => (intro wS hSw; (go_simp))
        try simp only [Act.put, List.setIfInBounds_toArray, List.set_cons_zero, List.set_cons_succ]
        refine wpAnyG_take (i := 20) (v := undef) rfl (by as_aux_lemma => kernel_rfl) (fun _ _ _ h => h) (Or.inr ⟨by as_aux_lemma => kernel_rfl, rfl⟩) hHeld ?_
        try simp only [Act.put, List.setIfInBounds_toArray, List.set_cons_zero, List.set_cons_succ]
        refine wpAnyG_take (i := 21) (v := undef) rfl (by as_aux_lemma => kernel_rfl) (fun _ _ _ h => h) (Or.inr ⟨by as_aux_lemma => kernel_rfl, rfl⟩) hHeld ?_
        try simp only [Act.put, List.setIfInBounds_toArray, List.set_cons_zero, List.set_cons_succ]
        refine wpAnyG_take (i := 22) (v := undef) rfl (by as_aux_lemma => kernel_rfl) (fun _ _ _ h => h) (Or.inr ⟨by as_aux_lemma => kernel_rfl, rfl⟩) hHeld ?_
        try simp only [Act.put, List.setIfInBounds_toArray, List.set_cons_zero, List.set_cons_succ]
        refine wpAnyG_take (i := 23) (v := undef) rfl (by as_aux_lemma => kernel_rfl) (fun _ _ _ h => h) (Or.inr ⟨by as_aux_lemma => kernel_rfl, rfl⟩) hHeld ?_
        try simp only [Act.put, List.setIfInBounds_toArray, List.set_cons_zero, List.set_cons_succ]
        refine wpAnyG_take (i := 24) (v := undef) rfl (by as_aux_lemma => kernel_rfl) (fun _ _ _ h => h) (Or.inr ⟨by as_aux_lemma => kernel_rfl, rfl⟩) hHeld ?_
        try simp only [Act.put, List.setIfInBounds_toArray, List.set_cons_zero, List.set_cons_succ]
        refine wpAnyG_take (i := 25) (v := undef) rfl (by as_aux_lemma => kernel_rfl) (fun _ _ _ h => h) (Or.inr ⟨by as_aux_lemma => kernel_rfl, rfl⟩) hHeld ?_
        try simp only [Act.put, List.setIfInBounds_toArray, List.set_cons_zero, List.set_cons_succ]
        refine wpAnyG_take (i := 26) (v := undef) rfl (by as_aux_lemma => kernel_rfl) (fun _ _ _ h => h) (Or.inr ⟨by as_aux_lemma => kernel_rfl, rfl⟩) hHeld ?_
        try simp only [Act.put, List.setIfInBounds_toArray, List.set_cons_zero, List.set_cons_succ]
        refine wpAnyG_take (i := 27) (v := undef) rfl (by as_aux_lemma => kernel_rfl) (fun _ _ _ h => h) (Or.inr ⟨by as_aux_lemma => kernel_rfl, rfl⟩) hHeld ?_
        try simp only [Act.put, List.setIfInBounds_toArray, List.set_cons_zero, List.set_cons_succ]
        refine wpAnyG_take (i := 28) (v := undef) rfl (by as_aux_lemma => kernel_rfl) (fun _ _ _ h => h) (Or.inr ⟨by as_aux_lemma => kernel_rfl, rfl⟩) hHeld ?_
        try simp only [Act.put, List.setIfInBounds_toArray, List.set_cons_zero, List.set_cons_succ]
        refine wpAnyG_take (i := 29) (v := undef) rfl (by as_aux_lemma => kernel_rfl) (fun _ _ _ h => h) (Or.inr ⟨by as_aux_lemma => kernel_rfl, rfl⟩) hHeld ?_
        try simp only [Act.put, List.setIfInBounds_toArray, List.set_cons_zero, List.set_cons_succ]
        refine wpAnyG_take (i := 30) (v := undef) rfl (by as_aux_lemma => kernel_rfl) (fun _ _ _ h => h) (Or.inr ⟨by as_aux_lemma => kernel_rfl, rfl⟩) hHeld ?_
        try simp only [Act.put, List.setIfInBounds_toArray, List.set_cons_zero, List.set_cons_succ]
        refine wpAnyG_take (i := 31) (v := undef) rfl (by as_aux_lemma => kernel_rfl) (fun _ _ _ h => h) (Or.inr ⟨by as_aux_lemma => kernel_rfl, rfl⟩) hHeld ?_
        try simp only [Act.put, List.setIfInBounds_toArray, List.set_cons_zero, List.set_cons_succ]
        refine wpAnyG_take (i := 32) (v := undef) rfl (by as_aux_lemma => kernel_rfl) (fun _ _ _ h => h) (Or.inr ⟨by as_aux_lemma => kernel_rfl, rfl⟩) hHeld ?_
        try simp only [Act.put, List.setIfInBounds_toArray, List.set_cons_zero, List.set_cons_succ]
        refine wpAnyG_take (i := 33) (v := undef) rfl (by as_aux_lemma => kernel_rfl) (fun _ _ _ h => h) (Or.inr ⟨by as_aux_lemma => kernel_rfl, rfl⟩) hHeld ?_
        try simp only [Act.put, List.setIfInBounds_toArray, List.set_cons_zero, List.set_cons_succ]
        refine wpAnyG_take (i := 34) (v := undef) rfl (by as_aux_lemma => kernel_rfl) (fun _ _ _ h => h) (Or.inr ⟨by as_aux_lemma => kernel_rfl, rfl⟩) hHeld ?_
        try simp only [Act.put, List.setIfInBounds_toArray, List.set_cons_zero, List.set_cons_succ]
        refine wpAnyG_take (i := 35) (v := undef) rfl (by as_aux_lemma => kernel_rfl) (fun _ _ _ h => h) (Or.inr ⟨by as_aux_lemma => kernel_rfl, rfl⟩) hHeld ?_
        try simp only [Act.put, List.setIfInBounds_toArray, List.set_cons_zero, List.set_cons_succ]
        refine wpAnyG_take (i := 36) (v := undef) rfl (by as_aux_lemma => kernel_rfl) (fun _ _ _ h => h) (Or.inr ⟨by as_aux_lemma => kernel_rfl, rfl⟩) hHeld ?_
        try simp only [Act.put, List.setIfInBounds_toArray, List.set_cons_zero, List.set_cons_succ]
        refine wpAnyG_take (i := 37) (v := undef) rfl (by as_aux_lemma => kernel_rfl) (fun _ _ _ h => h) (Or.inr ⟨by as_aux_lemma => kernel_rfl, rfl⟩) hHeld ?_
        try simp only [Act.put, List.setIfInBounds_toArray, List.set_cons_zero, List.set_cons_succ]
        refine wpAnyG_take (i := 38) (v := undef) rfl (by as_aux_lemma => kernel_rfl) (fun _ _ _ h => h) (Or.inr ⟨by as_aux_lemma => kernel_rfl, rfl⟩) hHeld ?_
        try simp only [Act.put, List.setIfInBounds_toArray, List.set_cons_zero, List.set_cons_succ]
        refine wpAnyG_take (i := 39) (v := undef) rfl (by as_aux_lemma => kernel_rfl) (fun _ _ _ h => h) (Or.inr ⟨by as_aux_lemma => kernel_rfl, rfl⟩) hHeld ?_
        try simp only [Act.put, List.setIfInBounds_toArray, List.set_cons_zero, List.set_cons_succ]
        refine wpAnyG_take (i := 40) (v := undef) rfl (by as_aux_lemma => kernel_rfl) (fun _ _ _ h => h) (Or.inr ⟨by as_aux_lemma => kernel_rfl, rfl⟩) hHeld ?_
        try simp only [Act.put, List.setIfInBounds_toArray, List.set_cons_zero, List.set_cons_succ]
        refine wpAnyG_take (i := 41) (v := undef) rfl (by as_aux_lemma => kernel_rfl) (fun _ _ _ h => h) (Or.inr ⟨by as_aux_lemma => kernel_rfl, rfl⟩) hHeld ?_
        try simp only [Act.put, List.setIfInBounds_toArray, List.set_cons_zero, List.set_cons_succ]
        refine wpAnyG_take (i := 42) (v := undef) rfl (by as_aux_lemma => kernel_rfl) (fun _ _ _ h => h) (Or.inr ⟨by as_aux_lemma => kernel_rfl, rfl⟩) hHeld ?_
        try simp only [Act.put, List.setIfInBounds_toArray, List.set_cons_zero, List.set_cons_succ]
        refine wpAnyG_take (i := 43) (v := undef) rfl (by as_aux_lemma => kernel_rfl) (fun _ _ _ h => h) (Or.inr ⟨by as_aux_lemma => kernel_rfl, rfl⟩) hHeld ?_
        try simp only [Act.put, List.setIfInBounds_toArray, List.set_cons_zero, List.set_cons_succ]
        refine wpAnyG_take (i := 44) (v := undef) rfl (by as_aux_lemma => kernel_rfl) (fun _ _ _ h => h) (Or.inr ⟨by as_aux_lemma => kernel_rfl, rfl⟩) hHeld ?_
        try simp only [Act.put, List.setIfInBounds_toArray, List.set_cons_zero, List.set_cons_succ]
        refine wpAnyG_take (i := 45) (v := undef) rfl (by as_aux_lemma => kernel_rfl) (fun _ _ _ h => h) (Or.inr ⟨by as_aux_lemma => kernel_rfl, rfl⟩) hHeld ?_
        try simp only [Act.put, List.setIfInBounds_toArray, List.set_cons_zero, List.set_cons_succ]
        refine wpAnyG_take (i := 46) (v := undef) rfl (by as_aux_lemma => kernel_rfl) (fun _ _ _ h => h) (Or.inr ⟨by as_aux_lemma => kernel_rfl, rfl⟩) hHeld ?_
        try simp only [Act.put, List.setIfInBounds_toArray, List.set_cons_zero, List.set_cons_succ]
        refine wpAnyG_take (i := 47) (v := undef) rfl (by as_aux_lemma => kernel_rfl) (fun _ _ _ h => h) (Or.inr ⟨by as_aux_lemma => kernel_rfl, rfl⟩) hHeld ?_
        try simp only [Act.put, List.setIfInBounds_toArray, List.set_cons_zero, List.set_cons_succ]
        refine wpAnyG_take (i := 48) (v := undef) rfl (by as_aux_lemma => kernel_rfl) (fun _ _ _ h => h) (Or.inr ⟨by as_aux_lemma => kernel_rfl, rfl⟩) hHeld ?_
        try simp only [Act.put, List.setIfInBounds_toArray, List.set_cons_zero, List.set_cons_succ]
        refine wpAnyG_take (i := 49) (v := undef) rfl (by as_aux_lemma => kernel_rfl) (fun _ _ _ h => h) (Or.inr ⟨by as_aux_lemma => kernel_rfl, rfl⟩) hHeld ?_
        try simp only [Act.put, List.setIfInBounds_toArray, List.set_cons_zero, List.set_cons_succ]
        refine wpAnyG_take (i := 50) (v := undef) rfl (by as_aux_lemma => kernel_rfl) (fun _ _ _ h => h) (Or.inr ⟨by as_aux_lemma => kernel_rfl, rfl⟩) hHeld ?_
        try simp only [Act.put, List.setIfInBounds_toArray, List.set_cons_zero, List.set_cons_succ]
        refine wpAnyG_take (i := 51) (v := undef) rfl (by as_aux_lemma => kernel_rfl) (fun _ _ _ h => h) (Or.inr ⟨by as_aux_lemma => kernel_rfl, rfl⟩) hHeld ?_
        try simp only [Act.put, List.setIfInBounds_toArray, List.set_cons_zero, List.set_cons_succ]
        refine wpAnyG_take (i := 52) (v := undef) rfl (by as_aux_lemma => kernel_rfl) (fun _ _ _ h => h) (Or.inr ⟨by as_aux_lemma => kernel_rfl, rfl⟩) hHeld ?_
        try simp only [Act.put, List.setIfInBounds_toArray, List.set_cons_zero, List.set_cons_succ]
        refine wpAnyG_take (i := 53) (v := undef) rfl (by as_aux_lemma => kernel_rfl) (fun _ _ _ h => h) (Or.inr ⟨by as_aux_lemma => kernel_rfl, rfl⟩) hHeld ?_
        try simp only [Act.put, List.setIfInBounds_toArray, List.set_cons_zero, List.set_cons_succ]
        refine wpAnyG_take (i := 54) (v := undef) rfl (by as_aux_lemma => kernel_rfl) (fun _ _ _ h => h) (Or.inr ⟨by as_aux_lemma => kernel_rfl, rfl⟩) hHeld ?_
        try simp only [Act.put, List.setIfInBounds_toArray, List.set_cons_zero, List.set_cons_succ]
        refine wpAnyG_take (i := 55) (v := undef) rfl (by as_aux_lemma => kernel_rfl) (fun _ _ _ h => h) (Or.inr ⟨by as_aux_lemma => kernel_rfl, rfl⟩) hHeld ?_
        try simp only [Act.put, List.setIfInBounds_toArray, List.set_cons_zero, List.set_cons_succ]
        refine wpAnyG_take (i := 56) (v := undef) rfl (by as_aux_lemma => kernel_rfl) (fun _ _ _ h => h) (Or.inr ⟨by as_aux_lemma => kernel_rfl, rfl⟩) hHeld ?_
        try simp only [Act.put, List.setIfInBounds_toArray, List.set_cons_zero, List.set_cons_succ]
        refine wpAnyG_take (i := 57) (v := undef) rfl (by as_aux_lemma => kernel_rfl) (fun _ _ _ h => h) (Or.inr ⟨by as_aux_lemma => kernel_rfl, rfl⟩) hHeld ?_
        try simp only [Act.put, List.setIfInBounds_toArray, List.set_cons_zero, List.set_cons_succ]
        refine wpAnyG_take (i := 58) (v := undef) rfl (by as_aux_lemma => kernel_rfl) (fun _ _ _ h => h) (Or.inr ⟨by as_aux_lemma => kernel_rfl, rfl⟩) hHeld ?_
        try simp only [Act.put, List.setIfInBounds_toArray, List.set_cons_zero, List.set_cons_succ]
        refine wpAnyG_take (i := 59) (v := undef) rfl (by as_aux_lemma => kernel_rfl) (fun _ _ _ h => h) (Or.inr ⟨by as_aux_lemma => kernel_rfl, rfl⟩) hHeld ?_
        try simp only [Act.put, List.setIfInBounds_toArray, List.set_cons_zero, List.set_cons_succ]
        refine wpAnyG_take (i := 60) (v := .bool false) rfl (by as_aux_lemma => kernel_rfl) (fun _ _ _ h => h) (Or.inl ⟨by as_aux_lemma => kernel_rfl, ?y60x20⟩) hHeld ?r60x20
        case y60x20 => (intro wS hSw; (go_simp))
        try simp only [Act.put, List.setIfInBounds_toArray, List.set_cons_zero, List.set_cons_succ]
        refine wpAnyG_last (i := 61) rfl (by as_aux_lemma => kernel_rfl) (by as_aux_lemma => kernel_rfl) (fun K hK => ?_)
        go_simp
        refine hK.out _ _ ?_
        clear hK K
        try simp only [Act.put, List.setIfInBounds_toArray, List.set_cons_zero, List.set_cons_succ]
        refine wpAnyG_done (by as_aux_lemma => kernel_rfl) ?_ _
        clear hHeld
        clear hG5
        go_wp2
        go_roundw
        case rel => exact ⟨i + 1, by omega, by omega, by go_num, HB5.out⟩
        case measure => simp [intOf]; omega
      · have hi1 : decide (1 < (i : Int)) = true := decide_eq_true (by omega)
        have hl := hls (by omega)
        clear hls
        rcases hl with hl | ⟨hl, hl2⟩
        · simp only at hl
          have hg1 : decide (xi < xj) = false := decide_eq_false (by omega)
          have hg2 : (xj == xi) = false := beq_eq_false_iff_ne.2 (by omega)
          clear hl
          go_wp2_with fail
          refine wp_region_G (fun wz => wz.cell? ⟨g, i * 3, none⟩ = some (.int .i64 xi) ∧ wz.cell? ⟨g, i * 3 + 1, none⟩ = some (.int .i64 yi) ∧ wz.cell? ⟨g, i * 3 + 2, none⟩ = some (.bool false) ∧ wz.cell? ⟨g, j * 3, none⟩ = some (.int .i64 xj) ∧ wz.cell? ⟨g, j * 3 + 1, none⟩ = some (.int .i64 yj) ∧ wz.cell? ⟨g, j * 3 + 2, none⟩ = some (.bool fj)) 61 (by as_aux_lemma => kernel_rfl) hG (fun hHeld => ?_)
          refine wpAnyG_take (i := 0) (v := .slice (some ⟨g, 0, none⟩) LN cp) rfl (by as_aux_lemma => kernel_rfl) (fun _ _ _ h => h) (Or.inl ⟨by as_aux_lemma => kernel_rfl, ?y0x21⟩) hHeld ?r0x21
          case y0x21 => (intro wS hSw; (go_simp))
          try simp only [Act.put, List.setIfInBounds_toArray, List.set_cons_zero, List.set_cons_succ]
          refine wpAnyG_take (i := 1) (v := .int .i64 i) rfl (by as_aux_lemma => kernel_rfl) (fun _ _ _ h => h) (Or.inl ⟨by as_aux_lemma => kernel_rfl, ?y1x22⟩) hHeld ?r1x22
          case y1x22 => (intro wS hSw; (go_simp))
          try simp only [Act.put, List.setIfInBounds_toArray, List.set_cons_zero, List.set_cons_succ]
          refine wpAnyG_take (i := 2) (v := .pointer (some ⟨g, i * 3, none⟩)) rfl (by as_aux_lemma => kernel_rfl) (fun _ _ _ h => h) (Or.inl ⟨by as_aux_lemma => kernel_rfl, ?y2x23⟩) hHeld ?r2x23
          case y2x23 => (intro wS hSw; (go_simp; try simp [hlt]))
          try simp only [Act.put, List.setIfInBounds_toArray, List.set_cons_zero, List.set_cons_succ]
          refine wpAnyG_take (i := 3) (v := .pointer (some ⟨g, i * 3 + 2, none⟩)) rfl (by as_aux_lemma => kernel_rfl) (fun _ _ _ h => h) (Or.inl ⟨by as_aux_lemma => kernel_rfl, ?y3x24⟩) hHeld ?r3x24
          case y3x24 => (intro wS hSw; (go_simp))
          try simp only [Act.put, List.setIfInBounds_toArray, List.set_cons_zero, List.set_cons_succ]
          refine wpAnyG_take (i := 4) (v := .bool false) rfl (by as_aux_lemma => kernel_rfl) (fun _ _ _ h => h) (Or.inl ⟨by as_aux_lemma => kernel_rfl, ?y4x25⟩) hHeld ?r4x25
          case y4x25 => (intro wS hSw; (obtain ⟨s1, s2, s3, s4, s5, s6⟩ := hSw; go_simp))
          try simp only [Act.put, List.setIfInBounds_toArray, List.set_cons_zero, List.set_cons_succ]
          refine wpAnyG_take (i := 5) (v := .bool false) rfl (by as_aux_lemma => kernel_rfl) (fun _ _ _ h => h) (Or.inl ⟨by as_aux_lemma => kernel_rfl, ?y5x26⟩) hHeld ?r5x26
          case y5x26 => (intro wS hSw; (go_simp))
          try simp only [Act.put, List.setIfInBounds_toArray, List.set_cons_zero, List.set_cons_succ]
          refine wpAnyG_take (i := 6) (v := .int .i64 P) rfl (by as_aux_lemma => kernel_rfl) (fun _ _ _ h => h) (Or.inl ⟨by as_aux_lemma => kernel_rfl, ?y6x27⟩) hHeld ?r6x27
          case y6x27 => (intro wS hSw; (go_simp))
          try simp only [Act.put, List.setIfInBounds_toArray, List.set_cons_zero, List.set_cons_succ]
          refine wpAnyG_take (i := 7) (v := .int .i64 (A : Int)) rfl (by as_aux_lemma => kernel_rfl) (fun _ _ _ h => h) (Or.inl ⟨by as_aux_lemma => kernel_rfl, ?y7x28⟩) hHeld ?r7x28
          case y7x28 => (intro wS hSw; (go_simp))
          try simp only [Act.put, List.setIfInBounds_toArray, List.set_cons_zero, List.set_cons_succ]
          refine wpAnyG_take (i := 8) (v := .int .i64 (B : Int)) rfl (by as_aux_lemma => kernel_rfl) (fun _ _ _ h => h) (Or.inl ⟨by as_aux_lemma => kernel_rfl, ?y8x29⟩) hHeld ?r8x29
          case y8x29 => (intro wS hSw; (go_simp))
          try simp only [Act.put, List.setIfInBounds_toArray, List.set_cons_zero, List.set_cons_succ]
          refine wpAnyG_take (i := 9) (v := .slice (some ⟨g, 0, none⟩) LN cp) rfl (by as_aux_lemma => kernel_rfl) (fun _ _ _ h => h) (Or.inl ⟨by as_aux_lemma => kernel_rfl, ?y9x30⟩) hHeld ?r9x30
          case y9x30 => (intro wS hSw; (go_simp))
          try simp only [Act.put, List.setIfInBounds_toArray, List.set_cons_zero, List.set_cons_succ]
          refine wpAnyG_take (i := 10) (v := .int .i64 i) rfl (by as_aux_lemma => kernel_rfl) (fun _ _ _ h => h) (Or.inl ⟨by as_aux_lemma => kernel_rfl, ?y10x31⟩) hHeld ?r10x31
          case y10x31 => (intro wS hSw; (go_simp))
          try simp only [Act.put, List.setIfInBounds_toArray, List.set_cons_zero, List.set_cons_succ]
          refine wpAnyG_take (i := 11) (v := .pointer (some ⟨g, i * 3, none⟩)) rfl (by as_aux_lemma => kernel_rfl) (fun _ _ _ h => h) (Or.inl ⟨by as_aux_lemma => kernel_rfl, ?y11x32⟩) hHeld ?r11x32
          case y11x32 => (intro wS hSw; (go_simp; try simp [hlt]))
          try simp only [Act.put, List.setIfInBounds_toArray, List.set_cons_zero, List.set_cons_succ]
          refine wpAnyG_take (i := 12) (v := .agg #[.int .i64 xi, .int .i64 yi, .bool false]) rfl (by as_aux_lemma => kernel_rfl) (fun _ _ _ h => h) (Or.inl ⟨by as_aux_lemma => kernel_rfl, ?y12x33⟩) hHeld ?r12x33
          case y12x33 => (intro wS hSw; (obtain ⟨s1, s2, s3, s4, s5, s6⟩ := hSw; go_simp))
          try simp only [Act.put, List.setIfInBounds_toArray, List.set_cons_zero, List.set_cons_succ]
          refine wpAnyG_one (i := 13) rfl (by as_aux_lemma => kernel_rfl) (fun K hK => ?_)
          rw [if_pos (by as_aux_lemma => kernel_rfl)]
          go_simp
          refine (HOn.out _).mono ?_
          rintro e w5 ⟨rfl, k5⟩
          have HB5 : Hid (Below W4.heap.size W4 w5) := HB.out.drew.trans (k5.mono HB.out.size)
          have hG5 := HH.out w5 HB5.out
          clear k5
          refine hK.out _ _ hG5 ?_
          clear hK K
          try simp only [Act.put, List.setIfInBounds_toArray, List.set_cons_zero, List.set_cons_succ]
          clear hHeld
          have hHeld := hG5
          refine wpAnyG_take (i := 14) (v := .bool false) rfl (by as_aux_lemma => kernel_rfl) (fun _ _ _ h => h) (Or.inl ⟨by as_aux_lemma => kernel_rfl, ?y14x34⟩) hHeld ?r14x34
          case y14x34 => (intro wS hSw; (go_simp))
          try simp only [Act.put, List.setIfInBounds_toArray, List.set_cons_zero, List.set_cons_succ]
          refine wpAnyG_take (i := 15) (v := .bool false) rfl (by as_aux_lemma => kernel_rfl) (fun _ _ _ h => h) (Or.inl ⟨by as_aux_lemma => kernel_rfl, ?y15x35⟩) hHeld ?r15x35
          case y15x35 => (intro wS hSw; (go_simp))
          try simp only [Act.put, List.setIfInBounds_toArray, List.set_cons_zero, List.set_cons_succ]
          refine wpAnyG_take (i := 16) (v := .bool false) rfl (by as_aux_lemma => kernel_rfl) (fun _ _ _ h => h) (Or.inl ⟨by as_aux_lemma => kernel_rfl, ?y16x36⟩) hHeld ?r16x36
          case y16x36 => (intro wS hSw; (go_simp))
          try simp only [Act.put, List.setIfInBounds_toArray, List.set_cons_zero, List.set_cons_succ]
          refine wpAnyG_take (i := 17) (v := .int .i64 i) rfl (by as_aux_lemma => kernel_rfl) (fun _ _ _ h => h) (Or.inl ⟨by as_aux_lemma => kernel_rfl, ?y17x37⟩) hHeld ?r17x37
          case y17x37 => (intro wS hSw; (go_simp))
          try simp only [Act.put, List.setIfInBounds_toArray, List.set_cons_zero, List.set_cons_succ]
          refine wpAnyG_take (i := 18) (v := .bool true) rfl (by as_aux_lemma => kernel_rfl) (fun _ _ _ h => h) (Or.inl ⟨by as_aux_lemma => kernel_rfl, ?y18x38⟩) hHeld ?r18x38
          case y18x38 => (intro wS hSw; (go_simp; try simp only [hi1]))
          try simp only [Act.put, List.setIfInBounds_toArray, List.set_cons_zero, List.set_cons_succ]
          refine wpAnyG_take (i := 19) (v := .bool true) rfl (by as_aux_lemma => kernel_rfl) (fun _ _ _ h => h) (Or.inl ⟨by as_aux_lemma => kernel_rfl, ?y19x39⟩) hHeld ?r19x39
          case y19x39 => (intro wS hSw; (go_simp))
          try simp only [Act.put, List.setIfInBounds_toArray, List.set_cons_zero, List.set_cons_succ]
          refine wpAnyG_take (i := 20) (v := .slice (some ⟨g, 0, none⟩) LN cp) rfl (by as_aux_lemma => kernel_rfl) (fun _ _ _ h => h) (Or.inl ⟨by as_aux_lemma => kernel_rfl, ?y20x40⟩) hHeld ?r20x40
          case y20x40 => (intro wS hSw; (go_simp))
          try simp only [Act.put, List.setIfInBounds_toArray, List.set_cons_zero, List.set_cons_succ]
          refine wpAnyG_take (i := 21) (v := .int .i64 i) rfl (by as_aux_lemma => kernel_rfl) (fun _ _ _ h => h) (Or.inl ⟨by as_aux_lemma => kernel_rfl, ?y21x41⟩) hHeld ?r21x41
          case y21x41 => (intro wS hSw; (go_simp))
          try simp only [Act.put, List.setIfInBounds_toArray, List.set_cons_zero, List.set_cons_succ]
          refine wpAnyG_take (i := 22) (v := .int .i64 j) rfl (by as_aux_lemma => kernel_rfl) (fun _ _ _ h => h) (Or.inl ⟨by as_aux_lemma => kernel_rfl, ?y22x42⟩) hHeld ?r22x42
          case y22x42 => (intro wS hSw; (go_simp; try rw [hij]; try rw [hwj]))
          try simp only [Act.put, List.setIfInBounds_toArray, List.set_cons_zero, List.set_cons_succ]
          refine wpAnyG_take (i := 23) (v := .pointer (some ⟨g, j * 3, none⟩)) rfl (by as_aux_lemma => kernel_rfl) (fun _ _ _ h => h) (Or.inl ⟨by as_aux_lemma => kernel_rfl, ?y23x43⟩) hHeld ?r23x43
          case y23x43 => (intro wS hSw; (go_simp; try simp [hjt]))
          try simp only [Act.put, List.setIfInBounds_toArray, List.set_cons_zero, List.set_cons_succ]
          refine wpAnyG_take (i := 24) (v := .pointer (some ⟨g, j * 3, none⟩)) rfl (by as_aux_lemma => kernel_rfl) (fun _ _ _ h => h) (Or.inl ⟨by as_aux_lemma => kernel_rfl, ?y24x44⟩) hHeld ?r24x44
          case y24x44 => (intro wS hSw; (go_simp))
          try simp only [Act.put, List.setIfInBounds_toArray, List.set_cons_zero, List.set_cons_succ]
          refine wpAnyG_take (i := 25) (v := .int .i64 xj) rfl (by as_aux_lemma => kernel_rfl) (fun _ _ _ h => h) (Or.inl ⟨by as_aux_lemma => kernel_rfl, ?y25x45⟩) hHeld ?r25x45
          case y25x45 => (intro wS hSw; (obtain ⟨s1, s2, s3, s4, s5, s6⟩ := hSw; go_simp))
          try simp only [Act.put, List.setIfInBounds_toArray, List.set_cons_zero, List.set_cons_succ]
          refine wpAnyG_take (i := 26) (v := .slice (some ⟨g, 0, none⟩) LN cp) rfl (by as_aux_lemma => kernel_rfl) (fun _ _ _ h => h) (Or.inl ⟨by as_aux_lemma => kernel_rfl, ?y26x46⟩) hHeld ?r26x46
          case y26x46 => (intro wS hSw; (go_simp))
          try simp only [Act.put, List.setIfInBounds_toArray, List.set_cons_zero, List.set_cons_succ]
          refine wpAnyG_take (i := 27) (v := .int .i64 i) rfl (by as_aux_lemma => kernel_rfl) (fun _ _ _ h => h) (Or.inl ⟨by as_aux_lemma => kernel_rfl, ?y27x47⟩) hHeld ?r27x47
          case y27x47 => (intro wS hSw; (go_simp))
          try simp only [Act.put, List.setIfInBounds_toArray, List.set_cons_zero, List.set_cons_succ]
          refine wpAnyG_take (i := 28) (v := .pointer (some ⟨g, i * 3, none⟩)) rfl (by as_aux_lemma => kernel_rfl) (fun _ _ _ h => h) (Or.inl ⟨by as_aux_lemma => kernel_rfl, ?y28x48⟩) hHeld ?r28x48
          case y28x48 => (intro wS hSw; (go_simp; try simp [hlt]))
          try simp only [Act.put, List.setIfInBounds_toArray, List.set_cons_zero, List.set_cons_succ]
          refine wpAnyG_take (i := 29) (v := .pointer (some ⟨g, i * 3, none⟩)) rfl (by as_aux_lemma => kernel_rfl) (fun _ _ _ h => h) (Or.inl ⟨by as_aux_lemma => kernel_rfl, ?y29x49⟩) hHeld ?r29x49
          case y29x49 => (intro wS hSw; (go_simp))
          try simp only [Act.put, List.setIfInBounds_toArray, List.set_cons_zero, List.set_cons_succ]
          refine wpAnyG_take (i := 30) (v := .int .i64 xi) rfl (by as_aux_lemma => kernel_rfl) (fun _ _ _ h => h) (Or.inl ⟨by as_aux_lemma => kernel_rfl, ?y30x50⟩) hHeld ?r30x50
          case y30x50 => (intro wS hSw; (obtain ⟨s1, s2, s3, s4, s5, s6⟩ := hSw; go_simp))
          try simp only [Act.put, List.setIfInBounds_toArray, List.set_cons_zero, List.set_cons_succ]
          refine wpAnyG_take (i := 31) (v := .bool false) rfl (by as_aux_lemma => kernel_rfl) (fun _ _ _ h => h) (Or.inl ⟨by as_aux_lemma => kernel_rfl, ?y31x51⟩) hHeld ?r31x51
          case y31x51 => (intro wS hSw; (go_simp; try simp only [hg1]))
          try simp only [Act.put, List.setIfInBounds_toArray, List.set_cons_zero, List.set_cons_succ]
          refine wpAnyG_take (i := 32) (v := .bool false) rfl (by as_aux_lemma => kernel_rfl) (fun _ _ _ h => h) (Or.inl ⟨by as_aux_lemma => kernel_rfl, ?y32x52⟩) hHeld ?r32x52
          case y32x52 => (intro wS hSw; (go_simp))
          try simp only [Act.put, List.setIfInBounds_toArray, List.set_cons_zero, List.set_cons_succ]
          refine wpAnyG_take (i := 33) (v := .slice (some ⟨g, 0, none⟩) LN cp) rfl (by as_aux_lemma => kernel_rfl) (fun _ _ _ h => h) (Or.inl ⟨by as_aux_lemma => kernel_rfl, ?y33x53⟩) hHeld ?r33x53
          case y33x53 => (intro wS hSw; (go_simp))
          try simp only [Act.put, List.setIfInBounds_toArray, List.set_cons_zero, List.set_cons_succ]
          refine wpAnyG_take (i := 34) (v := .int .i64 i) rfl (by as_aux_lemma => kernel_rfl) (fun _ _ _ h => h) (Or.inl ⟨by as_aux_lemma => kernel_rfl, ?y34x54⟩) hHeld ?r34x54
          case y34x54 => (intro wS hSw; (go_simp))
          try simp only [Act.put, List.setIfInBounds_toArray, List.set_cons_zero, List.set_cons_succ]
          refine wpAnyG_take (i := 35) (v := .int .i64 j) rfl (by as_aux_lemma => kernel_rfl) (fun _ _ _ h => h) (Or.inl ⟨by as_aux_lemma => kernel_rfl, ?y35x55⟩) hHeld ?r35x55
          case y35x55 => (intro wS hSw; (go_simp; try rw [hij]; try rw [hwj]))
          try simp only [Act.put, List.setIfInBounds_toArray, List.set_cons_zero, List.set_cons_succ]
          refine wpAnyG_take (i := 36) (v := .pointer (some ⟨g, j * 3, none⟩)) rfl (by as_aux_lemma => kernel_rfl) (fun _ _ _ h => h) (Or.inl ⟨by as_aux_lemma => kernel_rfl, ?y36x56⟩) hHeld ?r36x56
          case y36x56 => (intro wS hSw; (go_simp; try simp [hjt]))
          try simp only [Act.put, List.setIfInBounds_toArray, List.set_cons_zero, List.set_cons_succ]
          refine wpAnyG_take (i := 37) (v := .pointer (some ⟨g, j * 3, none⟩)) rfl (by as_aux_lemma => kernel_rfl) (fun _ _ _ h => h) (Or.inl ⟨by as_aux_lemma => kernel_rfl, ?y37x57⟩) hHeld ?r37x57
          case y37x57 => (intro wS hSw; (go_simp))
          try simp only [Act.put, List.setIfInBounds_toArray, List.set_cons_zero, List.set_cons_succ]
          refine wpAnyG_take (i := 38) (v := .int .i64 xj) rfl (by as_aux_lemma => kernel_rfl) (fun _ _ _ h => h) (Or.inl ⟨by as_aux_lemma => kernel_rfl, ?y38x58⟩) hHeld ?r38x58
          case y38x58 => (intro wS hSw; (obtain ⟨s1, s2, s3, s4, s5, s6⟩ := hSw; go_simp))
          try simp only [Act.put, List.setIfInBounds_toArray, List.set_cons_zero, List.set_cons_succ]
          refine wpAnyG_take (i := 39) (v := .slice (some ⟨g, 0, none⟩) LN cp) rfl (by as_aux_lemma => kernel_rfl) (fun _ _ _ h => h) (Or.inl ⟨by as_aux_lemma => kernel_rfl, ?y39x59⟩) hHeld ?r39x59
          case y39x59 => (intro wS hSw; (go_simp))
          try simp only [Act.put, List.setIfInBounds_toArray, List.set_cons_zero, List.set_cons_succ]
          refine wpAnyG_take (i := 40) (v := .int .i64 i) rfl (by as_aux_lemma => kernel_rfl) (fun _ _ _ h => h) (Or.inl ⟨by as_aux_lemma => kernel_rfl, ?y40x60⟩) hHeld ?r40x60
          case y40x60 => (intro wS hSw; (go_simp))
          try simp only [Act.put, List.setIfInBounds_toArray, List.set_cons_zero, List.set_cons_succ]
          refine wpAnyG_take (i := 41) (v := .pointer (some ⟨g, i * 3, none⟩)) rfl (by as_aux_lemma => kernel_rfl) (fun _ _ _ h => h) (Or.inl ⟨by as_aux_lemma => kernel_rfl, ?y41x61⟩) hHeld ?r41x61
          case y41x61 => (intro wS hSw; (go_simp; try simp [hlt]))
          try simp only [Act.put, List.setIfInBounds_toArray, List.set_cons_zero, List.set_cons_succ]
          refine wpAnyG_take (i := 42) (v := .pointer (some ⟨g, i * 3, none⟩)) rfl (by as_aux_lemma => kernel_rfl) (fun _ _ _ h => h) (Or.inl ⟨by as_aux_lemma => kernel_rfl, ?y42x62⟩) hHeld ?r42x62
          case y42x62 => (intro wS hSw; (go_simp))
          try simp only [Act.put, List.setIfInBounds_toArray, List.set_cons_zero, List.set_cons_succ]
          refine wpAnyG_take (i := 43) (v := .int .i64 xi) rfl (by as_aux_lemma => kernel_rfl) (fun _ _ _ h => h) (Or.inl ⟨by as_aux_lemma => kernel_rfl, ?y43x63⟩) hHeld ?r43x63
          case y43x63 => (intro wS hSw; (obtain ⟨s1, s2, s3, s4, s5, s6⟩ := hSw; go_simp))
          try simp only [Act.put, List.setIfInBounds_toArray, List.set_cons_zero, List.set_cons_succ]
          refine wpAnyG_take (i := 44) (v := .bool false) rfl (by as_aux_lemma => kernel_rfl) (fun _ _ _ h => h) (Or.inl ⟨by as_aux_lemma => kernel_rfl, ?y44x64⟩) hHeld ?r44x64
          case y44x64 => (intro wS hSw; (go_simp; try simp only [hg2]))
          try simp only [Act.put, List.setIfInBounds_toArray, List.set_cons_zero, List.set_cons_succ]
          refine wpAnyG_take (i := 45) (v := .bool false) rfl (by as_aux_lemma => kernel_rfl) (fun _ _ _ h => h) (Or.inl ⟨by as_aux_lemma => kernel_rfl, ?y45x65⟩) hHeld ?r45x65
          case y45x65 => (intro wS hSw; (go_simp))
          try simp only [Act.put, List.setIfInBounds_toArray, List.set_cons_zero, List.set_cons_succ]
          refine wpAnyG_take (i := 46) (v := undef) rfl (by as_aux_lemma => kernel_rfl) (fun _ _ _ h => h) (Or.inr ⟨by as_aux_lemma => kernel_rfl, rfl⟩) hHeld ?_
          try simp only [Act.put, List.setIfInBounds_toArray, List.set_cons_zero, List.set_cons_succ]
          refine wpAnyG_take (i := 47) (v := undef) rfl (by as_aux_lemma => kernel_rfl) (fun _ _ _ h => h) (Or.inr ⟨by as_aux_lemma => kernel_rfl, rfl⟩) hHeld ?_
          try simp only [Act.put, List.setIfInBounds_toArray, List.set_cons_zero, List.set_cons_succ]
          refine wpAnyG_take (i := 48) (v := undef) rfl (by as_aux_lemma => kernel_rfl) (fun _ _ _ h => h) (Or.inr ⟨by as_aux_lemma => kernel_rfl, rfl⟩) hHeld ?_
          try simp only [Act.put, List.setIfInBounds_toArray, List.set_cons_zero, List.set_cons_succ]
          refine wpAnyG_take (i := 49) (v := undef) rfl (by as_aux_lemma => kernel_rfl) (fun _ _ _ h => h) (Or.inr ⟨by as_aux_lemma => kernel_rfl, rfl⟩) hHeld ?_
          try simp only [Act.put, List.setIfInBounds_toArray, List.set_cons_zero, List.set_cons_succ]
          refine wpAnyG_take (i := 50) (v := undef) rfl (by as_aux_lemma => kernel_rfl) (fun _ _ _ h => h) (Or.inr ⟨by as_aux_lemma => kernel_rfl, rfl⟩) hHeld ?_
          try simp only [Act.put, List.setIfInBounds_toArray, List.set_cons_zero, List.set_cons_succ]
          refine wpAnyG_take (i := 51) (v := undef) rfl (by as_aux_lemma => kernel_rfl) (fun _ _ _ h => h) (Or.inr ⟨by as_aux_lemma => kernel_rfl, rfl⟩) hHeld ?_
          try simp only [Act.put, List.setIfInBounds_toArray, List.set_cons_zero, List.set_cons_succ]
          refine wpAnyG_take (i := 52) (v := undef) rfl (by as_aux_lemma => kernel_rfl) (fun _ _ _ h => h) (Or.inr ⟨by as_aux_lemma => kernel_rfl, rfl⟩) hHeld ?_
          try simp only [Act.put, List.setIfInBounds_toArray, List.set_cons_zero, List.set_cons_succ]
          refine wpAnyG_take (i := 53) (v := undef) rfl (by as_aux_lemma => kernel_rfl) (fun _ _ _ h => h) (Or.inr ⟨by as_aux_lemma => kernel_rfl, rfl⟩) hHeld ?_
          try simp only [Act.put, List.setIfInBounds_toArray, List.set_cons_zero, List.set_cons_succ]
          refine wpAnyG_take (i := 54) (v := undef) rfl (by as_aux_lemma => kernel_rfl) (fun _ _ _ h => h) (Or.inr ⟨by as_aux_lemma => kernel_rfl, rfl⟩) hHeld ?_
          try simp only [Act.put, List.setIfInBounds_toArray, List.set_cons_zero, List.set_cons_succ]
          refine wpAnyG_take (i := 55) (v := undef) rfl (by as_aux_lemma => kernel_rfl) (fun _ _ _ h => h) (Or.inr ⟨by as_aux_lemma => kernel_rfl, rfl⟩) hHeld ?_
          try simp only [Act.put, List.setIfInBounds_toArray, List.set_cons_zero, List.set_cons_succ]
          refine wpAnyG_take (i := 56) (v := undef) rfl (by as_aux_lemma => kernel_rfl) (fun _ _ _ h => h) (Or.inr ⟨by as_aux_lemma => kernel_rfl, rfl⟩) hHeld ?_
          try simp only [Act.put, List.setIfInBounds_toArray, List.set_cons_zero, List.set_cons_succ]
          refine wpAnyG_take (i := 57) (v := undef) rfl (by as_aux_lemma => kernel_rfl) (fun _ _ _ h => h) (Or.inr ⟨by as_aux_lemma => kernel_rfl, rfl⟩) hHeld ?_
          try simp only [Act.put, List.setIfInBounds_toArray, List.set_cons_zero, List.set_cons_succ]
          refine wpAnyG_take (i := 58) (v := .bool false) rfl (by as_aux_lemma => kernel_rfl) (fun _ _ _ h => h) (Or.inl ⟨by as_aux_lemma => kernel_rfl, ?y58x66⟩) hHeld ?r58x66
          case y58x66 => (intro wS hSw; (go_simp))
          try simp only [Act.put, List.setIfInBounds_toArray, List.set_cons_zero, List.set_cons_succ]
          refine wpAnyG_take (i := 59) (v := .bool false) rfl (by as_aux_lemma => kernel_rfl) (fun _ _ _ h => h) (Or.inl ⟨by as_aux_lemma => kernel_rfl, ?y59x67⟩) hHeld ?r59x67
          case y59x67 => (intro wS hSw; (go_simp))
          try simp only [Act.put, List.setIfInBounds_toArray, List.set_cons_zero, List.set_cons_succ]
          refine wpAnyG_take (i := 60) (v := .bool false) rfl (by as_aux_lemma => kernel_rfl) (fun _ _ _ h => h) (Or.inl ⟨by as_aux_lemma => kernel_rfl, ?y60x68⟩) hHeld ?r60x68
          case y60x68 => (intro wS hSw; (go_simp))
          try simp only [Act.put, List.setIfInBounds_toArray, List.set_cons_zero, List.set_cons_succ]
          refine wpAnyG_last (i := 61) rfl (by as_aux_lemma => kernel_rfl) (by as_aux_lemma => kernel_rfl) (fun K hK => ?_)
          go_simp
          refine hK.out _ _ ?_
          clear hK K
          try simp only [Act.put, List.setIfInBounds_toArray, List.set_cons_zero, List.set_cons_succ]
          refine wpAnyG_done (by as_aux_lemma => kernel_rfl) ?_ _
          clear hHeld
          clear hG5
          go_wp2
          go_roundw
          case rel => exact ⟨i + 1, by omega, by omega, by go_num, HB5.out⟩
          case measure => simp [intOf]; omega
        · simp only at hl hl2
          have hg1 : decide (xi < xj) = false := decide_eq_false (by omega)
          have hg2 : (xj == xi) = true := beq_iff_eq.2 (by omega)
          have hg3 : decide (yi ≤ yj) = false := decide_eq_false (by omega)
          clear hl hl2
          go_wp2_with fail
          refine wp_region_G (fun wz => wz.cell? ⟨g, i * 3, none⟩ = some (.int .i64 xi) ∧ wz.cell? ⟨g, i * 3 + 1, none⟩ = some (.int .i64 yi) ∧ wz.cell? ⟨g, i * 3 + 2, none⟩ = some (.bool false) ∧ wz.cell? ⟨g, j * 3, none⟩ = some (.int .i64 xj) ∧ wz.cell? ⟨g, j * 3 + 1, none⟩ = some (.int .i64 yj) ∧ wz.cell? ⟨g, j * 3 + 2, none⟩ = some (.bool fj)) 61 (by as_aux_lemma => kernel_rfl) hG (fun hHeld => ?_)
          refine wpAnyG_take (i := 0) (v := .slice (some ⟨g, 0, none⟩) LN cp) rfl (by as_aux_lemma => kernel_rfl) (fun _ _ _ h => h) (Or.inl ⟨by as_aux_lemma => kernel_rfl, ?y0x69⟩) hHeld ?r0x69
          case y0x69 => (intro wS hSw; (go_simp))
          try simp only [Act.put, List.setIfInBounds_toArray, List.set_cons_zero, List.set_cons_succ]
          refine wpAnyG_take (i := 1) (v := .int .i64 i) rfl (by as_aux_lemma => kernel_rfl) (fun _ _ _ h => h) (Or.inl ⟨by as_aux_lemma => kernel_rfl, ?y1x70⟩) hHeld ?r1x70
          case y1x70 => (intro wS hSw; (go_simp))
          try simp only [Act.put, List.setIfInBounds_toArray, List.set_cons_zero, List.set_cons_succ]
          refine wpAnyG_take (i := 2) (v := .pointer (some ⟨g, i * 3, none⟩)) rfl (by as_aux_lemma => kernel_rfl) (fun _ _ _ h => h) (Or.inl ⟨by as_aux_lemma => kernel_rfl, ?y2x71⟩) hHeld ?r2x71
          case y2x71 => (intro wS hSw; (go_simp; try simp [hlt]))
          try simp only [Act.put, List.setIfInBounds_toArray, List.set_cons_zero, List.set_cons_succ]
          refine wpAnyG_take (i := 3) (v := .pointer (some ⟨g, i * 3 + 2, none⟩)) rfl (by as_aux_lemma => kernel_rfl) (fun _ _ _ h => h) (Or.inl ⟨by as_aux_lemma => kernel_rfl, ?y3x72⟩) hHeld ?r3x72
          case y3x72 => (intro wS hSw; (go_simp))
          try simp only [Act.put, List.setIfInBounds_toArray, List.set_cons_zero, List.set_cons_succ]
          refine wpAnyG_take (i := 4) (v := .bool false) rfl (by as_aux_lemma => kernel_rfl) (fun _ _ _ h => h) (Or.inl ⟨by as_aux_lemma => kernel_rfl, ?y4x73⟩) hHeld ?r4x73
          case y4x73 => (intro wS hSw; (obtain ⟨s1, s2, s3, s4, s5, s6⟩ := hSw; go_simp))
          try simp only [Act.put, List.setIfInBounds_toArray, List.set_cons_zero, List.set_cons_succ]
          refine wpAnyG_take (i := 5) (v := .bool false) rfl (by as_aux_lemma => kernel_rfl) (fun _ _ _ h => h) (Or.inl ⟨by as_aux_lemma => kernel_rfl, ?y5x74⟩) hHeld ?r5x74
          case y5x74 => (intro wS hSw; (go_simp))
          try simp only [Act.put, List.setIfInBounds_toArray, List.set_cons_zero, List.set_cons_succ]
          refine wpAnyG_take (i := 6) (v := .int .i64 P) rfl (by as_aux_lemma => kernel_rfl) (fun _ _ _ h => h) (Or.inl ⟨by as_aux_lemma => kernel_rfl, ?y6x75⟩) hHeld ?r6x75
          case y6x75 => (intro wS hSw; (go_simp))
          try simp only [Act.put, List.setIfInBounds_toArray, List.set_cons_zero, List.set_cons_succ]
          refine wpAnyG_take (i := 7) (v := .int .i64 (A : Int)) rfl (by as_aux_lemma => kernel_rfl) (fun _ _ _ h => h) (Or.inl ⟨by as_aux_lemma => kernel_rfl, ?y7x76⟩) hHeld ?r7x76
          case y7x76 => (intro wS hSw; (go_simp))
          try simp only [Act.put, List.setIfInBounds_toArray, List.set_cons_zero, List.set_cons_succ]
          refine wpAnyG_take (i := 8) (v := .int .i64 (B : Int)) rfl (by as_aux_lemma => kernel_rfl) (fun _ _ _ h => h) (Or.inl ⟨by as_aux_lemma => kernel_rfl, ?y8x77⟩) hHeld ?r8x77
          case y8x77 => (intro wS hSw; (go_simp))
          try simp only [Act.put, List.setIfInBounds_toArray, List.set_cons_zero, List.set_cons_succ]
          refine wpAnyG_take (i := 9) (v := .slice (some ⟨g, 0, none⟩) LN cp) rfl (by as_aux_lemma => kernel_rfl) (fun _ _ _ h => h) (Or.inl ⟨by as_aux_lemma => kernel_rfl, ?y9x78⟩) hHeld ?r9x78
          case y9x78 => (intro wS hSw; (go_simp))
          try simp only [Act.put, List.setIfInBounds_toArray, List.set_cons_zero, List.set_cons_succ]
          refine wpAnyG_take (i := 10) (v := .int .i64 i) rfl (by as_aux_lemma => kernel_rfl) (fun _ _ _ h => h) (Or.inl ⟨by as_aux_lemma => kernel_rfl, ?y10x79⟩) hHeld ?r10x79
          case y10x79 => (intro wS hSw; (go_simp))
          try simp only [Act.put, List.setIfInBounds_toArray, List.set_cons_zero, List.set_cons_succ]
          refine wpAnyG_take (i := 11) (v := .pointer (some ⟨g, i * 3, none⟩)) rfl (by as_aux_lemma => kernel_rfl) (fun _ _ _ h => h) (Or.inl ⟨by as_aux_lemma => kernel_rfl, ?y11x80⟩) hHeld ?r11x80
          case y11x80 => (intro wS hSw; (go_simp; try simp [hlt]))
          try simp only [Act.put, List.setIfInBounds_toArray, List.set_cons_zero, List.set_cons_succ]
          refine wpAnyG_take (i := 12) (v := .agg #[.int .i64 xi, .int .i64 yi, .bool false]) rfl (by as_aux_lemma => kernel_rfl) (fun _ _ _ h => h) (Or.inl ⟨by as_aux_lemma => kernel_rfl, ?y12x81⟩) hHeld ?r12x81
          case y12x81 => (intro wS hSw; (obtain ⟨s1, s2, s3, s4, s5, s6⟩ := hSw; go_simp))
          try simp only [Act.put, List.setIfInBounds_toArray, List.set_cons_zero, List.set_cons_succ]
          refine wpAnyG_one (i := 13) rfl (by as_aux_lemma => kernel_rfl) (fun K hK => ?_)
          rw [if_pos (by as_aux_lemma => kernel_rfl)]
          go_simp
          refine (HOn.out _).mono ?_
          rintro e w5 ⟨rfl, k5⟩
          have HB5 : Hid (Below W4.heap.size W4 w5) := HB.out.drew.trans (k5.mono HB.out.size)
          have hG5 := HH.out w5 HB5.out
          clear k5
          refine hK.out _ _ hG5 ?_
          clear hK K
          try simp only [Act.put, List.setIfInBounds_toArray, List.set_cons_zero, List.set_cons_succ]
          clear hHeld
          have hHeld := hG5
          refine wpAnyG_take (i := 14) (v := .bool false) rfl (by as_aux_lemma => kernel_rfl) (fun _ _ _ h => h) (Or.inl ⟨by as_aux_lemma => kernel_rfl, ?y14x82⟩) hHeld ?r14x82
          case y14x82 => (intro wS hSw; (go_simp))
          try simp only [Act.put, List.setIfInBounds_toArray, List.set_cons_zero, List.set_cons_succ]
          refine wpAnyG_take (i := 15) (v := .bool false) rfl (by as_aux_lemma => kernel_rfl) (fun _ _ _ h => h) (Or.inl ⟨by as_aux_lemma => kernel_rfl, ?y15x83⟩) hHeld ?r15x83
          case y15x83 => (intro wS hSw; (go_simp))
          try simp only [Act.put, List.setIfInBounds_toArray, List.set_cons_zero, List.set_cons_succ]
          refine wpAnyG_take (i := 16) (v := .bool false) rfl (by as_aux_lemma => kernel_rfl) (fun _ _ _ h => h) (Or.inl ⟨by as_aux_lemma => kernel_rfl, ?y16x84⟩) hHeld ?r16x84
          case y16x84 => (intro wS hSw; (go_simp))
          try simp only [Act.put, List.setIfInBounds_toArray, List.set_cons_zero, List.set_cons_succ]
          refine wpAnyG_take (i := 17) (v := .int .i64 i) rfl (by as_aux_lemma => kernel_rfl) (fun _ _ _ h => h) (Or.inl ⟨by as_aux_lemma => kernel_rfl, ?y17x85⟩) hHeld ?r17x85
          case y17x85 => (intro wS hSw; (go_simp))
          try simp only [Act.put, List.setIfInBounds_toArray, List.set_cons_zero, List.set_cons_succ]
          refine wpAnyG_take (i := 18) (v := .bool true) rfl (by as_aux_lemma => kernel_rfl) (fun _ _ _ h => h) (Or.inl ⟨by as_aux_lemma => kernel_rfl, ?y18x86⟩) hHeld ?r18x86
          case y18x86 => (intro wS hSw; (go_simp; try simp only [hi1]))
          try simp only [Act.put, List.setIfInBounds_toArray, List.set_cons_zero, List.set_cons_succ]
          refine wpAnyG_take (i := 19) (v := .bool true) rfl (by as_aux_lemma => kernel_rfl) (fun _ _ _ h => h) (Or.inl ⟨by as_aux_lemma => kernel_rfl, ?y19x87⟩) hHeld ?r19x87
          case y19x87 => (intro wS hSw; (go_simp))
          try simp only [Act.put, List.setIfInBounds_toArray, List.set_cons_zero, List.set_cons_succ]
          refine wpAnyG_take (i := 20) (v := .slice (some ⟨g, 0, none⟩) LN cp) rfl (by as_aux_lemma => kernel_rfl) (fun _ _ _ h => h) (Or.inl ⟨by as_aux_lemma => kernel_rfl, ?y20x88⟩) hHeld ?r20x88
          case y20x88 => (intro wS hSw; (go_simp))
          try simp only [Act.put, List.setIfInBounds_toArray, List.set_cons_zero, List.set_cons_succ]
          refine wpAnyG_take (i := 21) (v := .int .i64 i) rfl (by as_aux_lemma => kernel_rfl) (fun _ _ _ h => h) (Or.inl ⟨by as_aux_lemma => kernel_rfl, ?y21x89⟩) hHeld ?r21x89
          case y21x89 => (intro wS hSw; (go_simp))
          try simp only [Act.put, List.setIfInBounds_toArray, List.set_cons_zero, List.set_cons_succ]
          refine wpAnyG_take (i := 22) (v := .int .i64 j) rfl (by as_aux_lemma => kernel_rfl) (fun _ _ _ h => h) (Or.inl ⟨by as_aux_lemma => kernel_rfl, ?y22x90⟩) hHeld ?r22x90
          case y22x90 => (intro wS hSw; (go_simp; try rw [hij]; try rw [hwj]))
          try simp only [Act.put, List.setIfInBounds_toArray, List.set_cons_zero, List.set_cons_succ]
          refine wpAnyG_take (i := 23) (v := .pointer (some ⟨g, j * 3, none⟩)) rfl (by as_aux_lemma => kernel_rfl) (fun _ _ _ h => h) (Or.inl ⟨by as_aux_lemma => kernel_rfl, ?y23x91⟩) hHeld ?r23x91
          case y23x91 => (intro wS hSw; (go_simp; try simp [hjt]))
          try simp only [Act.put, List.setIfInBounds_toArray, List.set_cons_zero, List.set_cons_succ]
          refine wpAnyG_take (i := 24) (v := .pointer (some ⟨g, j * 3, none⟩)) rfl (by as_aux_lemma => kernel_rfl) (fun _ _ _ h => h) (Or.inl ⟨by as_aux_lemma => kernel_rfl, ?y24x92⟩) hHeld ?r24x92
          case y24x92 => (intro wS hSw; (go_simp))
          try simp only [Act.put, List.setIfInBounds_toArray, List.set_cons_zero, List.set_cons_succ]
          refine wpAnyG_take (i := 25) (v := .int .i64 xj) rfl (by as_aux_lemma => kernel_rfl) (fun _ _ _ h => h) (Or.inl ⟨by as_aux_lemma => kernel_rfl, ?y25x93⟩) hHeld ?r25x93
          case y25x93 => (intro wS hSw; (obtain ⟨s1, s2, s3, s4, s5, s6⟩ := hSw; go_simp))
          try simp only [Act.put, List.setIfInBounds_toArray, List.set_cons_zero, List.set_cons_succ]
          refine wpAnyG_take (i := 26) (v := .slice (some ⟨g, 0, none⟩) LN cp) rfl (by as_aux_lemma => kernel_rfl) (fun _ _ _ h => h) (Or.inl ⟨by as_aux_lemma => kernel_rfl, ?y26x94⟩) hHeld ?r26x94
          case y26x94 => (intro wS hSw; (go_simp))
          try simp only [Act.put, List.setIfInBounds_toArray, List.set_cons_zero, List.set_cons_succ]
          refine wpAnyG_take (i := 27) (v := .int .i64 i) rfl (by as_aux_lemma => kernel_rfl) (fun _ _ _ h => h) (Or.inl ⟨by as_aux_lemma => kernel_rfl, ?y27x95⟩) hHeld ?r27x95
          case y27x95 => (intro wS hSw; (go_simp))
          try simp only [Act.put, List.setIfInBounds_toArray, List.set_cons_zero, List.set_cons_succ]
          refine wpAnyG_take (i := 28) (v := .pointer (some ⟨g, i * 3, none⟩)) rfl (by as_aux_lemma => kernel_rfl) (fun _ _ _ h => h) (Or.inl ⟨by as_aux_lemma => kernel_rfl, ?y28x96⟩) hHeld ?r28x96
          case y28x96 => (intro wS hSw; (go_simp; try simp [hlt]))
          try simp only [Act.put, List.setIfInBounds_toArray, List.set_cons_zero, List.set_cons_succ]
          refine wpAnyG_take (i := 29) (v := .pointer (some ⟨g, i * 3, none⟩)) rfl (by as_aux_lemma => kernel_rfl) (fun _ _ _ h => h) (Or.inl ⟨by as_aux_lemma => kernel_rfl, ?y29x97⟩) hHeld ?r29x97
          case y29x97 => (intro wS hSw; (go_simp))
          try simp only [Act.put, List.setIfInBounds_toArray, List.set_cons_zero, List.set_cons_succ]
          refine wpAnyG_take (i := 30) (v := .int .i64 xi) rfl (by as_aux_lemma => kernel_rfl) (fun _ _ _ h => h) (Or.inl ⟨by as_aux_lemma => kernel_rfl, ?y30x98⟩) hHeld ?r30x98
          case y30x98 => (intro wS hSw; (obtain ⟨s1, s2, s3, s4, s5, s6⟩ := hSw; go_simp))
          try simp only [Act.put, List.setIfInBounds_toArray, List.set_cons_zero, List.set_cons_succ]
          refine wpAnyG_take (i := 31) (v := .bool false) rfl (by as_aux_lemma => kernel_rfl) (fun _ _ _ h => h) (Or.inl ⟨by as_aux_lemma => kernel_rfl, ?y31x99⟩) hHeld ?r31x99
          case y31x99 => (intro wS hSw; (go_simp; try simp only [hg1]))
          try simp only [Act.put, List.setIfInBounds_toArray, List.set_cons_zero, List.set_cons_succ]
          refine wpAnyG_take (i := 32) (v := .bool false) rfl (by as_aux_lemma => kernel_rfl) (fun _ _ _ h => h) (Or.inl ⟨by as_aux_lemma => kernel_rfl, ?y32x100⟩) hHeld ?r32x100
          case y32x100 => (intro wS hSw; (go_simp))
          try simp only [Act.put, List.setIfInBounds_toArray, List.set_cons_zero, List.set_cons_succ]
          refine wpAnyG_take (i := 33) (v := .slice (some ⟨g, 0, none⟩) LN cp) rfl (by as_aux_lemma => kernel_rfl) (fun _ _ _ h => h) (Or.inl ⟨by as_aux_lemma => kernel_rfl, ?y33x101⟩) hHeld ?r33x101
          case y33x101 => (intro wS hSw; (go_simp))
          try simp only [Act.put, List.setIfInBounds_toArray, List.set_cons_zero, List.set_cons_succ]
          refine wpAnyG_take (i := 34) (v := .int .i64 i) rfl (by as_aux_lemma => kernel_rfl) (fun _ _ _ h => h) (Or.inl ⟨by as_aux_lemma => kernel_rfl, ?y34x102⟩) hHeld ?r34x102
          case y34x102 => (intro wS hSw; (go_simp))
          try simp only [Act.put, List.setIfInBounds_toArray, List.set_cons_zero, List.set_cons_succ]
          refine wpAnyG_take (i := 35) (v := .int .i64 j) rfl (by as_aux_lemma => kernel_rfl) (fun _ _ _ h => h) (Or.inl ⟨by as_aux_lemma => kernel_rfl, ?y35x103⟩) hHeld ?r35x103
          case y35x103 => (intro wS hSw; (go_simp; try rw [hij]; try rw [hwj]))
          try simp only [Act.put, List.setIfInBounds_toArray, List.set_cons_zero, List.set_cons_succ]
          refine wpAnyG_take (i := 36) (v := .pointer (some ⟨g, j * 3, none⟩)) rfl (by as_aux_lemma => kernel_rfl) (fun _ _ _ h => h) (Or.inl ⟨by as_aux_lemma => kernel_rfl, ?y36x104⟩) hHeld ?r36x104
          case y36x104 => (intro wS hSw; (go_simp; try simp [hjt]))
          try simp only [Act.put, List.setIfInBounds_toArray, List.set_cons_zero, List.set_cons_succ]
          refine wpAnyG_take (i := 37) (v := .pointer (some ⟨g, j * 3, none⟩)) rfl (by as_aux_lemma => kernel_rfl) (fun _ _ _ h => h) (Or.inl ⟨by as_aux_lemma => kernel_rfl, ?y37x105⟩) hHeld ?r37x105
          case y37x105 => (intro wS hSw; (go_simp))
          try simp only [Act.put, List.setIfInBounds_toArray, List.set_cons_zero, List.set_cons_succ]
          refine wpAnyG_take (i := 38) (v := .int .i64 xj) rfl (by as_aux_lemma => kernel_rfl) (fun _ _ _ h => h) (Or.inl ⟨by as_aux_lemma => kernel_rfl, ?y38x106⟩) hHeld ?r38x106
          case y38x106 => (intro wS hSw; (obtain ⟨s1, s2, s3, s4, s5, s6⟩ := hSw; go_simp))
          try simp only [Act.put, List.setIfInBounds_toArray, List.set_cons_zero, List.set_cons_succ]
          refine wpAnyG_take (i := 39) (v := .slice (some ⟨g, 0, none⟩) LN cp) rfl (by as_aux_lemma => kernel_rfl) (fun _ _ _ h => h) (Or.inl ⟨by as_aux_lemma => kernel_rfl, ?y39x107⟩) hHeld ?r39x107
          case y39x107 => (intro wS hSw; (go_simp))
          try simp only [Act.put, List.setIfInBounds_toArray, List.set_cons_zero, List.set_cons_succ]
          refine wpAnyG_take (i := 40) (v := .int .i64 i) rfl (by as_aux_lemma => kernel_rfl) (fun _ _ _ h => h) (Or.inl ⟨by as_aux_lemma => kernel_rfl, ?y40x108⟩) hHeld ?r40x108
          case y40x108 => (intro wS hSw; (go_simp))
          try simp only [Act.put, List.setIfInBounds_toArray, List.set_cons_zero, List.set_cons_succ]
          refine wpAnyG_take (i := 41) (v := .pointer (some ⟨g, i * 3, none⟩)) rfl (by as_aux_lemma => kernel_rfl) (fun _ _ _ h => h) (Or.inl ⟨by as_aux_lemma => kernel_rfl, ?y41x109⟩) hHeld ?r41x109
          case y41x109 => (intro wS hSw; (go_simp; try simp [hlt]))
          try simp only [Act.put, List.setIfInBounds_toArray, List.set_cons_zero, List.set_cons_succ]
          refine wpAnyG_take (i := 42) (v := .pointer (some ⟨g, i * 3, none⟩)) rfl (by as_aux_lemma => kernel_rfl) (fun _ _ _ h => h) (Or.inl ⟨by as_aux_lemma => kernel_rfl, ?y42x110⟩) hHeld ?r42x110
          case y42x110 => (intro wS hSw; (go_simp))
          try simp only [Act.put, List.setIfInBounds_toArray, List.set_cons_zero, List.set_cons_succ]
          refine wpAnyG_take (i := 43) (v := .int .i64 xi) rfl (by as_aux_lemma => kernel_rfl) (fun _ _ _ h => h) (Or.inl ⟨by as_aux_lemma => kernel_rfl, ?y43x111⟩) hHeld ?r43x111
          case y43x111 => (intro wS hSw; (obtain ⟨s1, s2, s3, s4, s5, s6⟩ := hSw; go_simp))
          try simp only [Act.put, List.setIfInBounds_toArray, List.set_cons_zero, List.set_cons_succ]
          refine wpAnyG_take (i := 44) (v := .bool true) rfl (by as_aux_lemma => kernel_rfl) (fun _ _ _ h => h) (Or.inl ⟨by as_aux_lemma => kernel_rfl, ?y44x112⟩) hHeld ?r44x112
          case y44x112 => (intro wS hSw; (go_simp; try simp only [hg2]))
          try simp only [Act.put, List.setIfInBounds_toArray, List.set_cons_zero, List.set_cons_succ]
          refine wpAnyG_take (i := 45) (v := .bool true) rfl (by as_aux_lemma => kernel_rfl) (fun _ _ _ h => h) (Or.inl ⟨by as_aux_lemma => kernel_rfl, ?y45x113⟩) hHeld ?r45x113
          case y45x113 => (intro wS hSw; (go_simp))
          try simp only [Act.put, List.setIfInBounds_toArray, List.set_cons_zero, List.set_cons_succ]
          refine wpAnyG_take (i := 46) (v := .slice (some ⟨g, 0, none⟩) LN cp) rfl (by as_aux_lemma => kernel_rfl) (fun _ _ _ h => h) (Or.inl ⟨by as_aux_lemma => kernel_rfl, ?y46x114⟩) hHeld ?r46x114
          case y46x114 => (intro wS hSw; (go_simp))
          try simp only [Act.put, List.setIfInBounds_toArray, List.set_cons_zero, List.set_cons_succ]
          refine wpAnyG_take (i := 47) (v := .int .i64 i) rfl (by as_aux_lemma => kernel_rfl) (fun _ _ _ h => h) (Or.inl ⟨by as_aux_lemma => kernel_rfl, ?y47x115⟩) hHeld ?r47x115
          case y47x115 => (intro wS hSw; (go_simp))
          try simp only [Act.put, List.setIfInBounds_toArray, List.set_cons_zero, List.set_cons_succ]
          refine wpAnyG_take (i := 48) (v := .int .i64 j) rfl (by as_aux_lemma => kernel_rfl) (fun _ _ _ h => h) (Or.inl ⟨by as_aux_lemma => kernel_rfl, ?y48x116⟩) hHeld ?r48x116
          case y48x116 => (intro wS hSw; (go_simp; try rw [hij]; try rw [hwj]))
          try simp only [Act.put, List.setIfInBounds_toArray, List.set_cons_zero, List.set_cons_succ]
          refine wpAnyG_take (i := 49) (v := .pointer (some ⟨g, j * 3, none⟩)) rfl (by as_aux_lemma => kernel_rfl) (fun _ _ _ h => h) (Or.inl ⟨by as_aux_lemma => kernel_rfl, ?y49x117⟩) hHeld ?r49x117
          case y49x117 => (intro wS hSw; (go_simp; try simp [hjt]))
          try simp only [Act.put, List.setIfInBounds_toArray, List.set_cons_zero, List.set_cons_succ]
          refine wpAnyG_take (i := 50) (v := .pointer (some ⟨g, j * 3 + 1, none⟩)) rfl (by as_aux_lemma => kernel_rfl) (fun _ _ _ h => h) (Or.inl ⟨by as_aux_lemma => kernel_rfl, ?y50x118⟩) hHeld ?r50x118
          case y50x118 => (intro wS hSw; (go_simp))
          try simp only [Act.put, List.setIfInBounds_toArray, List.set_cons_zero, List.set_cons_succ]
          refine wpAnyG_take (i := 51) (v := .int .i64 yj) rfl (by as_aux_lemma => kernel_rfl) (fun _ _ _ h => h) (Or.inl ⟨by as_aux_lemma => kernel_rfl, ?y51x119⟩) hHeld ?r51x119
          case y51x119 => (intro wS hSw; (obtain ⟨s1, s2, s3, s4, s5, s6⟩ := hSw; go_simp))
          try simp only [Act.put, List.setIfInBounds_toArray, List.set_cons_zero, List.set_cons_succ]
          refine wpAnyG_take (i := 52) (v := .slice (some ⟨g, 0, none⟩) LN cp) rfl (by as_aux_lemma => kernel_rfl) (fun _ _ _ h => h) (Or.inl ⟨by as_aux_lemma => kernel_rfl, ?y52x120⟩) hHeld ?r52x120
          case y52x120 => (intro wS hSw; (go_simp))
          try simp only [Act.put, List.setIfInBounds_toArray, List.set_cons_zero, List.set_cons_succ]
          refine wpAnyG_take (i := 53) (v := .int .i64 i) rfl (by as_aux_lemma => kernel_rfl) (fun _ _ _ h => h) (Or.inl ⟨by as_aux_lemma => kernel_rfl, ?y53x121⟩) hHeld ?r53x121
          case y53x121 => (intro wS hSw; (go_simp))
          try simp only [Act.put, List.setIfInBounds_toArray, List.set_cons_zero, List.set_cons_succ]
          refine wpAnyG_take (i := 54) (v := .pointer (some ⟨g, i * 3, none⟩)) rfl (by as_aux_lemma => kernel_rfl) (fun _ _ _ h => h) (Or.inl ⟨by as_aux_lemma => kernel_rfl, ?y54x122⟩) hHeld ?r54x122
          case y54x122 => (intro wS hSw; (go_simp; try simp [hlt]))
          try simp only [Act.put, List.setIfInBounds_toArray, List.set_cons_zero, List.set_cons_succ]
          refine wpAnyG_take (i := 55) (v := .pointer (some ⟨g, i * 3 + 1, none⟩)) rfl (by as_aux_lemma => kernel_rfl) (fun _ _ _ h => h) (Or.inl ⟨by as_aux_lemma => kernel_rfl, ?y55x123⟩) hHeld ?r55x123
          case y55x123 => (intro wS hSw; (go_simp))
          try simp only [Act.put, List.setIfInBounds_toArray, List.set_cons_zero, List.set_cons_succ]
          refine wpAnyG_take (i := 56) (v := .int .i64 yi) rfl (by as_aux_lemma => kernel_rfl) (fun _ _ _ h => h) (Or.inl ⟨by as_aux_lemma => kernel_rfl, ?y56x124⟩) hHeld ?r56x124
          case y56x124 => (intro wS hSw; (obtain ⟨s1, s2, s3, s4, s5, s6⟩ := hSw; go_simp))
          try simp only [Act.put, List.setIfInBounds_toArray, List.set_cons_zero, List.set_cons_succ]
          refine wpAnyG_take (i := 57) (v := .bool false) rfl (by as_aux_lemma => kernel_rfl) (fun _ _ _ h => h) (Or.inl ⟨by as_aux_lemma => kernel_rfl, ?y57x125⟩) hHeld ?r57x125
          case y57x125 => (intro wS hSw; (go_simp; try simp only [hg3]))
          try simp only [Act.put, List.setIfInBounds_toArray, List.set_cons_zero, List.set_cons_succ]
          refine wpAnyG_take (i := 58) (v := .bool false) rfl (by as_aux_lemma => kernel_rfl) (fun _ _ _ h => h) (Or.inl ⟨by as_aux_lemma => kernel_rfl, ?y58x126⟩) hHeld ?r58x126
          case y58x126 => (intro wS hSw; (go_simp))
          try simp only [Act.put, List.setIfInBounds_toArray, List.set_cons_zero, List.set_cons_succ]
          refine wpAnyG_take (i := 59) (v := .bool false) rfl (by as_aux_lemma => kernel_rfl) (fun _ _ _ h => h) (Or.inl ⟨by as_aux_lemma => kernel_rfl, ?y59x127⟩) hHeld ?r59x127
          case y59x127 => (intro wS hSw; (go_simp))
          try simp only [Act.put, List.setIfInBounds_toArray, List.set_cons_zero, List.set_cons_succ]
          refine wpAnyG_take (i := 60) (v := .bool false) rfl (by as_aux_lemma => kernel_rfl) (fun _ _ _ h => h) (Or.inl ⟨by as_aux_lemma => kernel_rfl, ?y60x128⟩) hHeld ?r60x128
          case y60x128 => (intro wS hSw; (go_simp))
          try simp only [Act.put, List.setIfInBounds_toArray, List.set_cons_zero, List.set_cons_succ]
          refine wpAnyG_last (i := 61) rfl (by as_aux_lemma => kernel_rfl) (by as_aux_lemma => kernel_rfl) (fun K hK => ?_)
          go_simp
          refine hK.out _ _ ?_
          clear hK K
          try simp only [Act.put, List.setIfInBounds_toArray, List.set_cons_zero, List.set_cons_succ]
          refine wpAnyG_done (by as_aux_lemma => kernel_rfl) ?_ _
          clear hHeld
          clear hG5
          go_wp2
          go_roundw
          case rel => exact ⟨i + 1, by omega, by omega, by go_num, HB5.out⟩
          case measure => simp [intOf]; omega
    · obtain rfl : LN = i := by omega
      have HK2 : Hid (Below w.heap.size w wr) := HKW.out.trans (HB.out.mono HKW.out.size)
      have hd4 : decide (4 * (P : Int) < D) = false := decide_eq_false (by omega)
      clear HB HCell HOnL HLs HGL HKW
      go_wp2
      go_loopw [13, 14] (fun mv xv wx => ∃ x : Nat, x ≤ P ∧ mv = .int .i64 (manyx P A B x) ∧ xv = .int .i64 x ∧ Hid (Below w.heap.size w wx)) (fun _ xv _ => P - (intOf xv).toNat)
      case atStart => exact ⟨0, by omega, rfl, rfl, HK2.out⟩
      case round =>
        obtain ⟨x, hx, rfl, rfl, HB⟩ := hrel
        clear HK2
        by_cases hxl : x < P
        · obtain ⟨x2, hx2⟩ : ∃ t, x * x = t := ⟨_, rfl⟩
          have b2 : x2 ≤ 4000000 := by rw [← hx2]; exact Nat.mul_le_mul (show x ≤ 2000 by omega) (show x ≤ 2000 by omega)
          have i2 : (x : Int) * (x : Int) = (x2 : Int) := by rw [← hx2, Int.natCast_mul]
          obtain ⟨x3, hx3⟩ : ∃ t, x2 * x = t := ⟨_, rfl⟩
          have b3 : x3 ≤ 8000000000 := by rw [← hx3]; exact Nat.mul_le_mul b2 (show x ≤ 2000 by omega)
          have i3 : (x2 : Int) * (x : Int) = (x3 : Int) := by rw [← hx3, Int.natCast_mul]
          obtain ⟨ax, hax⟩ : ∃ t, A * x = t := ⟨_, rfl⟩
          have b4 : ax ≤ 4000000 := by rw [← hax]; exact Nat.mul_le_mul (show A ≤ 2000 by omega) (show x ≤ 2000 by omega)
          have i4 : (A : Int) * (x : Int) = (ax : Int) := by rw [← hax, Int.natCast_mul]
          obtain ⟨c, hce⟩ : ∃ c, x3 + ax + B = c := ⟨_, rfl⟩
          have i5 : (x3 : Int) + (ax : Int) + (B : Int) = (c : Int) := by omega
          have HL1 := HLg.out c
          have hr2 := HRt.out (c % P) (Nat.mod_lt _ (by omega))
          obtain ⟨r, hr⟩ : ∃ r, HS.rt P (c % P) = r := ⟨_, rfl⟩
          rw [hr] at HL1 hr2
          have HLw : Hid (∀ w, Calls Tryd.prog 12 #[.int .i64 c, .int .i64 P] w fun e w' => e = .returned (.int .i64 ((r : Int) - 1)) ∧ Below w.heap.size w w') := fun w => HL1 w (by omega)
          have HMs : Hid (manyx P A B (x + 1) = manyx P A B x + r) := by
            show 1 + HS.sg _ (x + 1) = 1 + HS.sg _ x + r
            rw [HS.sg, ← hr, ← hce, ← hx3, ← hx2, ← hax]
            omega
          have hmb : manyx P A B x ≤ 1 + 2 * x := many_le HRt.out (by omega) x
          obtain ⟨m, hm⟩ : ∃ m, manyx P A B x = m := ⟨_, rfl⟩
          rw [hm] at HMs hmb ⊢
          obtain ⟨s, hs⟩ : ∃ s : Int, (r : Int) - 1 = s := ⟨_, rfl⟩
          rw [hs] at HLw
          have hsb : -1 ≤ s ∧ s ≤ 1 := by omega
          have hfin : (m : Int) + 1 + s = ((m + r : Nat) : Int) := by omega
          clear hx2 hx3 hax hce HL1 hr hm hs
          go_wp2_with fail
          refine (HLw.out _).mono ?_
          rintro e w7 ⟨rfl, k7⟩
          have HB7 : Hid (Below w.heap.size w w7) := HB.out.trans (k7.mono HB.out.size)
          clear k7 HB
          go_wp2
          go_roundw
          case rel => exact ⟨x + 1, by omega, by rw [HMs.out, Int.natCast_add], by go_num, HB7.out⟩
          case measure => simp [intOf]; omega
        · obtain rfl : P = x := by omega
          rw [← HLen1.out]
          by_cases hp60 : 60 < P
          · have t1 : decide (60 < (P : Int)) = true := decide_eq_true (by omega)
            have t2 : decide (60 < P) = true := decide_eq_true hp60
            go_wp2
            go_ret
            exact ⟨rfl, HB.out⟩
          · have t1 : decide (60 < (P : Int)) = false := decide_eq_false (by omega)
            have t2 : decide (60 < P) = false := decide_eq_false hp60
            go_wp2_with fail
            refine (HRp.out _).mono ?_
            rintro e w8 ⟨ba, bc, rfl, k8⟩
            have HB8 : Hid (Below w.heap.size w w8) := HB.out.trans (k8.mono HB.out.size)
            clear k8 HB
            go_wp2
            go_ret
            exact ⟨rfl, HB8.out⟩

theorem curve_points (p a b : Int) (w : World) (hT : Tb w) :
    Calls Tryd.prog 3 #[.int .i64 p, .int .i64 a, .int .i64 b] w fun e w' => e = .returned (.bool true) ∧ Below w.heap.size w w' := by
  obtain ⟨c, d, h⟩ := cf_ex p a b
  rcases h.good with ⟨_, _, P, rfl, hv⟩ | ⟨hc, _⟩
  · obtain ⟨A, rfl⟩ : ∃ A : Nat, a = A := ⟨a.toNat, by have := hv.a0; omega⟩
    obtain ⟨B, rfl⟩ : ∃ B : Nat, b = B := ⟨b.toNat, by have := hv.b0; omega⟩
    obtain ⟨g, hg, _⟩ := HS.table hv.pr hv.p5 hv.p2
    exact lpoints_ok P A B g w hv hg hT
  · exact lpoints_bad p a b c d w h hc hT

end Go.Proofs.YtbeceimopamllaaDoor
