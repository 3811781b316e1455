import Derived.Test.YtfbgblidlabipaaGreatDoorUtA
section
/- The program: cont.Unit, where the list ends (the root of d). Written by mkuta.py. -/
set_option linter.unusedSimpArgs false
set_option linter.unusedVariables false
set_option maxRecDepth 100000
namespace Go.Proofs.YtfbgblidlabipaaGreatDoor
open Go.RowKit LgM CfM UtM

set_option maxHeartbeats 8000000 in
theorem Unit_g0 (n r P Q X Y N : Nat) (w : World) (hT : Tq w) (hB : Tb w) (hn : n ≤ 1000000) (hs : ¬ SqF n) (h4 : n % 4 ≠ 1) (hK : Kd n r 0 1 P Q X Y) (hN : Ue n r P Q 1 N) :
    Calls Tryz.prog 15 #[.int .i64 (n : Int)] w fun e w' => e = unG n r P Q X Y N ∧ Below w.heap.size w w' := by
  have HRo : Hid (∀ w, Calls Tryz.prog 69 #[.int .i64 (n : Int)] w fun e w' => e = .returned (.tuple #[.agg #[.int .i64 (n : Int), .int .i64 (r : Int), .int .i64 0, .int .i64 1], .agg #[.int .i64 0, .int .i64 0]]) ∧ Below w.heap.size w w') := root_ok hK.rn hn
  have HN : Hid (1 ≤ n ∧ n ≤ 1000000) := ⟨by have := hK.rn.lo; omega, hn⟩
  have HS : Hid (¬ SqF n) := hs
  have HK : Hid (Kd n r 0 1 P Q X Y) := hK
  have hm4 : ((n : Int) % 4 == 1) = false := beq_eq_false_iff_ne.2 (by omega)
  have HCy : Hid (∀ w, Calls Tryz.prog 71 #[.agg #[.int .i64 (n : Int), .int .i64 (r : Int), .int .i64 0, .int .i64 1]] w (CyPost r (ts n r P Q) N w)) := fun w => cycle_any n r 0 1 N (ts n r P Q) (ts_sq hK hn) true hN.1 (by have := hN.2.1; omega) (fun _ => hN.2.2.1) hN.2.2.2 (fun h => by cases h) (fun h => by cases h) w
  have hN1 := hN.1
  have hN2 := hN.2.1
  unfold unG
  obtain ⟨UX, hUX⟩ : ∃ u, u = (tf n r P Q X Y (N - 1)).2.1 := ⟨_, rfl⟩
  obtain ⟨UY, hUY⟩ : ∃ u, u = (tf n r P Q X Y (N - 1)).2.2 := ⟨_, rfl⟩
  rw [← hUX, ← hUY]
  have HU : Hid (UX = (tf n r P Q X Y (N - 1)).2.1 ∧ UY = (tf n r P Q X Y (N - 1)).2.2) := ⟨hUX, hUY⟩
  clear hN hK hs hUX hUY
  clear hn
  have HT : Hid (Tq w ∧ Tb w) := ⟨hT, hB⟩
  clear hT hB
  have HF0 : Hid (Cl w.heap.size [.int .i64 0, .int .i64 0] 25 (w.alloc (.cells #[.int .i64 0, .int .i64 0] 25))) := Cl.new [.int .i64 0, .int .i64 0] _ w
  go_enter Tryz.func15, Tryz.ntmps15
  go_wp2_with fail
  refine (HRo.out _).mono ?_
  rintro e w1 ⟨rfl, k1⟩
  have F1 := HF0.out.below k1
  have K1 : Below w.heap.size w w1 := ((Below.refl _ w).alloc (Nat.le_refl _) _).trans (k1.mono (by simp))
  have e0 : ∀ x : Obj, (w1.alloc x).cell? ⟨w.heap.size, 0, none⟩ = some (.int .i64 0) := fun x => (F1.alloc x).cell 0
  have e1 : ∀ x : Obj, (w1.alloc x).cell? ⟨w.heap.size, 1, none⟩ = some (.int .i64 0) := fun x => (F1.alloc x).cell 1
  have g0 : ∀ x : Obj, (w1.alloc x).frozen? ⟨w.heap.size, 0, none⟩ = false := fun x => (F1.alloc x).frozen 0
  have g1 : ∀ x : Obj, (w1.alloc x).frozen? ⟨w.heap.size, 1, none⟩ = false := fun x => (F1.alloc x).frozen 1
  have M0 : Pm w.heap.size w1.heap.size n r 0 1 0 0 w (((w1.alloc (.cells #[.int .i64 (n : Int), .int .i64 (r : Int), .int .i64 0, .int .i64 1] 110)).setCell ⟨w.heap.size, 0, none⟩ (.int .i64 0)).setCell ⟨w.heap.size, 1, none⟩ (.int .i64 0)) := pm_root F1 K1 n r 0 1 0 0
  have hne1 : w1.heap.size ≠ w.heap.size := by have := M0.h5; omega
  have hne2 : w.heap.size ≠ w1.heap.size := by have := M0.h5; omega
  clear F1 K1 k1 HRo HF0
  go_wp2_with fail
  generalize hW2 : (((w1.alloc (.cells #[.int .i64 (n : Int), .int .i64 (r : Int), .int .i64 0, .int .i64 1] 110)).setCell ⟨w.heap.size, 0, none⟩ (.int .i64 0)).setCell ⟨w.heap.size, 1, none⟩ (.int .i64 0)) = W2 at M0 ⊢
  clear hW2 e0 e1 g0 g1
  refine (Moebius_any n HN.out.1 HN.out.2 W2 (HT.out.2.below M0.k)).mono ?_
  rintro e w3 ⟨z, rfl, hz, k3⟩
  have hz0 : (z == 0) = false := beq_eq_false_iff_ne.2 (fun e => HS.out (hz.1 e))
  clear hz
  have M3 := M0.below k3
  have ka := ((Below.refl w3.heap.size w3).alloc (Nat.le_refl _) (.cells #[.int .i64 0, .int .i64 0] 25))
  have M4 := M3.below ka
  have s2 : ∀ x : Obj, (w3.alloc x).cell? ⟨w1.heap.size, 2, none⟩ = some (.int .i64 0) := fun x => (M3.s.alloc x).cell 2
  have s3 : ∀ x : Obj, (w3.alloc x).cell? ⟨w1.heap.size, 3, none⟩ = some (.int .i64 1) := fun x => (M3.s.alloc x).cell 3
  have s0 : ∀ x : Obj, (w3.alloc x).cell? ⟨w1.heap.size, 0, none⟩ = some (.int .i64 (n : Int)) := fun x => (M3.s.alloc x).cell 0
  have s1 : ∀ x : Obj, (w3.alloc x).cell? ⟨w1.heap.size, 1, none⟩ = some (.int .i64 (r : Int)) := fun x => (M3.s.alloc x).cell 1
  have HM5 : Hid (Pm w.heap.size w1.heap.size n r 0 1 0 0 w (w3.alloc (.cells #[.int .i64 0, .int .i64 0] 25))) := M4
  clear M0 M3 M4 ka k3
  go_wp2_with fail
  generalize hW5 : (w3.alloc (.cells #[.int .i64 0, .int .i64 0] 25)) = W5 at HM5 ⊢
  clear hW5 s0 s1 s2 s3
  refine (HCy.out W5).mono ?_
  rintro e w6 ⟨k6, ⟨_, a, c, rfl, hrow⟩ | ⟨h, _⟩⟩
  · have M6 := HM5.out.below k6
    have f0 := M6.f.cell 0
    have f1 := M6.f.cell 1
    have f2 := M6.f.frozen 0
    have f3 := M6.f.frozen 1
    simp at f0 f1
    have u0 : w6.cell? ⟨w1.heap.size, 0, none⟩ = some (.int .i64 (n : Int)) := M6.s.cell 0
    have u1 : w6.cell? ⟨w1.heap.size, 1, none⟩ = some (.int .i64 (r : Int)) := M6.s.cell 1
    have u2 : w6.cell? ⟨w1.heap.size, 2, none⟩ = some (.int .i64 0) := M6.s.cell 2
    have u3 : w6.cell? ⟨w1.heap.size, 3, none⟩ = some (.int .i64 1) := M6.s.cell 3
    have M7 : Pm w.heap.size w1.heap.size n r 0 1 0 0 w ((w6.setCell ⟨w.heap.size, 0, none⟩ (.int .i64 0)).setCell ⟨w.heap.size, 1, none⟩ (.int .i64 0)) :=
      ⟨(M6.f.set 0 _).set 1 _, (M6.s.other (by simp; omega) _).other (by simp; omega) _, (M6.k.setCell (Nat.le_refl _) _).setCell (Nat.le_refl _) _, M6.h5⟩
    have hl : w.heap.size < W5.heap.size := HM5.out.f.lt
    have hcap := ownsRow_cap hrow
    have his : IS ((w6.setCell ⟨w.heap.size, 0, none⟩ (.int .i64 0)).setCell ⟨w.heap.size, 1, none⟩ (.int .i64 0)) (.slice a N c) (nz (kl r (ts n r P Q) N)) := by
      exact IS.ownL (by rw [nz_len, kl_len]) (ownsRow_setCell_below (ownsRow_setCell_below hrow (show w.heap.size < _ from hl) (.int .i64 0) (a := ⟨w.heap.size, 0, none⟩)) (show w.heap.size < _ from hl) (.int .i64 0) (a := ⟨w.heap.size, 1, none⟩))
    have HM7 : Hid (Pm w.heap.size w1.heap.size n r 0 1 0 0 w ((w6.setCell ⟨w.heap.size, 0, none⟩ (.int .i64 0)).setCell ⟨w.heap.size, 1, none⟩ (.int .i64 0))) := M7
    have HI7 : Hid (IS ((w6.setCell ⟨w.heap.size, 0, none⟩ (.int .i64 0)).setCell ⟨w.heap.size, 1, none⟩ (.int .i64 0)) (.slice a N c) (nz (kl r (ts n r P Q) N))) := his
    have HCap : Hid (N ≤ c) := hcap
    clear M6 M7 his hrow k6 HCy hcap hl
    go_wp2_with fail
    generalize hW7 : ((w6.setCell ⟨w.heap.size, 0, none⟩ (.int .i64 0)).setCell ⟨w.heap.size, 1, none⟩ (.int .i64 0)) = W7 at HM7 HI7 ⊢
    clear hW7 u0 u1 u2 u3 f0 f1 f2 f3
    have HCl : Hid (Calls Tryz.prog 72 #[.agg #[.int .i64 (n : Int), .int .i64 (r : Int), .int .i64 0, .int .i64 1], .int .i64 2, .slice a N c] W7 fun e w' => ∃ a b, e = .returned (.agg #[a, b]) ∧ LN w' a UX ∧ LN w' b UY ∧ Below W7.heap.size W7 w') := by
      show Calls _ _ _ _ _
      rw [HU.out.1, HU.out.2]
      have := climb_any n r 0 1 P Q 2 (kl r (ts n r P Q) N) (.slice a N c) W7 (fun a' k' c' h => by have := HCap.out; simp only [Value.slice.injEq] at h; omega) (ts_sq HK.out HN.out.2).first (by omega) (by omega) HI7.out (by rw [kl_len]; omega) (by rw [kl_len]; omega) (fun i => by have := klt_small HK.out HN.out.2 N i; omega)
      rw [(kd_start HK.out).1, (kd_start HK.out).2, kl_len, cb_tf (m := N) (fun i hi => klt_get r (ts n r P Q) N i hi) (N - 1) (by omega)] at this
      exact this
    refine HCl.out.mono ?_
    rintro e w8 ⟨vx, vy, rfl, lx, ly, k8⟩
    obtain ⟨ax, nx, cx, rfl⟩ := lx.slice
    obtain ⟨ay, ny, cy, rfl⟩ := ly.slice
    have M8 := HM7.out.below k8
    have ka := ((Below.refl w8.heap.size w8).alloc (Nat.le_refl _) (.cells #[.slice ax nx cx, .slice ay ny cy] 120))
    have C5 := Cl.new [.slice ax nx cx, .slice ay ny cy] 120 w8
    have M9 := M8.below ka
    have lx := lx.below ka
    have ly := ly.below ka
    clear k8 M8 HCl
    go_wp2
    generalize hW6 : w8.alloc (.cells #[.slice ax nx cx, .slice ay ny cy] 120) = W9 at C5 M9 lx ly ka ⊢
    generalize hB6 : w8.heap.size = B6 at C5 ⊢
    clear hW6 hB6 ka
    have y0 := C5.cell 0
    have y1 := C5.cell 1
    simp at y0 y1
    have HTX : Hid (Tq W9) := HT.out.1.below M9.k
    have hbd := tf_lt HK.out (by have := rn_small HK.out.rn HN.out.2; omega) (N - 1)
    rw [← HU.out.1, ← HU.out.2] at hbd
    refine wp_region_G (fun w' => w'.cell? ⟨B6, 0, none⟩ = some (.slice ax nx cx) ∧ w'.cell? ⟨B6, 1, none⟩ = some (.slice ay ny cy)) 12 (by kernel_rfl) ⟨y0, y1⟩ (fun hHeld => ?_)
    refine wpAnyG_take (i := 0) (v := ?v0x1) rfl (by kernel_rfl) (fun _ _ _ h => h) (Or.inl ⟨by rfl, ?y0x1⟩) hHeld ?r0x1
    case y0x1 => (intro wS hSw; obtain ⟨t1, t2⟩ := hSw; go_simp; try with_reducible rfl)
    try simp only [Act.put, List.setIfInBounds_toArray, List.set_cons_zero, List.set_cons_succ]
    refine wpAnyG_take (i := 1) (v := ?v1x2) rfl (by kernel_rfl) (fun _ _ _ h => h) (Or.inl ⟨by rfl, ?y1x2⟩) hHeld ?r1x2
    case y1x2 => (intro wS hSw; obtain ⟨t1, t2⟩ := hSw; go_simp; try with_reducible rfl)
    try simp only [Act.put, List.setIfInBounds_toArray, List.set_cons_zero, List.set_cons_succ]
    refine wpAnyG_take (i := 3) (v := ?v3x3) rfl (by kernel_rfl) (fun _ _ _ h => h) (Or.inl ⟨by rfl, ?y3x3⟩) hHeld ?r3x3
    case y3x3 => (intro wS hSw; obtain ⟨t1, t2⟩ := hSw; go_simp; try with_reducible rfl)
    try simp only [Act.put, List.setIfInBounds_toArray, List.set_cons_zero, List.set_cons_succ]
    refine wpAnyG_take (i := 4) (v := ?v4x4) rfl (by kernel_rfl) (fun _ _ _ h => h) (Or.inl ⟨by rfl, ?y4x4⟩) hHeld ?r4x4
    case y4x4 => (intro wS hSw; obtain ⟨t1, t2⟩ := hSw; go_simp; try with_reducible rfl)
    try simp only [Act.put, List.setIfInBounds_toArray, List.set_cons_zero, List.set_cons_succ]
    refine wpAnyG_take (i := 6) (v := ?v6x5) rfl (by kernel_rfl) (fun _ _ _ h => h) (Or.inl ⟨by rfl, ?y6x5⟩) hHeld ?r6x5
    case y6x5 => (intro wS hSw; obtain ⟨t1, t2⟩ := hSw; go_simp; try with_reducible rfl)
    try simp only [Act.put, List.setIfInBounds_toArray, List.set_cons_zero, List.set_cons_succ]
    refine wpAnyG_take (i := 8) (v := ?v8x6) rfl (by kernel_rfl) (fun _ _ _ h => h) (Or.inl ⟨by rfl, ?y8x6⟩) hHeld ?r8x6
    case y8x6 => (intro wS hSw; obtain ⟨t1, t2⟩ := hSw; go_simp; try with_reducible rfl)
    try simp only [Act.put, List.setIfInBounds_toArray, List.set_cons_zero, List.set_cons_succ]
    refine wpAnyG_one (i := 2) rfl (by kernel_rfl) (fun K hK => ?_)
    go_simp
    have kd : Below W9.heap.size W9 W9.drew := (Below.refl _ _).drew
    refine (String_any _ UX (N - 1 + 1) _ (lx.below kd) hbd.2.2.1 (by omega) (by omega) (HTX.out.below kd)).mono ?_
    rintro e wa ⟨rfl, k7⟩
    have k67 : Below W9.heap.size W9 wa := kd.trans k7
    have C7 := C5.below k67
    have y2 := C7.cell 0
    have y3 := C7.cell 1
    simp at y2 y3
    refine hK.out _ _ ⟨y2, y3⟩ ?_
    clear hK K
    try simp only [Act.put, List.setIfInBounds_toArray, List.set_cons_zero, List.set_cons_succ]
    clear hHeld
    have hHeld : wa.cell? ⟨B6, 0, none⟩ = some (.slice ax nx cx) ∧ wa.cell? ⟨B6, 1, none⟩ = some (.slice ay ny cy) := ⟨y2, y3⟩
    refine wpAnyG_one (i := 5) rfl (by kernel_rfl) (fun K hK => ?_)
    go_simp
    refine (String_any _ UY (N - 1 + 1) _ (ly.below k67) hbd.2.2.2 (by omega) (by omega) (HTX.out.below k67)).mono ?_
    rintro e wb ⟨rfl, k8⟩
    have k68 : Below W9.heap.size W9 wb := k67.trans (k8.mono k67.size)
    have C8 := C5.below k68
    have M8 := M9.below k68
    have y4 := C8.cell 0
    have y5 := C8.cell 1
    simp at y4 y5
    refine hK.out _ _ ⟨y4, y5⟩ ?_
    clear hK K
    try simp only [Act.put, List.setIfInBounds_toArray, List.set_cons_zero, List.set_cons_succ]
    clear hHeld
    have hHeld : wb.cell? ⟨B6, 0, none⟩ = some (.slice ax nx cx) ∧ wb.cell? ⟨B6, 1, none⟩ = some (.slice ay ny cy) := ⟨y4, y5⟩
    refine wpAnyG_one (i := 7) rfl (by kernel_rfl) (fun K hK => ?_)
    go_simp
    refine (normAfter_any a N c wb (by omega)).mono ?_
    rintro e wc ⟨rfl, hwc⟩
    rw [hwc]
    clear hwc wc
    refine hK.out _ _ hHeld ?_
    clear hK K
    try simp only [Act.put, List.setIfInBounds_toArray, List.set_cons_zero, List.set_cons_succ]
    have f0 := M8.f.cell 0
    have f1 := M8.f.cell 1
    have f2 := M8.f.frozen 0
    have f3 := M8.f.frozen 1
    simp at f0 f1
    refine wpAnyG_one (i := 9) rfl (by kernel_rfl) (fun K hK => ?_)
    go_simp
    refine hK.out _ _ hHeld ?_
    clear hK K
    try simp only [Act.put, List.setIfInBounds_toArray, List.set_cons_zero, List.set_cons_succ]
    refine wpAnyG_one (i := 10) rfl (by kernel_rfl) (fun K hK => ?_)
    go_simp
    refine hK.out _ _ hHeld ?_
    clear hK K
    try simp only [Act.put, List.setIfInBounds_toArray, List.set_cons_zero, List.set_cons_succ]
    refine wpAnyG_one (i := 11) rfl (by kernel_rfl) (fun K hK => ?_)
    go_simp
    refine hK.out _ _ hHeld ?_
    clear hK K
    try simp only [Act.put, List.setIfInBounds_toArray, List.set_cons_zero, List.set_cons_succ]
    refine wpAnyG_last (i := 12) rfl (by kernel_rfl) (by kernel_rfl) (fun K hK => ?_)
    go_simp
    refine hK.out _ _ ?_
    clear hK K
    try simp only [Act.put, List.setIfInBounds_toArray, List.set_cons_zero, List.set_cons_succ]
    refine wpAnyG_done (by kernel_rfl) ?_ _
    have Z := (M8.f.set 0 (.int .i64 0)).set 1 (.int .i64 0)
    have KF := (M8.k.setCell (p := ⟨w.heap.size, 0, none⟩) (Nat.le_refl _) (.int .i64 0)).setCell (p := ⟨w.heap.size, 1, none⟩) (Nat.le_refl _) (.int .i64 0)
    have z0 := Z.cell 0
    have z1 := Z.cell 1
    simp at z0 z1
    generalize hWF : ((wb.setCell ⟨w.heap.size, 0, none⟩ (.int .i64 0)).setCell ⟨w.heap.size, 1, none⟩ (.int .i64 0)) = WF at z0 z1 KF ⊢
    have HKF : Hid (Below w.heap.size w WF) := KF
    clear Z KF hWF M8 M9 C8 C7 C5 lx ly k67 k68 k7 k8 kd hHeld y0 y1 y2 y3 y4 y5 f0 f1 f2 f3 hbd
    go_wp2
    exact bodyPost_ret (v := .tuple #[.string ⟨(Lib.decDigits UX).toArray⟩, .string ⟨(Lib.decDigits UY).toArray⟩, .int .i64 (sgn N), .agg #[.int .i64 0, .int .i64 0]]) (by simp [results, Tryz.results15, go_sem, z0, z1]) rfl ⟨rfl, HKF.out⟩
  · omega

set_option maxHeartbeats 8000000 in
theorem Unit_m0 (n r P Q X Y : Nat) (w : World) (hT : Tq w) (hB : Tb w) (hn : n ≤ 1000000) (hs : ¬ SqF n) (h4 : n % 4 ≠ 1) (hK : Kd n r 0 1 P Q X Y) (hno : ∀ i, i < 1000 → (ts n r P Q i).2 ≠ 1) :
    Calls Tryz.prog 15 #[.int .i64 (n : Int)] w fun e w' => e = unF 9 ∧ Below w.heap.size w w' := by
  have HRo : Hid (∀ w, Calls Tryz.prog 69 #[.int .i64 (n : Int)] w fun e w' => e = .returned (.tuple #[.agg #[.int .i64 (n : Int), .int .i64 (r : Int), .int .i64 0, .int .i64 1], .agg #[.int .i64 0, .int .i64 0]]) ∧ Below w.heap.size w w') := root_ok hK.rn hn
  have HN : Hid (1 ≤ n ∧ n ≤ 1000000) := ⟨by have := hK.rn.lo; omega, hn⟩
  have HS : Hid (¬ SqF n) := hs
  have HK : Hid (Kd n r 0 1 P Q X Y) := hK
  have hm4 : ((n : Int) % 4 == 1) = false := beq_eq_false_iff_ne.2 (by omega)
  have HCy : Hid (∀ w, Calls Tryz.prog 71 #[.agg #[.int .i64 (n : Int), .int .i64 (r : Int), .int .i64 0, .int .i64 1]] w (CyPost r (ts n r P Q) 1001 w)) := fun w => cycle_any n r 0 1 1001 (ts n r P Q) (ts_sq hK hn) (decide ((ts n r P Q 1000).2 = 1)) (by omega) (by omega) (fun h => by simpa using h) (fun i hi => hno i (by omega)) (fun h => by simpa using h) (fun _ => rfl) w
  unfold unF
  clear hno hK hs
  clear hn
  have HT : Hid (Tq w ∧ Tb w) := ⟨hT, hB⟩
  clear hT hB
  have HF0 : Hid (Cl w.heap.size [.int .i64 0, .int .i64 0] 25 (w.alloc (.cells #[.int .i64 0, .int .i64 0] 25))) := Cl.new [.int .i64 0, .int .i64 0] _ w
  go_enter Tryz.func15, Tryz.ntmps15
  go_wp2_with fail
  refine (HRo.out _).mono ?_
  rintro e w1 ⟨rfl, k1⟩
  have F1 := HF0.out.below k1
  have K1 : Below w.heap.size w w1 := ((Below.refl _ w).alloc (Nat.le_refl _) _).trans (k1.mono (by simp))
  have e0 : ∀ x : Obj, (w1.alloc x).cell? ⟨w.heap.size, 0, none⟩ = some (.int .i64 0) := fun x => (F1.alloc x).cell 0
  have e1 : ∀ x : Obj, (w1.alloc x).cell? ⟨w.heap.size, 1, none⟩ = some (.int .i64 0) := fun x => (F1.alloc x).cell 1
  have g0 : ∀ x : Obj, (w1.alloc x).frozen? ⟨w.heap.size, 0, none⟩ = false := fun x => (F1.alloc x).frozen 0
  have g1 : ∀ x : Obj, (w1.alloc x).frozen? ⟨w.heap.size, 1, none⟩ = false := fun x => (F1.alloc x).frozen 1
  have M0 : Pm w.heap.size w1.heap.size n r 0 1 0 0 w (((w1.alloc (.cells #[.int .i64 (n : Int), .int .i64 (r : Int), .int .i64 0, .int .i64 1] 110)).setCell ⟨w.heap.size, 0, none⟩ (.int .i64 0)).setCell ⟨w.heap.size, 1, none⟩ (.int .i64 0)) := pm_root F1 K1 n r 0 1 0 0
  have hne1 : w1.heap.size ≠ w.heap.size := by have := M0.h5; omega
  have hne2 : w.heap.size ≠ w1.heap.size := by have := M0.h5; omega
  clear F1 K1 k1 HRo HF0
  go_wp2_with fail
  generalize hW2 : (((w1.alloc (.cells #[.int .i64 (n : Int), .int .i64 (r : Int), .int .i64 0, .int .i64 1] 110)).setCell ⟨w.heap.size, 0, none⟩ (.int .i64 0)).setCell ⟨w.heap.size, 1, none⟩ (.int .i64 0)) = W2 at M0 ⊢
  clear hW2 e0 e1 g0 g1
  refine (Moebius_any n HN.out.1 HN.out.2 W2 (HT.out.2.below M0.k)).mono ?_
  rintro e w3 ⟨z, rfl, hz, k3⟩
  have hz0 : (z == 0) = false := beq_eq_false_iff_ne.2 (fun e => HS.out (hz.1 e))
  clear hz
  have M3 := M0.below k3
  have ka := ((Below.refl w3.heap.size w3).alloc (Nat.le_refl _) (.cells #[.int .i64 0, .int .i64 0] 25))
  have M4 := M3.below ka
  have s2 : ∀ x : Obj, (w3.alloc x).cell? ⟨w1.heap.size, 2, none⟩ = some (.int .i64 0) := fun x => (M3.s.alloc x).cell 2
  have s3 : ∀ x : Obj, (w3.alloc x).cell? ⟨w1.heap.size, 3, none⟩ = some (.int .i64 1) := fun x => (M3.s.alloc x).cell 3
  have s0 : ∀ x : Obj, (w3.alloc x).cell? ⟨w1.heap.size, 0, none⟩ = some (.int .i64 (n : Int)) := fun x => (M3.s.alloc x).cell 0
  have s1 : ∀ x : Obj, (w3.alloc x).cell? ⟨w1.heap.size, 1, none⟩ = some (.int .i64 (r : Int)) := fun x => (M3.s.alloc x).cell 1
  have HM5 : Hid (Pm w.heap.size w1.heap.size n r 0 1 0 0 w (w3.alloc (.cells #[.int .i64 0, .int .i64 0] 25))) := M4
  clear M0 M3 M4 ka k3
  go_wp2_with fail
  generalize hW5 : (w3.alloc (.cells #[.int .i64 0, .int .i64 0] 25)) = W5 at HM5 ⊢
  clear hW5 s0 s1 s2 s3
  refine (HCy.out W5).mono ?_
  rintro e w6 ⟨k6, ⟨h, _⟩ | ⟨_, rfl⟩⟩
  · omega
  · have M6 := HM5.out.below k6
    have f0 := M6.f.cell 0
    have f1 := M6.f.cell 1
    have f2 := M6.f.frozen 0
    have f3 := M6.f.frozen 1
    simp at f0 f1
    have M7 : Pm w.heap.size w1.heap.size n r 0 1 9 0 w ((w6.setCell ⟨w.heap.size, 0, none⟩ (.int .i64 9)).setCell ⟨w.heap.size, 1, none⟩ (.int .i64 0)) :=
      ⟨(M6.f.set 0 _).set 1 _, (M6.s.other (by simp; omega) _).other (by simp; omega) _, (M6.k.setCell (Nat.le_refl _) _).setCell (Nat.le_refl _) _, M6.h5⟩
    clear M6 k6 HCy
    go_wp2
    generalize hW7 : ((w6.setCell ⟨w.heap.size, 0, none⟩ (.int .i64 9)).setCell ⟨w.heap.size, 1, none⟩ (.int .i64 0)) = W7 at M7 ⊢
    have h0 := M7.f.cell 0
    have h1 := M7.f.cell 1
    have h2 := M7.f.frozen 0
    have h3 := M7.f.frozen 1
    simp at h0 h1
    have HM7 : Hid (Pm w.heap.size w1.heap.size n r 0 1 9 0 w W7) := M7
    clear M7 hW7 f0 f1 f2 f3
    go_region
    all_goals
      go_wp2
      have Z := ((HM7.out.f.set 0 (.int .i64 9)).set 1 (.int .i64 0)).drew
      have KF := ((HM7.out.k.setCell (p := ⟨w.heap.size, 0, none⟩) (Nat.le_refl _) (.int .i64 9)).setCell (p := ⟨w.heap.size, 1, none⟩) (Nat.le_refl _) (.int .i64 0)).drew
      have z0 := Z.cell 0
      have z1 := Z.cell 1
      simp at z0 z1
      exact bodyPost_ret (v := .tuple #[.string ⟨#[]⟩, .string ⟨#[]⟩, .int .i64 0, .agg #[.int .i64 9, .int .i64 0]]) (by simp [results, Tryz.results15, go_sem, z0, z1]) rfl ⟨rfl, KF⟩


end Go.Proofs.YtfbgblidlabipaaGreatDoor
end

section
/- The program: cont.Unit, where the list ends ((1 + root) / 2). Written by mkuta.py. -/
set_option linter.unusedSimpArgs false
set_option linter.unusedVariables false
set_option maxRecDepth 100000
namespace Go.Proofs.YtfbgblidlabipaaGreatDoor
open Go.RowKit LgM CfM UtM

set_option maxHeartbeats 8000000 in
theorem Unit_g1 (n r P Q X Y N : Nat) (w : World) (hT : Tq w) (hB : Tb w) (hn : n ≤ 1000000) (hs : ¬ SqF n) (h4 : n % 4 = 1) (hK : Kd n r 1 2 P Q X Y) (hN : Ue n r P Q 2 N) :
    Calls Tryz.prog 15 #[.int .i64 (n : Int)] w fun e w' => e = unG n r P Q X Y N ∧ Below w.heap.size w w' := by
  have HRo : Hid (∀ w, Calls Tryz.prog 69 #[.int .i64 (n : Int)] w fun e w' => e = .returned (.tuple #[.agg #[.int .i64 (n : Int), .int .i64 (r : Int), .int .i64 0, .int .i64 1], .agg #[.int .i64 0, .int .i64 0]]) ∧ Below w.heap.size w w') := root_ok hK.rn hn
  have HN : Hid (1 ≤ n ∧ n ≤ 1000000) := ⟨by have := hK.rn.lo; omega, hn⟩
  have HS : Hid (¬ SqF n) := hs
  have HK : Hid (Kd n r 1 2 P Q X Y) := hK
  have hm4 : ((n : Int) % 4 == 1) = true := beq_iff_eq.2 (by omega)
  have HCy : Hid (∀ w, Calls Tryz.prog 71 #[.agg #[.int .i64 (n : Int), .int .i64 (r : Int), .int .i64 1, .int .i64 2]] w (CyPost r (ts n r P Q) N w)) := fun w => cycle_any n r 1 2 N (ts n r P Q) (ts_sq hK hn) true hN.1 (by have := hN.2.1; omega) (fun _ => hN.2.2.1) hN.2.2.2 (fun h => by cases h) (fun h => by cases h) w
  have hN1 := hN.1
  have hN2 := hN.2.1
  unfold unG
  obtain ⟨UX, hUX⟩ : ∃ u, u = (tf n r P Q X Y (N - 1)).2.1 := ⟨_, rfl⟩
  obtain ⟨UY, hUY⟩ : ∃ u, u = (tf n r P Q X Y (N - 1)).2.2 := ⟨_, rfl⟩
  rw [← hUX, ← hUY]
  have HU : Hid (UX = (tf n r P Q X Y (N - 1)).2.1 ∧ UY = (tf n r P Q X Y (N - 1)).2.2) := ⟨hUX, hUY⟩
  clear hN hK hs hUX hUY
  clear hn
  have HT : Hid (Tq w ∧ Tb w) := ⟨hT, hB⟩
  clear hT hB
  have HF0 : Hid (Cl w.heap.size [.int .i64 0, .int .i64 0] 25 (w.alloc (.cells #[.int .i64 0, .int .i64 0] 25))) := Cl.new [.int .i64 0, .int .i64 0] _ w
  go_enter Tryz.func15, Tryz.ntmps15
  go_wp2_with fail
  refine (HRo.out _).mono ?_
  rintro e w1 ⟨rfl, k1⟩
  have F1 := HF0.out.below k1
  have K1 : Below w.heap.size w w1 := ((Below.refl _ w).alloc (Nat.le_refl _) _).trans (k1.mono (by simp))
  have e0 : ∀ x : Obj, (w1.alloc x).cell? ⟨w.heap.size, 0, none⟩ = some (.int .i64 0) := fun x => (F1.alloc x).cell 0
  have e1 : ∀ x : Obj, (w1.alloc x).cell? ⟨w.heap.size, 1, none⟩ = some (.int .i64 0) := fun x => (F1.alloc x).cell 1
  have g0 : ∀ x : Obj, (w1.alloc x).frozen? ⟨w.heap.size, 0, none⟩ = false := fun x => (F1.alloc x).frozen 0
  have g1 : ∀ x : Obj, (w1.alloc x).frozen? ⟨w.heap.size, 1, none⟩ = false := fun x => (F1.alloc x).frozen 1
  have M0 : Pm w.heap.size w1.heap.size n r 0 1 0 0 w (((w1.alloc (.cells #[.int .i64 (n : Int), .int .i64 (r : Int), .int .i64 0, .int .i64 1] 110)).setCell ⟨w.heap.size, 0, none⟩ (.int .i64 0)).setCell ⟨w.heap.size, 1, none⟩ (.int .i64 0)) := pm_root F1 K1 n r 0 1 0 0
  have hne1 : w1.heap.size ≠ w.heap.size := by have := M0.h5; omega
  have hne2 : w.heap.size ≠ w1.heap.size := by have := M0.h5; omega
  clear F1 K1 k1 HRo HF0
  go_wp2_with fail
  generalize hW2 : (((w1.alloc (.cells #[.int .i64 (n : Int), .int .i64 (r : Int), .int .i64 0, .int .i64 1] 110)).setCell ⟨w.heap.size, 0, none⟩ (.int .i64 0)).setCell ⟨w.heap.size, 1, none⟩ (.int .i64 0)) = W2 at M0 ⊢
  clear hW2 e0 e1 g0 g1
  refine (Moebius_any n HN.out.1 HN.out.2 W2 (HT.out.2.below M0.k)).mono ?_
  rintro e w3 ⟨z, rfl, hz, k3⟩
  have hz0 : (z == 0) = false := beq_eq_false_iff_ne.2 (fun e => HS.out (hz.1 e))
  clear hz
  have M3 := M0.below k3
  have ka := ((Below.refl w3.heap.size w3).alloc (Nat.le_refl _) (.cells #[.int .i64 0, .int .i64 0] 25))
  have M4 := M3.below ka
  have s2 : ∀ x : Obj, (w3.alloc x).cell? ⟨w1.heap.size, 2, none⟩ = some (.int .i64 0) := fun x => (M3.s.alloc x).cell 2
  have s3 : ∀ x : Obj, (w3.alloc x).cell? ⟨w1.heap.size, 3, none⟩ = some (.int .i64 1) := fun x => (M3.s.alloc x).cell 3
  have s0 : ∀ x : Obj, (w3.alloc x).cell? ⟨w1.heap.size, 0, none⟩ = some (.int .i64 (n : Int)) := fun x => (M3.s.alloc x).cell 0
  have s1 : ∀ x : Obj, (w3.alloc x).cell? ⟨w1.heap.size, 1, none⟩ = some (.int .i64 (r : Int)) := fun x => (M3.s.alloc x).cell 1
  have t2 : ∀ x : Obj, (w3.alloc x).frozen? ⟨w1.heap.size, 2, none⟩ = false := fun x => (M3.s.alloc x).frozen 2
  have t3 : ∀ x : Obj, (w3.alloc x).frozen? ⟨w1.heap.size, 3, none⟩ = false := fun x => (M3.s.alloc x).frozen 3
  have M5 : Pm w.heap.size w1.heap.size n r 1 2 0 0 w (((w3.alloc (.cells #[.int .i64 0, .int .i64 0] 25)).setCell ⟨w1.heap.size, 2, none⟩ (.int .i64 1)).setCell ⟨w1.heap.size, 3, none⟩ (.int .i64 2)) :=
    ⟨(M4.f.other (by simp; omega) _).other (by simp; omega) _, (M4.s.set 2 (.int .i64 1)).set 3 (.int .i64 2), (M4.k.setCell (by have := M4.h5; simp; omega) _).setCell (by have := M4.h5; simp; omega) _, M4.h5⟩
  have HM5 : Hid (Pm w.heap.size w1.heap.size n r 1 2 0 0 w (((w3.alloc (.cells #[.int .i64 0, .int .i64 0] 25)).setCell ⟨w1.heap.size, 2, none⟩ (.int .i64 1)).setCell ⟨w1.heap.size, 3, none⟩ (.int .i64 2))) := M5
  clear M0 M3 M4 M5 ka k3
  go_wp2_with fail
  generalize hW5 : (((w3.alloc (.cells #[.int .i64 0, .int .i64 0] 25)).setCell ⟨w1.heap.size, 2, none⟩ (.int .i64 1)).setCell ⟨w1.heap.size, 3, none⟩ (.int .i64 2)) = W5 at HM5 ⊢
  clear hW5 s0 s1 s2 s3 t2 t3
  refine (HCy.out W5).mono ?_
  rintro e w6 ⟨k6, ⟨_, a, c, rfl, hrow⟩ | ⟨h, _⟩⟩
  · have M6 := HM5.out.below k6
    have f0 := M6.f.cell 0
    have f1 := M6.f.cell 1
    have f2 := M6.f.frozen 0
    have f3 := M6.f.frozen 1
    simp at f0 f1
    have u0 : w6.cell? ⟨w1.heap.size, 0, none⟩ = some (.int .i64 (n : Int)) := M6.s.cell 0
    have u1 : w6.cell? ⟨w1.heap.size, 1, none⟩ = some (.int .i64 (r : Int)) := M6.s.cell 1
    have u2 : w6.cell? ⟨w1.heap.size, 2, none⟩ = some (.int .i64 1) := M6.s.cell 2
    have u3 : w6.cell? ⟨w1.heap.size, 3, none⟩ = some (.int .i64 2) := M6.s.cell 3
    have M7 : Pm w.heap.size w1.heap.size n r 1 2 0 0 w ((w6.setCell ⟨w.heap.size, 0, none⟩ (.int .i64 0)).setCell ⟨w.heap.size, 1, none⟩ (.int .i64 0)) :=
      ⟨(M6.f.set 0 _).set 1 _, (M6.s.other (by simp; omega) _).other (by simp; omega) _, (M6.k.setCell (Nat.le_refl _) _).setCell (Nat.le_refl _) _, M6.h5⟩
    have hl : w.heap.size < W5.heap.size := HM5.out.f.lt
    have hcap := ownsRow_cap hrow
    have his : IS ((w6.setCell ⟨w.heap.size, 0, none⟩ (.int .i64 0)).setCell ⟨w.heap.size, 1, none⟩ (.int .i64 0)) (.slice a N c) (nz (kl r (ts n r P Q) N)) := by
      exact IS.ownL (by rw [nz_len, kl_len]) (ownsRow_setCell_below (ownsRow_setCell_below hrow (show w.heap.size < _ from hl) (.int .i64 0) (a := ⟨w.heap.size, 0, none⟩)) (show w.heap.size < _ from hl) (.int .i64 0) (a := ⟨w.heap.size, 1, none⟩))
    have HM7 : Hid (Pm w.heap.size w1.heap.size n r 1 2 0 0 w ((w6.setCell ⟨w.heap.size, 0, none⟩ (.int .i64 0)).setCell ⟨w.heap.size, 1, none⟩ (.int .i64 0))) := M7
    have HI7 : Hid (IS ((w6.setCell ⟨w.heap.size, 0, none⟩ (.int .i64 0)).setCell ⟨w.heap.size, 1, none⟩ (.int .i64 0)) (.slice a N c) (nz (kl r (ts n r P Q) N))) := his
    have HCap : Hid (N ≤ c) := hcap
    clear M6 M7 his hrow k6 HCy hcap hl
    go_wp2_with fail
    generalize hW7 : ((w6.setCell ⟨w.heap.size, 0, none⟩ (.int .i64 0)).setCell ⟨w.heap.size, 1, none⟩ (.int .i64 0)) = W7 at HM7 HI7 ⊢
    clear hW7 u0 u1 u2 u3 f0 f1 f2 f3
    have HCl : Hid (Calls Tryz.prog 72 #[.agg #[.int .i64 (n : Int), .int .i64 (r : Int), .int .i64 1, .int .i64 2], .int .i64 2, .slice a N c] W7 fun e w' => ∃ a b, e = .returned (.agg #[a, b]) ∧ LN w' a UX ∧ LN w' b UY ∧ Below W7.heap.size W7 w') := by
      show Calls _ _ _ _ _
      rw [HU.out.1, HU.out.2]
      have := climb_any n r 1 2 P Q 2 (kl r (ts n r P Q) N) (.slice a N c) W7 (fun a' k' c' h => by have := HCap.out; simp only [Value.slice.injEq] at h; omega) (ts_sq HK.out HN.out.2).first (by omega) (by omega) HI7.out (by rw [kl_len]; omega) (by rw [kl_len]; omega) (fun i => by have := klt_small HK.out HN.out.2 N i; omega)
      rw [(kd_start HK.out).1, (kd_start HK.out).2, kl_len, cb_tf (m := N) (fun i hi => klt_get r (ts n r P Q) N i hi) (N - 1) (by omega)] at this
      exact this
    refine HCl.out.mono ?_
    rintro e w8 ⟨vx, vy, rfl, lx, ly, k8⟩
    obtain ⟨ax, nx, cx, rfl⟩ := lx.slice
    obtain ⟨ay, ny, cy, rfl⟩ := ly.slice
    have M8 := HM7.out.below k8
    have ka := ((Below.refl w8.heap.size w8).alloc (Nat.le_refl _) (.cells #[.slice ax nx cx, .slice ay ny cy] 120))
    have C5 := Cl.new [.slice ax nx cx, .slice ay ny cy] 120 w8
    have M9 := M8.below ka
    have lx := lx.below ka
    have ly := ly.below ka
    clear k8 M8 HCl
    go_wp2
    generalize hW6 : w8.alloc (.cells #[.slice ax nx cx, .slice ay ny cy] 120) = W9 at C5 M9 lx ly ka ⊢
    generalize hB6 : w8.heap.size = B6 at C5 ⊢
    clear hW6 hB6 ka
    have y0 := C5.cell 0
    have y1 := C5.cell 1
    simp at y0 y1
    have HTX : Hid (Tq W9) := HT.out.1.below M9.k
    have hbd := tf_lt HK.out (by have := rn_small HK.out.rn HN.out.2; omega) (N - 1)
    rw [← HU.out.1, ← HU.out.2] at hbd
    refine wp_region_G (fun w' => w'.cell? ⟨B6, 0, none⟩ = some (.slice ax nx cx) ∧ w'.cell? ⟨B6, 1, none⟩ = some (.slice ay ny cy)) 12 (by kernel_rfl) ⟨y0, y1⟩ (fun hHeld => ?_)
    refine wpAnyG_take (i := 0) (v := ?v0x1) rfl (by kernel_rfl) (fun _ _ _ h => h) (Or.inl ⟨by rfl, ?y0x1⟩) hHeld ?r0x1
    case y0x1 => (intro wS hSw; obtain ⟨t1, t2⟩ := hSw; go_simp; try with_reducible rfl)
    try simp only [Act.put, List.setIfInBounds_toArray, List.set_cons_zero, List.set_cons_succ]
    refine wpAnyG_take (i := 1) (v := ?v1x2) rfl (by kernel_rfl) (fun _ _ _ h => h) (Or.inl ⟨by rfl, ?y1x2⟩) hHeld ?r1x2
    case y1x2 => (intro wS hSw; obtain ⟨t1, t2⟩ := hSw; go_simp; try with_reducible rfl)
    try simp only [Act.put, List.setIfInBounds_toArray, List.set_cons_zero, List.set_cons_succ]
    refine wpAnyG_take (i := 3) (v := ?v3x3) rfl (by kernel_rfl) (fun _ _ _ h => h) (Or.inl ⟨by rfl, ?y3x3⟩) hHeld ?r3x3
    case y3x3 => (intro wS hSw; obtain ⟨t1, t2⟩ := hSw; go_simp; try with_reducible rfl)
    try simp only [Act.put, List.setIfInBounds_toArray, List.set_cons_zero, List.set_cons_succ]
    refine wpAnyG_take (i := 4) (v := ?v4x4) rfl (by kernel_rfl) (fun _ _ _ h => h) (Or.inl ⟨by rfl, ?y4x4⟩) hHeld ?r4x4
    case y4x4 => (intro wS hSw; obtain ⟨t1, t2⟩ := hSw; go_simp; try with_reducible rfl)
    try simp only [Act.put, List.setIfInBounds_toArray, List.set_cons_zero, List.set_cons_succ]
    refine wpAnyG_take (i := 6) (v := ?v6x5) rfl (by kernel_rfl) (fun _ _ _ h => h) (Or.inl ⟨by rfl, ?y6x5⟩) hHeld ?r6x5
    case y6x5 => (intro wS hSw; obtain ⟨t1, t2⟩ := hSw; go_simp; try with_reducible rfl)
    try simp only [Act.put, List.setIfInBounds_toArray, List.set_cons_zero, List.set_cons_succ]
    refine wpAnyG_take (i := 8) (v := ?v8x6) rfl (by kernel_rfl) (fun _ _ _ h => h) (Or.inl ⟨by rfl, ?y8x6⟩) hHeld ?r8x6
    case y8x6 => (intro wS hSw; obtain ⟨t1, t2⟩ := hSw; go_simp; try with_reducible rfl)
    try simp only [Act.put, List.setIfInBounds_toArray, List.set_cons_zero, List.set_cons_succ]
    refine wpAnyG_one (i := 2) rfl (by kernel_rfl) (fun K hK => ?_)
    go_simp
    have kd : Below W9.heap.size W9 W9.drew := (Below.refl _ _).drew
    refine (String_any _ UX (N - 1 + 1) _ (lx.below kd) hbd.2.2.1 (by omega) (by omega) (HTX.out.below kd)).mono ?_
    rintro e wa ⟨rfl, k7⟩
    have k67 : Below W9.heap.size W9 wa := kd.trans k7
    have C7 := C5.below k67
    have y2 := C7.cell 0
    have y3 := C7.cell 1
    simp at y2 y3
    refine hK.out _ _ ⟨y2, y3⟩ ?_
    clear hK K
    try simp only [Act.put, List.setIfInBounds_toArray, List.set_cons_zero, List.set_cons_succ]
    clear hHeld
    have hHeld : wa.cell? ⟨B6, 0, none⟩ = some (.slice ax nx cx) ∧ wa.cell? ⟨B6, 1, none⟩ = some (.slice ay ny cy) := ⟨y2, y3⟩
    refine wpAnyG_one (i := 5) rfl (by kernel_rfl) (fun K hK => ?_)
    go_simp
    refine (String_any _ UY (N - 1 + 1) _ (ly.below k67) hbd.2.2.2 (by omega) (by omega) (HTX.out.below k67)).mono ?_
    rintro e wb ⟨rfl, k8⟩
    have k68 : Below W9.heap.size W9 wb := k67.trans (k8.mono k67.size)
    have C8 := C5.below k68
    have M8 := M9.below k68
    have y4 := C8.cell 0
    have y5 := C8.cell 1
    simp at y4 y5
    refine hK.out _ _ ⟨y4, y5⟩ ?_
    clear hK K
    try simp only [Act.put, List.setIfInBounds_toArray, List.set_cons_zero, List.set_cons_succ]
    clear hHeld
    have hHeld : wb.cell? ⟨B6, 0, none⟩ = some (.slice ax nx cx) ∧ wb.cell? ⟨B6, 1, none⟩ = some (.slice ay ny cy) := ⟨y4, y5⟩
    refine wpAnyG_one (i := 7) rfl (by kernel_rfl) (fun K hK => ?_)
    go_simp
    refine (normAfter_any a N c wb (by omega)).mono ?_
    rintro e wc ⟨rfl, hwc⟩
    rw [hwc]
    clear hwc wc
    refine hK.out _ _ hHeld ?_
    clear hK K
    try simp only [Act.put, List.setIfInBounds_toArray, List.set_cons_zero, List.set_cons_succ]
    have f0 := M8.f.cell 0
    have f1 := M8.f.cell 1
    have f2 := M8.f.frozen 0
    have f3 := M8.f.frozen 1
    simp at f0 f1
    refine wpAnyG_one (i := 9) rfl (by kernel_rfl) (fun K hK => ?_)
    go_simp
    refine hK.out _ _ hHeld ?_
    clear hK K
    try simp only [Act.put, List.setIfInBounds_toArray, List.set_cons_zero, List.set_cons_succ]
    refine wpAnyG_one (i := 10) rfl (by kernel_rfl) (fun K hK => ?_)
    go_simp
    refine hK.out _ _ hHeld ?_
    clear hK K
    try simp only [Act.put, List.setIfInBounds_toArray, List.set_cons_zero, List.set_cons_succ]
    refine wpAnyG_one (i := 11) rfl (by kernel_rfl) (fun K hK => ?_)
    go_simp
    refine hK.out _ _ hHeld ?_
    clear hK K
    try simp only [Act.put, List.setIfInBounds_toArray, List.set_cons_zero, List.set_cons_succ]
    refine wpAnyG_last (i := 12) rfl (by kernel_rfl) (by kernel_rfl) (fun K hK => ?_)
    go_simp
    refine hK.out _ _ ?_
    clear hK K
    try simp only [Act.put, List.setIfInBounds_toArray, List.set_cons_zero, List.set_cons_succ]
    refine wpAnyG_done (by kernel_rfl) ?_ _
    have Z := (M8.f.set 0 (.int .i64 0)).set 1 (.int .i64 0)
    have KF := (M8.k.setCell (p := ⟨w.heap.size, 0, none⟩) (Nat.le_refl _) (.int .i64 0)).setCell (p := ⟨w.heap.size, 1, none⟩) (Nat.le_refl _) (.int .i64 0)
    have z0 := Z.cell 0
    have z1 := Z.cell 1
    simp at z0 z1
    generalize hWF : ((wb.setCell ⟨w.heap.size, 0, none⟩ (.int .i64 0)).setCell ⟨w.heap.size, 1, none⟩ (.int .i64 0)) = WF at z0 z1 KF ⊢
    have HKF : Hid (Below w.heap.size w WF) := KF
    clear Z KF hWF M8 M9 C8 C7 C5 lx ly k67 k68 k7 k8 kd hHeld y0 y1 y2 y3 y4 y5 f0 f1 f2 f3 hbd
    go_wp2
    exact bodyPost_ret (v := .tuple #[.string ⟨(Lib.decDigits UX).toArray⟩, .string ⟨(Lib.decDigits UY).toArray⟩, .int .i64 (sgn N), .agg #[.int .i64 0, .int .i64 0]]) (by simp [results, Tryz.results15, go_sem, z0, z1]) rfl ⟨rfl, HKF.out⟩
  · omega

set_option maxHeartbeats 8000000 in
theorem Unit_m1 (n r P Q X Y : Nat) (w : World) (hT : Tq w) (hB : Tb w) (hn : n ≤ 1000000) (hs : ¬ SqF n) (h4 : n % 4 = 1) (hK : Kd n r 1 2 P Q X Y) (hno : ∀ i, i < 1000 → (ts n r P Q i).2 ≠ 2) :
    Calls Tryz.prog 15 #[.int .i64 (n : Int)] w fun e w' => e = unF 9 ∧ Below w.heap.size w w' := by
  have HRo : Hid (∀ w, Calls Tryz.prog 69 #[.int .i64 (n : Int)] w fun e w' => e = .returned (.tuple #[.agg #[.int .i64 (n : Int), .int .i64 (r : Int), .int .i64 0, .int .i64 1], .agg #[.int .i64 0, .int .i64 0]]) ∧ Below w.heap.size w w') := root_ok hK.rn hn
  have HN : Hid (1 ≤ n ∧ n ≤ 1000000) := ⟨by have := hK.rn.lo; omega, hn⟩
  have HS : Hid (¬ SqF n) := hs
  have HK : Hid (Kd n r 1 2 P Q X Y) := hK
  have hm4 : ((n : Int) % 4 == 1) = true := beq_iff_eq.2 (by omega)
  have HCy : Hid (∀ w, Calls Tryz.prog 71 #[.agg #[.int .i64 (n : Int), .int .i64 (r : Int), .int .i64 1, .int .i64 2]] w (CyPost r (ts n r P Q) 1001 w)) := fun w => cycle_any n r 1 2 1001 (ts n r P Q) (ts_sq hK hn) (decide ((ts n r P Q 1000).2 = 2)) (by omega) (by omega) (fun h => by simpa using h) (fun i hi => hno i (by omega)) (fun h => by simpa using h) (fun _ => rfl) w
  unfold unF
  clear hno hK hs
  clear hn
  have HT : Hid (Tq w ∧ Tb w) := ⟨hT, hB⟩
  clear hT hB
  have HF0 : Hid (Cl w.heap.size [.int .i64 0, .int .i64 0] 25 (w.alloc (.cells #[.int .i64 0, .int .i64 0] 25))) := Cl.new [.int .i64 0, .int .i64 0] _ w
  go_enter Tryz.func15, Tryz.ntmps15
  go_wp2_with fail
  refine (HRo.out _).mono ?_
  rintro e w1 ⟨rfl, k1⟩
  have F1 := HF0.out.below k1
  have K1 : Below w.heap.size w w1 := ((Below.refl _ w).alloc (Nat.le_refl _) _).trans (k1.mono (by simp))
  have e0 : ∀ x : Obj, (w1.alloc x).cell? ⟨w.heap.size, 0, none⟩ = some (.int .i64 0) := fun x => (F1.alloc x).cell 0
  have e1 : ∀ x : Obj, (w1.alloc x).cell? ⟨w.heap.size, 1, none⟩ = some (.int .i64 0) := fun x => (F1.alloc x).cell 1
  have g0 : ∀ x : Obj, (w1.alloc x).frozen? ⟨w.heap.size, 0, none⟩ = false := fun x => (F1.alloc x).frozen 0
  have g1 : ∀ x : Obj, (w1.alloc x).frozen? ⟨w.heap.size, 1, none⟩ = false := fun x => (F1.alloc x).frozen 1
  have M0 : Pm w.heap.size w1.heap.size n r 0 1 0 0 w (((w1.alloc (.cells #[.int .i64 (n : Int), .int .i64 (r : Int), .int .i64 0, .int .i64 1] 110)).setCell ⟨w.heap.size, 0, none⟩ (.int .i64 0)).setCell ⟨w.heap.size, 1, none⟩ (.int .i64 0)) := pm_root F1 K1 n r 0 1 0 0
  have hne1 : w1.heap.size ≠ w.heap.size := by have := M0.h5; omega
  have hne2 : w.heap.size ≠ w1.heap.size := by have := M0.h5; omega
  clear F1 K1 k1 HRo HF0
  go_wp2_with fail
  generalize hW2 : (((w1.alloc (.cells #[.int .i64 (n : Int), .int .i64 (r : Int), .int .i64 0, .int .i64 1] 110)).setCell ⟨w.heap.size, 0, none⟩ (.int .i64 0)).setCell ⟨w.heap.size, 1, none⟩ (.int .i64 0)) = W2 at M0 ⊢
  clear hW2 e0 e1 g0 g1
  refine (Moebius_any n HN.out.1 HN.out.2 W2 (HT.out.2.below M0.k)).mono ?_
  rintro e w3 ⟨z, rfl, hz, k3⟩
  have hz0 : (z == 0) = false := beq_eq_false_iff_ne.2 (fun e => HS.out (hz.1 e))
  clear hz
  have M3 := M0.below k3
  have ka := ((Below.refl w3.heap.size w3).alloc (Nat.le_refl _) (.cells #[.int .i64 0, .int .i64 0] 25))
  have M4 := M3.below ka
  have s2 : ∀ x : Obj, (w3.alloc x).cell? ⟨w1.heap.size, 2, none⟩ = some (.int .i64 0) := fun x => (M3.s.alloc x).cell 2
  have s3 : ∀ x : Obj, (w3.alloc x).cell? ⟨w1.heap.size, 3, none⟩ = some (.int .i64 1) := fun x => (M3.s.alloc x).cell 3
  have s0 : ∀ x : Obj, (w3.alloc x).cell? ⟨w1.heap.size, 0, none⟩ = some (.int .i64 (n : Int)) := fun x => (M3.s.alloc x).cell 0
  have s1 : ∀ x : Obj, (w3.alloc x).cell? ⟨w1.heap.size, 1, none⟩ = some (.int .i64 (r : Int)) := fun x => (M3.s.alloc x).cell 1
  have t2 : ∀ x : Obj, (w3.alloc x).frozen? ⟨w1.heap.size, 2, none⟩ = false := fun x => (M3.s.alloc x).frozen 2
  have t3 : ∀ x : Obj, (w3.alloc x).frozen? ⟨w1.heap.size, 3, none⟩ = false := fun x => (M3.s.alloc x).frozen 3
  have M5 : Pm w.heap.size w1.heap.size n r 1 2 0 0 w (((w3.alloc (.cells #[.int .i64 0, .int .i64 0] 25)).setCell ⟨w1.heap.size, 2, none⟩ (.int .i64 1)).setCell ⟨w1.heap.size, 3, none⟩ (.int .i64 2)) :=
    ⟨(M4.f.other (by simp; omega) _).other (by simp; omega) _, (M4.s.set 2 (.int .i64 1)).set 3 (.int .i64 2), (M4.k.setCell (by have := M4.h5; simp; omega) _).setCell (by have := M4.h5; simp; omega) _, M4.h5⟩
  have HM5 : Hid (Pm w.heap.size w1.heap.size n r 1 2 0 0 w (((w3.alloc (.cells #[.int .i64 0, .int .i64 0] 25)).setCell ⟨w1.heap.size, 2, none⟩ (.int .i64 1)).setCell ⟨w1.heap.size, 3, none⟩ (.int .i64 2))) := M5
  clear M0 M3 M4 M5 ka k3
  go_wp2_with fail
  generalize hW5 : (((w3.alloc (.cells #[.int .i64 0, .int .i64 0] 25)).setCell ⟨w1.heap.size, 2, none⟩ (.int .i64 1)).setCell ⟨w1.heap.size, 3, none⟩ (.int .i64 2)) = W5 at HM5 ⊢
  clear hW5 s0 s1 s2 s3 t2 t3
  refine (HCy.out W5).mono ?_
  rintro e w6 ⟨k6, ⟨h, _⟩ | ⟨_, rfl⟩⟩
  · omega
  · have M6 := HM5.out.below k6
    have f0 := M6.f.cell 0
    have f1 := M6.f.cell 1
    have f2 := M6.f.frozen 0
    have f3 := M6.f.frozen 1
    simp at f0 f1
    have M7 : Pm w.heap.size w1.heap.size n r 1 2 9 0 w ((w6.setCell ⟨w.heap.size, 0, none⟩ (.int .i64 9)).setCell ⟨w.heap.size, 1, none⟩ (.int .i64 0)) :=
      ⟨(M6.f.set 0 _).set 1 _, (M6.s.other (by simp; omega) _).other (by simp; omega) _, (M6.k.setCell (Nat.le_refl _) _).setCell (Nat.le_refl _) _, M6.h5⟩
    clear M6 k6 HCy
    go_wp2
    generalize hW7 : ((w6.setCell ⟨w.heap.size, 0, none⟩ (.int .i64 9)).setCell ⟨w.heap.size, 1, none⟩ (.int .i64 0)) = W7 at M7 ⊢
    have h0 := M7.f.cell 0
    have h1 := M7.f.cell 1
    have h2 := M7.f.frozen 0
    have h3 := M7.f.frozen 1
    simp at h0 h1
    have HM7 : Hid (Pm w.heap.size w1.heap.size n r 1 2 9 0 w W7) := M7
    clear M7 hW7 f0 f1 f2 f3
    go_region
    all_goals
      go_wp2
      have Z := ((HM7.out.f.set 0 (.int .i64 9)).set 1 (.int .i64 0)).drew
      have KF := ((HM7.out.k.setCell (p := ⟨w.heap.size, 0, none⟩) (Nat.le_refl _) (.int .i64 9)).setCell (p := ⟨w.heap.size, 1, none⟩) (Nat.le_refl _) (.int .i64 0)).drew
      have z0 := Z.cell 0
      have z1 := Z.cell 1
      simp at z0 z1
      exact bodyPost_ret (v := .tuple #[.string ⟨#[]⟩, .string ⟨#[]⟩, .int .i64 0, .agg #[.int .i64 9, .int .i64 0]]) (by simp [results, Tryz.results15, go_sem, z0, z1]) rfl ⟨rfl, KF⟩


end Go.Proofs.YtfbgblidlabipaaGreatDoor
end
