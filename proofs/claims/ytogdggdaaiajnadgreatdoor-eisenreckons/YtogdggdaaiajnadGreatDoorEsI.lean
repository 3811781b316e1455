/- Package eisen: Norm, Mul, Div, Gcd. Written by gsi.py. -/
import Derived.Test.YtogdggdaaiajnadGreatDoorGsX
import Derived.Test.YtogdggdaaiajnadGreatDoorEsA
set_option linter.unusedSimpArgs false
set_option linter.unusedVariables false
set_option maxRecDepth 100000
namespace Go.Proofs.YtogdggdaaiajnadGreatDoor
open Go.RowKit

set_option maxHeartbeats 1000000 in
theorem eNorm_any (x : Pp) (w : World) :
    Calls Tryz.prog 16 #[pv x] w fun e w' => e = .returned (.tuple #[.int .i64 (if okP x then x.norm (-1) else 0), fv (pfl 0 [x])]) ∧ Below w.heap.size w w' := by
  have HNum : Hid (∀ w, Calls Tryz.prog 37 #[] w fun e w' => e = .returned ek.v ∧ Below w.heap.size w w') := fun w => ek_numbers w
  have HN : Hid (∀ w, Calls Tryz.prog 38 #[ek.v, pv x] w fun e w' => e = .returned (.tuple #[.int .i64 (if okP x then x.norm (-1) else 0), fv (pfl 0 [x])]) ∧ Below w.heap.size w w') := fun w => rNorm_any (-1) ek ek_is x w (.inr rfl)
  obtain ⟨n, hn⟩ : ∃ n : Int, n = if okP x then x.norm (-1) else 0 := ⟨_, rfl⟩
  obtain ⟨f, hf⟩ : ∃ f, f = pfl 0 [x] := ⟨_, rfl⟩
  rw [← hn, ← hf] at HN ⊢
  clear hn hf
  go_enter Tryz.func16, Tryz.ntmps16
  go_wp2_with fail
  have X0 := sv_alloc (sv_new w 23 (w.heap.size) (by simp) (x.a) (x.b)) (.cells #[.int .i64 0, .int .i64 0] 28)
  have X1 := sv_new (w.alloc (.cells #[.int .i64 x.a, .int .i64 x.b] 23)) 28 (w.heap.size + 1) (by simp) (0) (0)
  have K0 : Below w.heap.size w ((w.alloc (.cells #[.int .i64 x.a, .int .i64 x.b] 23)).alloc (.cells #[.int .i64 0, .int .i64 0] 28)) := Below.alloc (Below.alloc (Below.refl w.heap.size w) (Nat.le_refl _) (.cells #[.int .i64 x.a, .int .i64 x.b] 23)) (by simp <;> omega) (.cells #[.int .i64 0, .int .i64 0] 28)
  obtain ⟨W0, hW0⟩ : ∃ W0, W0 = ((w.alloc (.cells #[.int .i64 x.a, .int .i64 x.b] 23)).alloc (.cells #[.int .i64 0, .int .i64 0] 28)) := ⟨_, rfl⟩
  rw [← hW0] at X0 X1 K0 ⊢
  clear hW0
  refine wp_region_G (fun W => Rp (w.heap.size) x W) 6 (by kernel_rfl) ⟨X0.c0, X0.c1⟩ (fun hHeld => ?_)
  refine wpAnyG_take (i := 1) (v := ?v1x1) rfl (by kernel_rfl) (fun _ _ _ h => h) (Or.inl ⟨by rfl, ?y1x1⟩) hHeld ?r1x1
  case y1x1 => (intro wS hSw; obtain ⟨s1, s2⟩ := hSw; go_simp; try with_reducible rfl)
  try simp only [Act.put, List.setIfInBounds_toArray, List.set_cons_zero, List.set_cons_succ]
  refine wpAnyG_one (i := 0) rfl (by kernel_rfl) (fun K hK => ?_)
  go_simp
  refine (HNum.out _).mono ?_
  rintro e w1 ⟨rfl, k1⟩
  replace k1 := ((Below.refl _ _).drew).trans k1
  have X0a := X0.below k1
  have X1a := X1.below k1
  have K1 := K0.trans (k1.mono K0.size)
  refine hK.out _ _ ⟨X0a.c0, X0a.c1⟩ ?_
  clear hK K
  try simp only [Act.put, List.setIfInBounds_toArray, List.set_cons_zero, List.set_cons_succ]
  refine wpAnyG_one (i := 2) rfl (by kernel_rfl) (fun K hK => ?_)
  go_simp
  refine (HN.out _).mono ?_
  rintro e w2 ⟨rfl, k2⟩
  have X0b := X0a.below k2
  have X1b := X1a.below k2
  have K2 := K1.trans (k2.mono K1.size)
  refine hK.out _ _ ⟨X0b.c0, X0b.c1⟩ ?_
  clear hK K
  try simp only [Act.put, List.setIfInBounds_toArray, List.set_cons_zero, List.set_cons_succ]
  clear hHeld
  have hHeld : (fun W => Rp (w.heap.size) x W) w2 := ⟨X0b.c0, X0b.c1⟩
  refine wpAnyG_take (i := 3) (v := ?v3x2) rfl (by kernel_rfl) (fun _ _ _ h => h) (Or.inl ⟨by rfl, ?y3x2⟩) hHeld ?r3x2
  case y3x2 => (intro wS hSw; obtain ⟨s1, s2⟩ := hSw; go_simp; try with_reducible rfl)
  try simp only [Act.put, List.setIfInBounds_toArray, List.set_cons_zero, List.set_cons_succ]
  refine wpAnyG_take (i := 4) (v := ?v4x3) rfl (by kernel_rfl) (fun _ _ _ h => h) (Or.inl ⟨by rfl, ?y4x3⟩) hHeld ?r4x3
  case y4x3 => (intro wS hSw; obtain ⟨s1, s2⟩ := hSw; go_simp; try with_reducible rfl)
  try simp only [Act.put, List.setIfInBounds_toArray, List.set_cons_zero, List.set_cons_succ]
  have X1b_c0 := X1b.c0
  have X1b_c1 := X1b.c1
  have X1b_f0 := X1b.f0
  have X1b_f1 := X1b.f1
  have X1b_lt := X1b.lt
  refine wpAnyG_one (i := 5) rfl (by kernel_rfl) (fun K hK => ?_)
  go_simp
  refine hK.out _ _ ⟨X0b.c0, X0b.c1⟩ ?_
  clear hK K
  try simp only [Act.put, List.setIfInBounds_toArray, List.set_cons_zero, List.set_cons_succ]
  refine wpAnyG_last (i := 6) rfl (by kernel_rfl) (by kernel_rfl) (fun K hK => ?_)
  go_simp
  have X0s1 := X0b.other (.int .i64 (f.1)) (.int .i64 (f.2)) (show w.heap.size + 1 ≠ w.heap.size by omega)
  have X1s1 := X1b.set (f.1) (f.2)
  have K2s1 := (K2.setCell (p := ⟨w.heap.size + 1, 0, none⟩) (by show w.heap.size ≤ w.heap.size + 1; omega) (.int .i64 (f.1))).setCell (p := ⟨w.heap.size + 1, 1, none⟩) (by show w.heap.size ≤ w.heap.size + 1; omega) (.int .i64 (f.2))
  refine hK.out _ _ ?_
  clear hK K
  try simp only [Act.put, List.setIfInBounds_toArray, List.set_cons_zero, List.set_cons_succ]
  refine wpAnyG_done (by kernel_rfl) ?_ _
  clear hHeld X1b_c0 X1b_c1 X1b_f0 X1b_f1 X1b_lt
  go_wp2_with fail
  generalize hWF : World.setCell _ _ _ = WF
  rw [hWF] at X1s1
  have E0c0 := X1s1.c0
  have E0c1 := X1s1.c1
  have E0lt := X1s1.lt
  rw [hWF] at K2s1
  exact bodyPost_ret (v := .tuple #[.int .i64 n, fv f]) (by simp [results, Tryz.results16, go_sem, E0c0, E0c1, E0lt]) rfl ⟨rfl, K2s1⟩

set_option maxHeartbeats 1000000 in
theorem eMul_any (x y : Pp) (w : World) :
    Calls Tryz.prog 17 #[pv x, pv y] w fun e w' => e = .returned (.tuple #[pv (mulV (-1) x y), fv (mulF (-1) x y)]) ∧ Below w.heap.size w w' := by
  have HNum : Hid (∀ w, Calls Tryz.prog 37 #[] w fun e w' => e = .returned ek.v ∧ Below w.heap.size w w') := fun w => ek_numbers w
  have HN : Hid (∀ w, Calls Tryz.prog 39 #[ek.v, pv x, pv y] w fun e w' => e = .returned (.tuple #[pv (mulV (-1) x y), fv (mulF (-1) x y)]) ∧ Below w.heap.size w w') := fun w => rMul_any (-1) ek ek_is x y w (.inr rfl)
  obtain ⟨p, hp⟩ : ∃ p, p = mulV (-1) x y := ⟨_, rfl⟩
  obtain ⟨f, hf⟩ : ∃ f, f = mulF (-1) x y := ⟨_, rfl⟩
  rw [← hp, ← hf] at HN ⊢
  clear hp hf
  go_enter Tryz.func17, Tryz.ntmps17
  go_wp2_with fail
  have X0 := sv_alloc (sv_alloc (sv_alloc (sv_new w 23 (w.heap.size) (by simp) (x.a) (x.b)) (.cells #[.int .i64 y.a, .int .i64 y.b] 23)) (.cells #[.int .i64 0, .int .i64 0] 23)) (.cells #[.int .i64 0, .int .i64 0] 28)
  have X1 := sv_alloc (sv_alloc (sv_new (w.alloc (.cells #[.int .i64 x.a, .int .i64 x.b] 23)) 23 (w.heap.size + 1) (by simp) (y.a) (y.b)) (.cells #[.int .i64 0, .int .i64 0] 23)) (.cells #[.int .i64 0, .int .i64 0] 28)
  have X2 := sv_alloc (sv_new ((w.alloc (.cells #[.int .i64 x.a, .int .i64 x.b] 23)).alloc (.cells #[.int .i64 y.a, .int .i64 y.b] 23)) 23 (w.heap.size + 1 + 1) (by simp) (0) (0)) (.cells #[.int .i64 0, .int .i64 0] 28)
  have X3 := sv_new (((w.alloc (.cells #[.int .i64 x.a, .int .i64 x.b] 23)).alloc (.cells #[.int .i64 y.a, .int .i64 y.b] 23)).alloc (.cells #[.int .i64 0, .int .i64 0] 23)) 28 (w.heap.size + 1 + 1 + 1) (by simp) (0) (0)
  have K0 : Below w.heap.size w ((((w.alloc (.cells #[.int .i64 x.a, .int .i64 x.b] 23)).alloc (.cells #[.int .i64 y.a, .int .i64 y.b] 23)).alloc (.cells #[.int .i64 0, .int .i64 0] 23)).alloc (.cells #[.int .i64 0, .int .i64 0] 28)) := Below.alloc (Below.alloc (Below.alloc (Below.alloc (Below.refl w.heap.size w) (Nat.le_refl _) (.cells #[.int .i64 x.a, .int .i64 x.b] 23)) (by simp <;> omega) (.cells #[.int .i64 y.a, .int .i64 y.b] 23)) (by simp <;> omega) (.cells #[.int .i64 0, .int .i64 0] 23)) (by simp <;> omega) (.cells #[.int .i64 0, .int .i64 0] 28)
  obtain ⟨W0, hW0⟩ : ∃ W0, W0 = ((((w.alloc (.cells #[.int .i64 x.a, .int .i64 x.b] 23)).alloc (.cells #[.int .i64 y.a, .int .i64 y.b] 23)).alloc (.cells #[.int .i64 0, .int .i64 0] 23)).alloc (.cells #[.int .i64 0, .int .i64 0] 28)) := ⟨_, rfl⟩
  rw [← hW0] at X0 X1 X2 X3 K0 ⊢
  clear hW0
  refine wp_region_G (fun W => Rp (w.heap.size) x W ∧ Rp (w.heap.size + 1) y W) 7 (by kernel_rfl) ⟨⟨X0.c0, X0.c1⟩, X1.c0, X1.c1⟩ (fun hHeld => ?_)
  refine wpAnyG_take (i := 1) (v := ?v1x4) rfl (by kernel_rfl) (fun _ _ _ h => h) (Or.inl ⟨by rfl, ?y1x4⟩) hHeld ?r1x4
  case y1x4 => (intro wS hSw; obtain ⟨⟨s1, s2⟩, s3, s4⟩ := hSw; go_simp; try with_reducible rfl)
  try simp only [Act.put, List.setIfInBounds_toArray, List.set_cons_zero, List.set_cons_succ]
  refine wpAnyG_take (i := 2) (v := ?v2x5) rfl (by kernel_rfl) (fun _ _ _ h => h) (Or.inl ⟨by rfl, ?y2x5⟩) hHeld ?r2x5
  case y2x5 => (intro wS hSw; obtain ⟨⟨s1, s2⟩, s3, s4⟩ := hSw; go_simp; try with_reducible rfl)
  try simp only [Act.put, List.setIfInBounds_toArray, List.set_cons_zero, List.set_cons_succ]
  refine wpAnyG_one (i := 0) rfl (by kernel_rfl) (fun K hK => ?_)
  go_simp
  refine (HNum.out _).mono ?_
  rintro e w1 ⟨rfl, k1⟩
  replace k1 := ((Below.refl _ _).drew).trans k1
  have X0a := X0.below k1
  have X1a := X1.below k1
  have X2a := X2.below k1
  have X3a := X3.below k1
  have K1 := K0.trans (k1.mono K0.size)
  refine hK.out _ _ ⟨⟨X0a.c0, X0a.c1⟩, X1a.c0, X1a.c1⟩ ?_
  clear hK K
  try simp only [Act.put, List.setIfInBounds_toArray, List.set_cons_zero, List.set_cons_succ]
  refine wpAnyG_one (i := 3) rfl (by kernel_rfl) (fun K hK => ?_)
  go_simp
  refine (HN.out _).mono ?_
  rintro e w2 ⟨rfl, k2⟩
  have X0b := X0a.below k2
  have X1b := X1a.below k2
  have X2b := X2a.below k2
  have X3b := X3a.below k2
  have K2 := K1.trans (k2.mono K1.size)
  refine hK.out _ _ ⟨⟨X0b.c0, X0b.c1⟩, X1b.c0, X1b.c1⟩ ?_
  clear hK K
  try simp only [Act.put, List.setIfInBounds_toArray, List.set_cons_zero, List.set_cons_succ]
  clear hHeld
  have hHeld : (fun W => Rp (w.heap.size) x W ∧ Rp (w.heap.size + 1) y W) w2 := ⟨⟨X0b.c0, X0b.c1⟩, X1b.c0, X1b.c1⟩
  refine wpAnyG_take (i := 4) (v := ?v4x6) rfl (by kernel_rfl) (fun _ _ _ h => h) (Or.inl ⟨by rfl, ?y4x6⟩) hHeld ?r4x6
  case y4x6 => (intro wS hSw; obtain ⟨⟨s1, s2⟩, s3, s4⟩ := hSw; go_simp; try with_reducible rfl)
  try simp only [Act.put, List.setIfInBounds_toArray, List.set_cons_zero, List.set_cons_succ]
  refine wpAnyG_take (i := 5) (v := ?v5x7) rfl (by kernel_rfl) (fun _ _ _ h => h) (Or.inl ⟨by rfl, ?y5x7⟩) hHeld ?r5x7
  case y5x7 => (intro wS hSw; obtain ⟨⟨s1, s2⟩, s3, s4⟩ := hSw; go_simp; try with_reducible rfl)
  try simp only [Act.put, List.setIfInBounds_toArray, List.set_cons_zero, List.set_cons_succ]
  have X2b_c0 := X2b.c0
  have X2b_c1 := X2b.c1
  have X2b_f0 := X2b.f0
  have X2b_f1 := X2b.f1
  have X2b_lt := X2b.lt
  have X3b_c0 := X3b.c0
  have X3b_c1 := X3b.c1
  have X3b_f0 := X3b.f0
  have X3b_f1 := X3b.f1
  have X3b_lt := X3b.lt
  refine wpAnyG_one (i := 6) rfl (by kernel_rfl) (fun K hK => ?_)
  go_simp
  have X0s0 := X0b.other (.int .i64 (p.a)) (.int .i64 (p.b)) (show w.heap.size + 1 + 1 ≠ w.heap.size by omega)
  have X1s0 := X1b.other (.int .i64 (p.a)) (.int .i64 (p.b)) (show w.heap.size + 1 + 1 ≠ w.heap.size + 1 by omega)
  have X2s0 := X2b.set (p.a) (p.b)
  have X3s0 := X3b.other (.int .i64 (p.a)) (.int .i64 (p.b)) (show w.heap.size + 1 + 1 ≠ w.heap.size + 1 + 1 + 1 by omega)
  have K2s0 := (K2.setCell (p := ⟨w.heap.size + 1 + 1, 0, none⟩) (by show w.heap.size ≤ w.heap.size + 1 + 1; omega) (.int .i64 (p.a))).setCell (p := ⟨w.heap.size + 1 + 1, 1, none⟩) (by show w.heap.size ≤ w.heap.size + 1 + 1; omega) (.int .i64 (p.b))
  refine hK.out _ _ ⟨⟨X0s0.c0, X0s0.c1⟩, X1s0.c0, X1s0.c1⟩ ?_
  clear hK K
  try simp only [Act.put, List.setIfInBounds_toArray, List.set_cons_zero, List.set_cons_succ]
  refine wpAnyG_last (i := 7) rfl (by kernel_rfl) (by kernel_rfl) (fun K hK => ?_)
  go_simp
  have X0s1 := X0s0.other (.int .i64 (f.1)) (.int .i64 (f.2)) (show w.heap.size + 1 + 1 + 1 ≠ w.heap.size by omega)
  have X1s1 := X1s0.other (.int .i64 (f.1)) (.int .i64 (f.2)) (show w.heap.size + 1 + 1 + 1 ≠ w.heap.size + 1 by omega)
  have X2s1 := X2s0.other (.int .i64 (f.1)) (.int .i64 (f.2)) (show w.heap.size + 1 + 1 + 1 ≠ w.heap.size + 1 + 1 by omega)
  have X3s1 := X3s0.set (f.1) (f.2)
  have K2s1 := (K2s0.setCell (p := ⟨w.heap.size + 1 + 1 + 1, 0, none⟩) (by show w.heap.size ≤ w.heap.size + 1 + 1 + 1; omega) (.int .i64 (f.1))).setCell (p := ⟨w.heap.size + 1 + 1 + 1, 1, none⟩) (by show w.heap.size ≤ w.heap.size + 1 + 1 + 1; omega) (.int .i64 (f.2))
  refine hK.out _ _ ?_
  clear hK K
  try simp only [Act.put, List.setIfInBounds_toArray, List.set_cons_zero, List.set_cons_succ]
  refine wpAnyG_done (by kernel_rfl) ?_ _
  clear hHeld X2b_c0 X2b_c1 X2b_f0 X2b_f1 X2b_lt X3b_c0 X3b_c1 X3b_f0 X3b_f1 X3b_lt
  go_wp2_with fail
  generalize hWF : World.setCell _ _ _ = WF
  rw [hWF] at X2s1
  have E0c0 := X2s1.c0
  have E0c1 := X2s1.c1
  have E0lt := X2s1.lt
  rw [hWF] at X3s1
  have E1c0 := X3s1.c0
  have E1c1 := X3s1.c1
  have E1lt := X3s1.lt
  rw [hWF] at K2s1
  exact bodyPost_ret (v := .tuple #[pv p, fv f]) (by simp [results, Tryz.results17, go_sem, E0c0, E0c1, E0lt, E1c0, E1c1, E1lt]) rfl ⟨rfl, K2s1⟩

set_option maxHeartbeats 1000000 in
theorem eDiv_any (x y : Pp) (w : World) :
    Calls Tryz.prog 18 #[pv x, pv y] w fun e w' => e = .returned (.tuple #[pv (divQ (-1) x y), pv (divR (-1) x y), fv (divF x y)]) ∧ Below w.heap.size w w' := by
  have HNum : Hid (∀ w, Calls Tryz.prog 37 #[] w fun e w' => e = .returned ek.v ∧ Below w.heap.size w w') := fun w => ek_numbers w
  have HN : Hid (∀ w, Calls Tryz.prog 40 #[ek.v, pv x, pv y] w fun e w' => e = .returned (.tuple #[pv (divQ (-1) x y), pv (divR (-1) x y), fv (divF x y)]) ∧ Below w.heap.size w w') := fun w => rDiv_any (-1) ek ek_is x y w (.inr rfl)
  obtain ⟨q, hq⟩ : ∃ q, q = divQ (-1) x y := ⟨_, rfl⟩
  obtain ⟨r, hr⟩ : ∃ r, r = divR (-1) x y := ⟨_, rfl⟩
  obtain ⟨f, hf⟩ : ∃ f, f = divF x y := ⟨_, rfl⟩
  rw [← hq, ← hr, ← hf] at HN ⊢
  clear hq hr hf
  go_enter Tryz.func18, Tryz.ntmps18
  go_wp2_with fail
  have X0 := sv_alloc (sv_alloc (sv_alloc (sv_alloc (sv_new w 23 (w.heap.size) (by simp) (x.a) (x.b)) (.cells #[.int .i64 y.a, .int .i64 y.b] 23)) (.cells #[.int .i64 0, .int .i64 0] 23)) (.cells #[.int .i64 0, .int .i64 0] 23)) (.cells #[.int .i64 0, .int .i64 0] 28)
  have X1 := sv_alloc (sv_alloc (sv_alloc (sv_new (w.alloc (.cells #[.int .i64 x.a, .int .i64 x.b] 23)) 23 (w.heap.size + 1) (by simp) (y.a) (y.b)) (.cells #[.int .i64 0, .int .i64 0] 23)) (.cells #[.int .i64 0, .int .i64 0] 23)) (.cells #[.int .i64 0, .int .i64 0] 28)
  have X2 := sv_alloc (sv_alloc (sv_new ((w.alloc (.cells #[.int .i64 x.a, .int .i64 x.b] 23)).alloc (.cells #[.int .i64 y.a, .int .i64 y.b] 23)) 23 (w.heap.size + 1 + 1) (by simp) (0) (0)) (.cells #[.int .i64 0, .int .i64 0] 23)) (.cells #[.int .i64 0, .int .i64 0] 28)
  have X3 := sv_alloc (sv_new (((w.alloc (.cells #[.int .i64 x.a, .int .i64 x.b] 23)).alloc (.cells #[.int .i64 y.a, .int .i64 y.b] 23)).alloc (.cells #[.int .i64 0, .int .i64 0] 23)) 23 (w.heap.size + 1 + 1 + 1) (by simp) (0) (0)) (.cells #[.int .i64 0, .int .i64 0] 28)
  have X4 := sv_new ((((w.alloc (.cells #[.int .i64 x.a, .int .i64 x.b] 23)).alloc (.cells #[.int .i64 y.a, .int .i64 y.b] 23)).alloc (.cells #[.int .i64 0, .int .i64 0] 23)).alloc (.cells #[.int .i64 0, .int .i64 0] 23)) 28 (w.heap.size + 1 + 1 + 1 + 1) (by simp) (0) (0)
  have K0 : Below w.heap.size w (((((w.alloc (.cells #[.int .i64 x.a, .int .i64 x.b] 23)).alloc (.cells #[.int .i64 y.a, .int .i64 y.b] 23)).alloc (.cells #[.int .i64 0, .int .i64 0] 23)).alloc (.cells #[.int .i64 0, .int .i64 0] 23)).alloc (.cells #[.int .i64 0, .int .i64 0] 28)) := Below.alloc (Below.alloc (Below.alloc (Below.alloc (Below.alloc (Below.refl w.heap.size w) (Nat.le_refl _) (.cells #[.int .i64 x.a, .int .i64 x.b] 23)) (by simp <;> omega) (.cells #[.int .i64 y.a, .int .i64 y.b] 23)) (by simp <;> omega) (.cells #[.int .i64 0, .int .i64 0] 23)) (by simp <;> omega) (.cells #[.int .i64 0, .int .i64 0] 23)) (by simp <;> omega) (.cells #[.int .i64 0, .int .i64 0] 28)
  obtain ⟨W0, hW0⟩ : ∃ W0, W0 = (((((w.alloc (.cells #[.int .i64 x.a, .int .i64 x.b] 23)).alloc (.cells #[.int .i64 y.a, .int .i64 y.b] 23)).alloc (.cells #[.int .i64 0, .int .i64 0] 23)).alloc (.cells #[.int .i64 0, .int .i64 0] 23)).alloc (.cells #[.int .i64 0, .int .i64 0] 28)) := ⟨_, rfl⟩
  rw [← hW0] at X0 X1 X2 X3 X4 K0 ⊢
  clear hW0
  refine wp_region_G (fun W => Rp (w.heap.size) x W ∧ Rp (w.heap.size + 1) y W) 9 (by kernel_rfl) ⟨⟨X0.c0, X0.c1⟩, X1.c0, X1.c1⟩ (fun hHeld => ?_)
  refine wpAnyG_take (i := 1) (v := ?v1x8) rfl (by kernel_rfl) (fun _ _ _ h => h) (Or.inl ⟨by rfl, ?y1x8⟩) hHeld ?r1x8
  case y1x8 => (intro wS hSw; obtain ⟨⟨s1, s2⟩, s3, s4⟩ := hSw; go_simp; try with_reducible rfl)
  try simp only [Act.put, List.setIfInBounds_toArray, List.set_cons_zero, List.set_cons_succ]
  refine wpAnyG_take (i := 2) (v := ?v2x9) rfl (by kernel_rfl) (fun _ _ _ h => h) (Or.inl ⟨by rfl, ?y2x9⟩) hHeld ?r2x9
  case y2x9 => (intro wS hSw; obtain ⟨⟨s1, s2⟩, s3, s4⟩ := hSw; go_simp; try with_reducible rfl)
  try simp only [Act.put, List.setIfInBounds_toArray, List.set_cons_zero, List.set_cons_succ]
  refine wpAnyG_one (i := 0) rfl (by kernel_rfl) (fun K hK => ?_)
  go_simp
  refine (HNum.out _).mono ?_
  rintro e w1 ⟨rfl, k1⟩
  replace k1 := ((Below.refl _ _).drew).trans k1
  have X0a := X0.below k1
  have X1a := X1.below k1
  have X2a := X2.below k1
  have X3a := X3.below k1
  have X4a := X4.below k1
  have K1 := K0.trans (k1.mono K0.size)
  refine hK.out _ _ ⟨⟨X0a.c0, X0a.c1⟩, X1a.c0, X1a.c1⟩ ?_
  clear hK K
  try simp only [Act.put, List.setIfInBounds_toArray, List.set_cons_zero, List.set_cons_succ]
  refine wpAnyG_one (i := 3) rfl (by kernel_rfl) (fun K hK => ?_)
  go_simp
  refine (HN.out _).mono ?_
  rintro e w2 ⟨rfl, k2⟩
  have X0b := X0a.below k2
  have X1b := X1a.below k2
  have X2b := X2a.below k2
  have X3b := X3a.below k2
  have X4b := X4a.below k2
  have K2 := K1.trans (k2.mono K1.size)
  refine hK.out _ _ ⟨⟨X0b.c0, X0b.c1⟩, X1b.c0, X1b.c1⟩ ?_
  clear hK K
  try simp only [Act.put, List.setIfInBounds_toArray, List.set_cons_zero, List.set_cons_succ]
  clear hHeld
  have hHeld : (fun W => Rp (w.heap.size) x W ∧ Rp (w.heap.size + 1) y W) w2 := ⟨⟨X0b.c0, X0b.c1⟩, X1b.c0, X1b.c1⟩
  refine wpAnyG_take (i := 4) (v := ?v4x10) rfl (by kernel_rfl) (fun _ _ _ h => h) (Or.inl ⟨by rfl, ?y4x10⟩) hHeld ?r4x10
  case y4x10 => (intro wS hSw; obtain ⟨⟨s1, s2⟩, s3, s4⟩ := hSw; go_simp; try with_reducible rfl)
  try simp only [Act.put, List.setIfInBounds_toArray, List.set_cons_zero, List.set_cons_succ]
  refine wpAnyG_take (i := 5) (v := ?v5x11) rfl (by kernel_rfl) (fun _ _ _ h => h) (Or.inl ⟨by rfl, ?y5x11⟩) hHeld ?r5x11
  case y5x11 => (intro wS hSw; obtain ⟨⟨s1, s2⟩, s3, s4⟩ := hSw; go_simp; try with_reducible rfl)
  try simp only [Act.put, List.setIfInBounds_toArray, List.set_cons_zero, List.set_cons_succ]
  refine wpAnyG_take (i := 6) (v := ?v6x12) rfl (by kernel_rfl) (fun _ _ _ h => h) (Or.inl ⟨by rfl, ?y6x12⟩) hHeld ?r6x12
  case y6x12 => (intro wS hSw; obtain ⟨⟨s1, s2⟩, s3, s4⟩ := hSw; go_simp; try with_reducible rfl)
  try simp only [Act.put, List.setIfInBounds_toArray, List.set_cons_zero, List.set_cons_succ]
  have X2b_c0 := X2b.c0
  have X2b_c1 := X2b.c1
  have X2b_f0 := X2b.f0
  have X2b_f1 := X2b.f1
  have X2b_lt := X2b.lt
  have X3b_c0 := X3b.c0
  have X3b_c1 := X3b.c1
  have X3b_f0 := X3b.f0
  have X3b_f1 := X3b.f1
  have X3b_lt := X3b.lt
  have X4b_c0 := X4b.c0
  have X4b_c1 := X4b.c1
  have X4b_f0 := X4b.f0
  have X4b_f1 := X4b.f1
  have X4b_lt := X4b.lt
  refine wpAnyG_one (i := 7) rfl (by kernel_rfl) (fun K hK => ?_)
  go_simp
  have X0s0 := X0b.other (.int .i64 (q.a)) (.int .i64 (q.b)) (show w.heap.size + 1 + 1 ≠ w.heap.size by omega)
  have X1s0 := X1b.other (.int .i64 (q.a)) (.int .i64 (q.b)) (show w.heap.size + 1 + 1 ≠ w.heap.size + 1 by omega)
  have X2s0 := X2b.set (q.a) (q.b)
  have X3s0 := X3b.other (.int .i64 (q.a)) (.int .i64 (q.b)) (show w.heap.size + 1 + 1 ≠ w.heap.size + 1 + 1 + 1 by omega)
  have X4s0 := X4b.other (.int .i64 (q.a)) (.int .i64 (q.b)) (show w.heap.size + 1 + 1 ≠ w.heap.size + 1 + 1 + 1 + 1 by omega)
  have K2s0 := (K2.setCell (p := ⟨w.heap.size + 1 + 1, 0, none⟩) (by show w.heap.size ≤ w.heap.size + 1 + 1; omega) (.int .i64 (q.a))).setCell (p := ⟨w.heap.size + 1 + 1, 1, none⟩) (by show w.heap.size ≤ w.heap.size + 1 + 1; omega) (.int .i64 (q.b))
  refine hK.out _ _ ⟨⟨X0s0.c0, X0s0.c1⟩, X1s0.c0, X1s0.c1⟩ ?_
  clear hK K
  try simp only [Act.put, List.setIfInBounds_toArray, List.set_cons_zero, List.set_cons_succ]
  refine wpAnyG_one (i := 8) rfl (by kernel_rfl) (fun K hK => ?_)
  go_simp
  have X0s1 := X0s0.other (.int .i64 (r.a)) (.int .i64 (r.b)) (show w.heap.size + 1 + 1 + 1 ≠ w.heap.size by omega)
  have X1s1 := X1s0.other (.int .i64 (r.a)) (.int .i64 (r.b)) (show w.heap.size + 1 + 1 + 1 ≠ w.heap.size + 1 by omega)
  have X2s1 := X2s0.other (.int .i64 (r.a)) (.int .i64 (r.b)) (show w.heap.size + 1 + 1 + 1 ≠ w.heap.size + 1 + 1 by omega)
  have X3s1 := X3s0.set (r.a) (r.b)
  have X4s1 := X4s0.other (.int .i64 (r.a)) (.int .i64 (r.b)) (show w.heap.size + 1 + 1 + 1 ≠ w.heap.size + 1 + 1 + 1 + 1 by omega)
  have K2s1 := (K2s0.setCell (p := ⟨w.heap.size + 1 + 1 + 1, 0, none⟩) (by show w.heap.size ≤ w.heap.size + 1 + 1 + 1; omega) (.int .i64 (r.a))).setCell (p := ⟨w.heap.size + 1 + 1 + 1, 1, none⟩) (by show w.heap.size ≤ w.heap.size + 1 + 1 + 1; omega) (.int .i64 (r.b))
  refine hK.out _ _ ⟨⟨X0s1.c0, X0s1.c1⟩, X1s1.c0, X1s1.c1⟩ ?_
  clear hK K
  try simp only [Act.put, List.setIfInBounds_toArray, List.set_cons_zero, List.set_cons_succ]
  refine wpAnyG_last (i := 9) rfl (by kernel_rfl) (by kernel_rfl) (fun K hK => ?_)
  go_simp
  have X0s2 := X0s1.other (.int .i64 (f.1)) (.int .i64 (f.2)) (show w.heap.size + 1 + 1 + 1 + 1 ≠ w.heap.size by omega)
  have X1s2 := X1s1.other (.int .i64 (f.1)) (.int .i64 (f.2)) (show w.heap.size + 1 + 1 + 1 + 1 ≠ w.heap.size + 1 by omega)
  have X2s2 := X2s1.other (.int .i64 (f.1)) (.int .i64 (f.2)) (show w.heap.size + 1 + 1 + 1 + 1 ≠ w.heap.size + 1 + 1 by omega)
  have X3s2 := X3s1.other (.int .i64 (f.1)) (.int .i64 (f.2)) (show w.heap.size + 1 + 1 + 1 + 1 ≠ w.heap.size + 1 + 1 + 1 by omega)
  have X4s2 := X4s1.set (f.1) (f.2)
  have K2s2 := (K2s1.setCell (p := ⟨w.heap.size + 1 + 1 + 1 + 1, 0, none⟩) (by show w.heap.size ≤ w.heap.size + 1 + 1 + 1 + 1; omega) (.int .i64 (f.1))).setCell (p := ⟨w.heap.size + 1 + 1 + 1 + 1, 1, none⟩) (by show w.heap.size ≤ w.heap.size + 1 + 1 + 1 + 1; omega) (.int .i64 (f.2))
  refine hK.out _ _ ?_
  clear hK K
  try simp only [Act.put, List.setIfInBounds_toArray, List.set_cons_zero, List.set_cons_succ]
  refine wpAnyG_done (by kernel_rfl) ?_ _
  clear hHeld X2b_c0 X2b_c1 X2b_f0 X2b_f1 X2b_lt X3b_c0 X3b_c1 X3b_f0 X3b_f1 X3b_lt X4b_c0 X4b_c1 X4b_f0 X4b_f1 X4b_lt
  go_wp2_with fail
  generalize hWF : World.setCell _ _ _ = WF
  rw [hWF] at X2s2
  have E0c0 := X2s2.c0
  have E0c1 := X2s2.c1
  have E0lt := X2s2.lt
  rw [hWF] at X3s2
  have E1c0 := X3s2.c0
  have E1c1 := X3s2.c1
  have E1lt := X3s2.lt
  rw [hWF] at X4s2
  have E2c0 := X4s2.c0
  have E2c1 := X4s2.c1
  have E2lt := X4s2.lt
  rw [hWF] at K2s2
  exact bodyPost_ret (v := .tuple #[pv q, pv r, fv f]) (by simp [results, Tryz.results18, go_sem, E0c0, E0c1, E0lt, E1c0, E1c1, E1lt, E2c0, E2c1, E2lt]) rfl ⟨rfl, K2s2⟩

set_option maxHeartbeats 1000000 in
theorem eGcd_any (x y : Pp) (w : World) :
    Calls Tryz.prog 19 #[pv x, pv y] w (GcdOut (-1) x y w) := by
  have HNum : Hid (∀ w, Calls Tryz.prog 37 #[] w fun e w' => e = .returned ek.v ∧ Below w.heap.size w w') := fun w => ek_numbers w
  have HN : Hid (∀ w, Calls Tryz.prog 41 #[ek.v, pv x, pv y] w (GcdOut (-1) x y w)) := fun w => rGcd_any (-1) ek ek_is x y w (.inr rfl)
  obtain ⟨f, hf⟩ : ∃ f, f = pfl 0 [x, y] := ⟨_, rfl⟩
  have HF : Hid (f = pfl 0 [x, y]) := hf
  clear hf
  go_enter Tryz.func19, Tryz.ntmps19
  go_wp2_with fail
  have X0 := sv_alloc (sv_alloc (sv_alloc (sv_new w 23 (w.heap.size) (by simp) (x.a) (x.b)) (.cells #[.int .i64 y.a, .int .i64 y.b] 23)) (.cells #[.int .i64 0, .int .i64 0] 23)) (.cells #[.int .i64 0, .int .i64 0] 28)
  have X1 := sv_alloc (sv_alloc (sv_new (w.alloc (.cells #[.int .i64 x.a, .int .i64 x.b] 23)) 23 (w.heap.size + 1) (by simp) (y.a) (y.b)) (.cells #[.int .i64 0, .int .i64 0] 23)) (.cells #[.int .i64 0, .int .i64 0] 28)
  have X2 := sv_alloc (sv_new ((w.alloc (.cells #[.int .i64 x.a, .int .i64 x.b] 23)).alloc (.cells #[.int .i64 y.a, .int .i64 y.b] 23)) 23 (w.heap.size + 1 + 1) (by simp) (0) (0)) (.cells #[.int .i64 0, .int .i64 0] 28)
  have X3 := sv_new (((w.alloc (.cells #[.int .i64 x.a, .int .i64 x.b] 23)).alloc (.cells #[.int .i64 y.a, .int .i64 y.b] 23)).alloc (.cells #[.int .i64 0, .int .i64 0] 23)) 28 (w.heap.size + 1 + 1 + 1) (by simp) (0) (0)
  have K0 : Below w.heap.size w ((((w.alloc (.cells #[.int .i64 x.a, .int .i64 x.b] 23)).alloc (.cells #[.int .i64 y.a, .int .i64 y.b] 23)).alloc (.cells #[.int .i64 0, .int .i64 0] 23)).alloc (.cells #[.int .i64 0, .int .i64 0] 28)) := Below.alloc (Below.alloc (Below.alloc (Below.alloc (Below.refl w.heap.size w) (Nat.le_refl _) (.cells #[.int .i64 x.a, .int .i64 x.b] 23)) (by simp <;> omega) (.cells #[.int .i64 y.a, .int .i64 y.b] 23)) (by simp <;> omega) (.cells #[.int .i64 0, .int .i64 0] 23)) (by simp <;> omega) (.cells #[.int .i64 0, .int .i64 0] 28)
  obtain ⟨W0, hW0⟩ : ∃ W0, W0 = ((((w.alloc (.cells #[.int .i64 x.a, .int .i64 x.b] 23)).alloc (.cells #[.int .i64 y.a, .int .i64 y.b] 23)).alloc (.cells #[.int .i64 0, .int .i64 0] 23)).alloc (.cells #[.int .i64 0, .int .i64 0] 28)) := ⟨_, rfl⟩
  rw [← hW0] at X0 X1 X2 X3 K0 ⊢
  clear hW0
  refine wp_region_G (fun W => Rp (w.heap.size) x W ∧ Rp (w.heap.size + 1) y W) 7 (by kernel_rfl) ⟨⟨X0.c0, X0.c1⟩, X1.c0, X1.c1⟩ (fun hHeld => ?_)
  refine wpAnyG_take (i := 1) (v := ?v1x13) rfl (by kernel_rfl) (fun _ _ _ h => h) (Or.inl ⟨by rfl, ?y1x13⟩) hHeld ?r1x13
  case y1x13 => (intro wS hSw; obtain ⟨⟨s1, s2⟩, s3, s4⟩ := hSw; go_simp; try with_reducible rfl)
  try simp only [Act.put, List.setIfInBounds_toArray, List.set_cons_zero, List.set_cons_succ]
  refine wpAnyG_take (i := 2) (v := ?v2x14) rfl (by kernel_rfl) (fun _ _ _ h => h) (Or.inl ⟨by rfl, ?y2x14⟩) hHeld ?r2x14
  case y2x14 => (intro wS hSw; obtain ⟨⟨s1, s2⟩, s3, s4⟩ := hSw; go_simp; try with_reducible rfl)
  try simp only [Act.put, List.setIfInBounds_toArray, List.set_cons_zero, List.set_cons_succ]
  refine wpAnyG_one (i := 0) rfl (by kernel_rfl) (fun K hK => ?_)
  go_simp
  refine (HNum.out _).mono ?_
  rintro e w1 ⟨rfl, k1⟩
  replace k1 := ((Below.refl _ _).drew).trans k1
  have X0a := X0.below k1
  have X1a := X1.below k1
  have X2a := X2.below k1
  have X3a := X3.below k1
  have K1 := K0.trans (k1.mono K0.size)
  refine hK.out _ _ ⟨⟨X0a.c0, X0a.c1⟩, X1a.c0, X1a.c1⟩ ?_
  clear hK K
  try simp only [Act.put, List.setIfInBounds_toArray, List.set_cons_zero, List.set_cons_succ]
  refine wpAnyG_one (i := 3) rfl (by kernel_rfl) (fun K hK => ?_)
  go_simp
  refine (HN.out _).mono ?_
  rintro e w2 ⟨⟨p, rfl, hg⟩, k2⟩
  rw [← HF.out]
  have HG : Hid ((pfl 0 [x, y] ≠ (0, 0) → p = Pp.zero) ∧ (pfl 0 [x, y] = (0, 0) → Gd (-1) x y p ∧ (IsCh (-1) p ∨ p = Pp.zero))) := hg
  clear hg
  have X0b := X0a.below k2
  have X1b := X1a.below k2
  have X2b := X2a.below k2
  have X3b := X3a.below k2
  have K2 := K1.trans (k2.mono K1.size)
  refine hK.out _ _ ⟨⟨X0b.c0, X0b.c1⟩, X1b.c0, X1b.c1⟩ ?_
  clear hK K
  try simp only [Act.put, List.setIfInBounds_toArray, List.set_cons_zero, List.set_cons_succ]
  clear hHeld
  have hHeld : (fun W => Rp (w.heap.size) x W ∧ Rp (w.heap.size + 1) y W) w2 := ⟨⟨X0b.c0, X0b.c1⟩, X1b.c0, X1b.c1⟩
  refine wpAnyG_take (i := 4) (v := ?v4x15) rfl (by kernel_rfl) (fun _ _ _ h => h) (Or.inl ⟨by rfl, ?y4x15⟩) hHeld ?r4x15
  case y4x15 => (intro wS hSw; obtain ⟨⟨s1, s2⟩, s3, s4⟩ := hSw; go_simp; try with_reducible rfl)
  try simp only [Act.put, List.setIfInBounds_toArray, List.set_cons_zero, List.set_cons_succ]
  refine wpAnyG_take (i := 5) (v := ?v5x16) rfl (by kernel_rfl) (fun _ _ _ h => h) (Or.inl ⟨by rfl, ?y5x16⟩) hHeld ?r5x16
  case y5x16 => (intro wS hSw; obtain ⟨⟨s1, s2⟩, s3, s4⟩ := hSw; go_simp; try with_reducible rfl)
  try simp only [Act.put, List.setIfInBounds_toArray, List.set_cons_zero, List.set_cons_succ]
  have X2b_c0 := X2b.c0
  have X2b_c1 := X2b.c1
  have X2b_f0 := X2b.f0
  have X2b_f1 := X2b.f1
  have X2b_lt := X2b.lt
  have X3b_c0 := X3b.c0
  have X3b_c1 := X3b.c1
  have X3b_f0 := X3b.f0
  have X3b_f1 := X3b.f1
  have X3b_lt := X3b.lt
  refine wpAnyG_one (i := 6) rfl (by kernel_rfl) (fun K hK => ?_)
  go_simp
  have X0s0 := X0b.other (.int .i64 (p.a)) (.int .i64 (p.b)) (show w.heap.size + 1 + 1 ≠ w.heap.size by omega)
  have X1s0 := X1b.other (.int .i64 (p.a)) (.int .i64 (p.b)) (show w.heap.size + 1 + 1 ≠ w.heap.size + 1 by omega)
  have X2s0 := X2b.set (p.a) (p.b)
  have X3s0 := X3b.other (.int .i64 (p.a)) (.int .i64 (p.b)) (show w.heap.size + 1 + 1 ≠ w.heap.size + 1 + 1 + 1 by omega)
  have K2s0 := (K2.setCell (p := ⟨w.heap.size + 1 + 1, 0, none⟩) (by show w.heap.size ≤ w.heap.size + 1 + 1; omega) (.int .i64 (p.a))).setCell (p := ⟨w.heap.size + 1 + 1, 1, none⟩) (by show w.heap.size ≤ w.heap.size + 1 + 1; omega) (.int .i64 (p.b))
  refine hK.out _ _ ⟨⟨X0s0.c0, X0s0.c1⟩, X1s0.c0, X1s0.c1⟩ ?_
  clear hK K
  try simp only [Act.put, List.setIfInBounds_toArray, List.set_cons_zero, List.set_cons_succ]
  refine wpAnyG_last (i := 7) rfl (by kernel_rfl) (by kernel_rfl) (fun K hK => ?_)
  go_simp
  have X0s1 := X0s0.other (.int .i64 (f.1)) (.int .i64 (f.2)) (show w.heap.size + 1 + 1 + 1 ≠ w.heap.size by omega)
  have X1s1 := X1s0.other (.int .i64 (f.1)) (.int .i64 (f.2)) (show w.heap.size + 1 + 1 + 1 ≠ w.heap.size + 1 by omega)
  have X2s1 := X2s0.other (.int .i64 (f.1)) (.int .i64 (f.2)) (show w.heap.size + 1 + 1 + 1 ≠ w.heap.size + 1 + 1 by omega)
  have X3s1 := X3s0.set (f.1) (f.2)
  have K2s1 := (K2s0.setCell (p := ⟨w.heap.size + 1 + 1 + 1, 0, none⟩) (by show w.heap.size ≤ w.heap.size + 1 + 1 + 1; omega) (.int .i64 (f.1))).setCell (p := ⟨w.heap.size + 1 + 1 + 1, 1, none⟩) (by show w.heap.size ≤ w.heap.size + 1 + 1 + 1; omega) (.int .i64 (f.2))
  refine hK.out _ _ ?_
  clear hK K
  try simp only [Act.put, List.setIfInBounds_toArray, List.set_cons_zero, List.set_cons_succ]
  refine wpAnyG_done (by kernel_rfl) ?_ _
  clear hHeld X2b_c0 X2b_c1 X2b_f0 X2b_f1 X2b_lt X3b_c0 X3b_c1 X3b_f0 X3b_f1 X3b_lt
  go_wp2_with fail
  generalize hWF : World.setCell _ _ _ = WF
  rw [hWF] at X2s1
  have E0c0 := X2s1.c0
  have E0c1 := X2s1.c1
  have E0lt := X2s1.lt
  rw [hWF] at X3s1
  have E1c0 := X3s1.c0
  have E1c1 := X3s1.c1
  have E1lt := X3s1.lt
  rw [hWF] at K2s1
  exact bodyPost_ret (v := .tuple #[pv p, fv f]) (by simp [results, Tryz.results19, go_sem, E0c0, E0c1, E0lt, E1c0, E1c1, E1lt]) rfl ⟨⟨p, by rw [HF.out], HG.out⟩, K2s1⟩

end Go.Proofs.YtogdggdaaiajnadGreatDoor
