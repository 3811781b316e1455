/- The program: cont.nearer. -/
import Derived.Test.YtfbgblidlabipaaGreatDoorJoinI
import Derived.Test.YtfbgblidlabipaaGreatDoorJoinD
set_option linter.unusedSimpArgs false
set_option linter.unusedVariables false
set_option maxRecDepth 100000
namespace Go.Proofs.YtfbgblidlabipaaGreatDoor
open Go.RowKit

/-- The cells of two approaches. -/
abbrev S6 (b : Nat) (u d g u' d' g' : Int) (W : World) : Prop :=
  W.cell? ⟨b, 0, none⟩ = some (.int .i64 u) ∧ W.cell? ⟨b, 1, none⟩ = some (.int .i64 d) ∧ W.cell? ⟨b, 2, none⟩ = some (.int .i64 g) ∧
  W.cell? ⟨b + 1, 0, none⟩ = some (.int .i64 u') ∧ W.cell? ⟨b + 1, 1, none⟩ = some (.int .i64 d') ∧ W.cell? ⟨b + 1, 2, none⟩ = some (.int .i64 g')

theorem iw_id {x : Int} (h1 : -9223372036854775808 ≤ x) (h2 : x ≤ 9223372036854775807) : IntKind.i64.wrap x = x := by rw [IntKind.wrap_i64]; omega
theorem max_abs {g : Int} (h : g.natAbs ≤ 1000000000000000000) : max g (IntKind.i64.wrap (-g)) = (g.natAbs : Int) := by
  rw [iw_id (by omega) (by omega)]; omega

set_option maxHeartbeats 4000000 in
theorem nearer_any (u d g u' d' g' : Int) (w : World) (hg : g.natAbs ≤ 1000000000000000000) (hg' : g'.natAbs ≤ 1000000000000000000) (hd : 0 ≤ d ∧ d ≤ 1000000000000000000) (hd' : 0 ≤ d' ∧ d' ≤ 1000000000000000000)
    (h1 : (g.natAbs : Int) * d' ≤ 1000000000000000000) (h2 : (g'.natAbs : Int) * d ≤ 1000000000000000000) :
    Calls Tryz.prog 123 #[apv u d g, apv u' d' g'] w fun e w' => e = .returned (if orL [cmpZ ((g.natAbs : Int) * d') ((g'.natAbs : Int) * d), cmpZ d d', cmpZ u u'] < 0 then apv u d g else apv u' d' g') ∧ Below w.heap.size w w' := by
  obtain ⟨A, hA⟩ : ∃ A, (g.natAbs : Int) * d' = A := ⟨_, rfl⟩
  obtain ⟨B, hB⟩ : ∃ B, (g'.natAbs : Int) * d = B := ⟨_, rfl⟩
  have hA0 : 0 ≤ A := by rw [← hA]; exact Int.mul_nonneg (by omega) hd'.1
  have hB0 : 0 ≤ B := by rw [← hB]; exact Int.mul_nonneg (by omega) hd.1
  rw [hA] at h1 ⊢
  rw [hB] at h2 ⊢
  have HAw : Hid (IntKind.i64.wrap ((g.natAbs : Int) * d') = A) := by show _ = _; rw [hA]; exact iw_id (by omega) (by omega)
  have HBw : Hid (IntKind.i64.wrap ((g'.natAbs : Int) * d) = B) := by show _ = _; rw [hB]; exact iw_id (by omega) (by omega)
  obtain ⟨C1, hC1⟩ : ∃ C, cmpZ A B = C := ⟨_, rfl⟩
  obtain ⟨C2, hC2⟩ : ∃ C, cmpZ d d' = C := ⟨_, rfl⟩
  obtain ⟨C3, hC3⟩ : ∃ C, cmpZ u u' = C := ⟨_, rfl⟩
  have HC1 : Hid (∀ w, Calls Tryz.prog 177 #[.int .i64 A, .int .i64 B] w fun e w' => e = .returned (.int .i64 C1) ∧ w' = w) := fun w => by rw [← hC1]; exact CompareZ _ _ w
  have HC2 : Hid (∀ w, Calls Tryz.prog 177 #[.int .i64 d, .int .i64 d'] w fun e w' => e = .returned (.int .i64 C2) ∧ w' = w) := fun w => by rw [← hC2]; exact CompareZ _ _ w
  have HC3 : Hid (∀ w, Calls Tryz.prog 177 #[.int .i64 u, .int .i64 u'] w fun e w' => e = .returned (.int .i64 C3) ∧ w' = w) := fun w => by rw [← hC3]; exact CompareZ _ _ w
  rw [hC1, hC2, hC3]
  obtain ⟨O, hO⟩ : ∃ O, orL [C1, C2, C3] = O := ⟨_, rfl⟩
  have HO : Hid (∀ b w, b < w.heap.size → Cl b [.int .i64 C1, .int .i64 C2, .int .i64 C3] 3 w → Calls Tryz.prog 176 #[.slice (some ⟨b, 0, none⟩) 3 3] w fun e w' => e = .returned (.int .i64 O) ∧ w' = w) := fun b w hb hc => by
    rw [← hO]
    refine Or_row [C1, C2, C3] b 3 w rfl (by omega) hb (fun j hj => ?_)
    rw [hc.cell]
    match j, hj with
    | 0, _ => rfl
    | 1, _ => rfl
    | 2, _ => rfl
  rw [hO]
  have HGm : Hid (max g (IntKind.i64.wrap (-g)) = (g.natAbs : Int)) := max_abs hg
  have HGm' : Hid (max g' (IntKind.i64.wrap (-g')) = (g'.natAbs : Int)) := max_abs hg'
  clear hA hB hC1 hC2 hC3 hO h1 h2 hg hg' hd hd' hA0 hB0
  unfold apv
  go_enter Tryz.func123, Tryz.ntmps123
  go_wp2_with fail
  obtain ⟨W1, hW1⟩ : ∃ W1, W1 = ((w.alloc (.cells #[.int .i64 u, .int .i64 d, .int .i64 g] 97)).alloc (.cells #[.int .i64 u', .int .i64 d', .int .i64 g'] 97)).alloc (.cells #[.int .i64 0, .int .i64 0, .int .i64 0] 97) := ⟨_, rfl⟩
  have c1 : Cl w.heap.size [.int .i64 u, .int .i64 d, .int .i64 g] 97 W1 := by rw [hW1]; exact ((Cl.new [.int .i64 u, .int .i64 d, .int .i64 g] _ w).alloc _).alloc _
  have c2 : Cl (w.heap.size + 1) [.int .i64 u', .int .i64 d', .int .i64 g'] 97 W1 := by
    rw [hW1]
    have := (Cl.new [.int .i64 u', .int .i64 d', .int .i64 g'] 97 (w.alloc (.cells #[.int .i64 u, .int .i64 d, .int .i64 g] 97))).alloc (.cells #[.int .i64 0, .int .i64 0, .int .i64 0] 97)
    rw [World.size_alloc] at this; exact this
  have c3 : Cl (w.heap.size + 2) [.int .i64 0, .int .i64 0, .int .i64 0] 97 W1 := by
    rw [hW1]
    have := Cl.new [.int .i64 0, .int .i64 0, .int .i64 0] 97 ((w.alloc (.cells #[.int .i64 u, .int .i64 d, .int .i64 g] 97)).alloc (.cells #[.int .i64 u', .int .i64 d', .int .i64 g'] 97))
    rw [World.size_alloc, World.size_alloc] at this; exact this
  have S1 : S6 w.heap.size u d g u' d' g' W1 := ⟨c1.cell 0, c1.cell 1, c1.cell 2, c2.cell 0, c2.cell 1, c2.cell 2⟩
  have HW : Hid (Cl w.heap.size [.int .i64 u, .int .i64 d, .int .i64 g] 97 W1 ∧ Cl (w.heap.size + 1) [.int .i64 u', .int .i64 d', .int .i64 g'] 97 W1 ∧ Cl (w.heap.size + 2) [.int .i64 0, .int .i64 0, .int .i64 0] 97 W1 ∧ Below w.heap.size w W1) := by
    refine ⟨c1, c2, c3, ?_⟩
    rw [hW1]; exact (((Below.refl _ _).alloc (Nat.le_refl _) _).alloc (by simp) _).alloc (by simp; omega) _
  rw [← hW1]
  clear hW1 c1 c2 c3
  refine wp_region_G (S6 w.heap.size u d g u' d' g') 31 (by kernel_rfl) S1 (fun hHeld => ?_)
  refine wpAnyG_take (i := 0) (v := ?v0x1) rfl (by kernel_rfl) (fun _ _ _ h => h) (Or.inl ⟨by rfl, ?y0x1⟩) hHeld ?r0x1
  case y0x1 => (intro wS hSw; obtain ⟨s1, s2, s3, s4, s5, s6⟩ := hSw; go_simp; try with_reducible rfl)
  try simp only [Act.put, List.setIfInBounds_toArray, List.set_cons_zero, List.set_cons_succ]
  refine wpAnyG_take (i := 1) (v := ?v1x2) rfl (by kernel_rfl) (fun _ _ _ h => h) (Or.inl ⟨by rfl, ?y1x2⟩) hHeld ?r1x2
  case y1x2 => (intro wS hSw; obtain ⟨s1, s2, s3, s4, s5, s6⟩ := hSw; go_simp; try with_reducible rfl)
  try simp only [Act.put, List.setIfInBounds_toArray, List.set_cons_zero, List.set_cons_succ]
  refine wpAnyG_take (i := 2) (v := ?v2x3) rfl (by kernel_rfl) (fun _ _ _ h => h) (Or.inl ⟨by rfl, ?y2x3⟩) hHeld ?r2x3
  case y2x3 => (intro wS hSw; obtain ⟨s1, s2, s3, s4, s5, s6⟩ := hSw; go_simp; try with_reducible rfl)
  try simp only [Act.put, List.setIfInBounds_toArray, List.set_cons_zero, List.set_cons_succ]
  refine wpAnyG_take (i := 3) (v := ?v3x4) rfl (by kernel_rfl) (fun _ _ _ h => h) (Or.inl ⟨by rfl, ?y3x4⟩) hHeld ?r3x4
  case y3x4 => (intro wS hSw; obtain ⟨s1, s2, s3, s4, s5, s6⟩ := hSw; go_simp; try with_reducible rfl)
  try simp only [Act.put, List.setIfInBounds_toArray, List.set_cons_zero, List.set_cons_succ]
  refine wpAnyG_take (i := 4) (v := ?v4x5) rfl (by kernel_rfl) (fun _ _ _ h => h) (Or.inl ⟨by rfl, ?y4x5⟩) hHeld ?r4x5
  case y4x5 => (intro wS hSw; obtain ⟨s1, s2, s3, s4, s5, s6⟩ := hSw; go_simp; try with_reducible rfl)
  try simp only [Act.put, List.setIfInBounds_toArray, List.set_cons_zero, List.set_cons_succ]
  refine wpAnyG_take (i := 6) (v := ?v6x6) rfl (by kernel_rfl) (fun _ _ _ h => h) (Or.inl ⟨by rfl, ?y6x6⟩) hHeld ?r6x6
  case y6x6 => (intro wS hSw; obtain ⟨s1, s2, s3, s4, s5, s6⟩ := hSw; go_simp; try with_reducible rfl)
  try simp only [Act.put, List.setIfInBounds_toArray, List.set_cons_zero, List.set_cons_succ]
  refine wpAnyG_take (i := 7) (v := ?v7x7) rfl (by kernel_rfl) (fun _ _ _ h => h) (Or.inl ⟨by rfl, ?y7x7⟩) hHeld ?r7x7
  case y7x7 => (intro wS hSw; obtain ⟨s1, s2, s3, s4, s5, s6⟩ := hSw; go_simp; try with_reducible rfl)
  try simp only [Act.put, List.setIfInBounds_toArray, List.set_cons_zero, List.set_cons_succ]
  refine wpAnyG_take (i := 9) (v := ?v9x8) rfl (by kernel_rfl) (fun _ _ _ h => h) (Or.inl ⟨by rfl, ?y9x8⟩) hHeld ?r9x8
  case y9x8 => (intro wS hSw; obtain ⟨s1, s2, s3, s4, s5, s6⟩ := hSw; go_simp; try with_reducible rfl)
  try simp only [Act.put, List.setIfInBounds_toArray, List.set_cons_zero, List.set_cons_succ]
  refine wpAnyG_take (i := 10) (v := ?v10x9) rfl (by kernel_rfl) (fun _ _ _ h => h) (Or.inl ⟨by rfl, ?y10x9⟩) hHeld ?r10x9
  case y10x9 => (intro wS hSw; obtain ⟨s1, s2, s3, s4, s5, s6⟩ := hSw; go_simp; try with_reducible rfl)
  try simp only [Act.put, List.setIfInBounds_toArray, List.set_cons_zero, List.set_cons_succ]
  refine wpAnyG_take (i := 11) (v := ?v11x10) rfl (by kernel_rfl) (fun _ _ _ h => h) (Or.inl ⟨by rfl, ?y11x10⟩) hHeld ?r11x10
  case y11x10 => (intro wS hSw; obtain ⟨s1, s2, s3, s4, s5, s6⟩ := hSw; go_simp; try with_reducible rfl)
  try simp only [Act.put, List.setIfInBounds_toArray, List.set_cons_zero, List.set_cons_succ]
  refine wpAnyG_take (i := 12) (v := ?v12x11) rfl (by kernel_rfl) (fun _ _ _ h => h) (Or.inl ⟨by rfl, ?y12x11⟩) hHeld ?r12x11
  case y12x11 => (intro wS hSw; obtain ⟨s1, s2, s3, s4, s5, s6⟩ := hSw; go_simp; try with_reducible rfl)
  try simp only [Act.put, List.setIfInBounds_toArray, List.set_cons_zero, List.set_cons_succ]
  refine wpAnyG_take (i := 13) (v := ?v13x12) rfl (by kernel_rfl) (fun _ _ _ h => h) (Or.inl ⟨by rfl, ?y13x12⟩) hHeld ?r13x12
  case y13x12 => (intro wS hSw; obtain ⟨s1, s2, s3, s4, s5, s6⟩ := hSw; go_simp; try with_reducible rfl)
  try simp only [Act.put, List.setIfInBounds_toArray, List.set_cons_zero, List.set_cons_succ]
  refine wpAnyG_take (i := 15) (v := ?v15x13) rfl (by kernel_rfl) (fun _ _ _ h => h) (Or.inl ⟨by rfl, ?y15x13⟩) hHeld ?r15x13
  case y15x13 => (intro wS hSw; obtain ⟨s1, s2, s3, s4, s5, s6⟩ := hSw; go_simp; try with_reducible rfl)
  try simp only [Act.put, List.setIfInBounds_toArray, List.set_cons_zero, List.set_cons_succ]
  refine wpAnyG_take (i := 16) (v := ?v16x14) rfl (by kernel_rfl) (fun _ _ _ h => h) (Or.inl ⟨by rfl, ?y16x14⟩) hHeld ?r16x14
  case y16x14 => (intro wS hSw; obtain ⟨s1, s2, s3, s4, s5, s6⟩ := hSw; go_simp; try with_reducible rfl)
  try simp only [Act.put, List.setIfInBounds_toArray, List.set_cons_zero, List.set_cons_succ]
  refine wpAnyG_take (i := 19) (v := ?v19x15) rfl (by kernel_rfl) (fun _ _ _ h => h) (Or.inl ⟨by rfl, ?y19x15⟩) hHeld ?r19x15
  case y19x15 => (intro wS hSw; obtain ⟨s1, s2, s3, s4, s5, s6⟩ := hSw; go_simp; try with_reducible rfl)
  try simp only [Act.put, List.setIfInBounds_toArray, List.set_cons_zero, List.set_cons_succ]
  refine wpAnyG_take (i := 20) (v := ?v20x16) rfl (by kernel_rfl) (fun _ _ _ h => h) (Or.inl ⟨by rfl, ?y20x16⟩) hHeld ?r20x16
  case y20x16 => (intro wS hSw; obtain ⟨s1, s2, s3, s4, s5, s6⟩ := hSw; go_simp; try with_reducible rfl)
  try simp only [Act.put, List.setIfInBounds_toArray, List.set_cons_zero, List.set_cons_succ]
  refine wpAnyG_take (i := 21) (v := ?v21x17) rfl (by kernel_rfl) (fun _ _ _ h => h) (Or.inl ⟨by rfl, ?y21x17⟩) hHeld ?r21x17
  case y21x17 => (intro wS hSw; obtain ⟨s1, s2, s3, s4, s5, s6⟩ := hSw; go_simp; try with_reducible rfl)
  try simp only [Act.put, List.setIfInBounds_toArray, List.set_cons_zero, List.set_cons_succ]
  refine wpAnyG_take (i := 22) (v := ?v22x18) rfl (by kernel_rfl) (fun _ _ _ h => h) (Or.inl ⟨by rfl, ?y22x18⟩) hHeld ?r22x18
  case y22x18 => (intro wS hSw; obtain ⟨s1, s2, s3, s4, s5, s6⟩ := hSw; go_simp; try with_reducible rfl)
  try simp only [Act.put, List.setIfInBounds_toArray, List.set_cons_zero, List.set_cons_succ]
  refine wpAnyG_take (i := 24) (v := ?v24x19) rfl (by kernel_rfl) (fun _ _ _ h => h) (Or.inl ⟨by rfl, ?y24x19⟩) hHeld ?r24x19
  case y24x19 => (intro wS hSw; obtain ⟨s1, s2, s3, s4, s5, s6⟩ := hSw; go_simp; try with_reducible rfl)
  try simp only [Act.put, List.setIfInBounds_toArray, List.set_cons_zero, List.set_cons_succ]
  refine wpAnyG_take (i := 25) (v := ?v25x20) rfl (by kernel_rfl) (fun _ _ _ h => h) (Or.inl ⟨by rfl, ?y25x20⟩) hHeld ?r25x20
  case y25x20 => (intro wS hSw; obtain ⟨s1, s2, s3, s4, s5, s6⟩ := hSw; go_simp; try with_reducible rfl)
  try simp only [Act.put, List.setIfInBounds_toArray, List.set_cons_zero, List.set_cons_succ]
  refine wpAnyG_take (i := 26) (v := ?v26x21) rfl (by kernel_rfl) (fun _ _ _ h => h) (Or.inl ⟨by rfl, ?y26x21⟩) hHeld ?r26x21
  case y26x21 => (intro wS hSw; obtain ⟨s1, s2, s3, s4, s5, s6⟩ := hSw; go_simp; try with_reducible rfl)
  try simp only [Act.put, List.setIfInBounds_toArray, List.set_cons_zero, List.set_cons_succ]
  refine wpAnyG_take (i := 27) (v := ?v27x22) rfl (by kernel_rfl) (fun _ _ _ h => h) (Or.inl ⟨by rfl, ?y27x22⟩) hHeld ?r27x22
  case y27x22 => (intro wS hSw; obtain ⟨s1, s2, s3, s4, s5, s6⟩ := hSw; go_simp; try with_reducible rfl)
  try simp only [Act.put, List.setIfInBounds_toArray, List.set_cons_zero, List.set_cons_succ]
  refine wpAnyG_take (i := 5) (v := .int .i64 (g.natAbs : Int)) rfl (by kernel_rfl) (fun _ _ _ h => h) (Or.inl ⟨by kernel_rfl, ?y5x23⟩) hHeld ?r5x23
  case y5x23 => (intro wS hSw; obtain ⟨s1, s2, s3, s4, s5, s6⟩ := hSw; go_simp; exact HGm.out)
  try simp only [Act.put, List.setIfInBounds_toArray, List.set_cons_zero, List.set_cons_succ]
  refine wpAnyG_take (i := 14) (v := .int .i64 (g'.natAbs : Int)) rfl (by kernel_rfl) (fun _ _ _ h => h) (Or.inl ⟨by kernel_rfl, ?y14x24⟩) hHeld ?r14x24
  case y14x24 => (intro wS hSw; obtain ⟨s1, s2, s3, s4, s5, s6⟩ := hSw; go_simp; exact HGm'.out)
  try simp only [Act.put, List.setIfInBounds_toArray, List.set_cons_zero, List.set_cons_succ]
  refine wpAnyG_take (i := 8) (v := .int .i64 A) rfl (by kernel_rfl) (fun _ _ _ h => h) (Or.inl ⟨by kernel_rfl, ?y8x25⟩) hHeld ?r8x25
  case y8x25 => (intro wS hSw; obtain ⟨s1, s2, s3, s4, s5, s6⟩ := hSw; go_simp; exact HAw.out)
  try simp only [Act.put, List.setIfInBounds_toArray, List.set_cons_zero, List.set_cons_succ]
  refine wpAnyG_take (i := 17) (v := .int .i64 B) rfl (by kernel_rfl) (fun _ _ _ h => h) (Or.inl ⟨by kernel_rfl, ?y17x26⟩) hHeld ?r17x26
  case y17x26 => (intro wS hSw; obtain ⟨s1, s2, s3, s4, s5, s6⟩ := hSw; go_simp; exact HBw.out)
  try simp only [Act.put, List.setIfInBounds_toArray, List.set_cons_zero, List.set_cons_succ]
  refine wpAnyG_one (i := 18) rfl (by kernel_rfl) (fun K hK => ?_)
  go_simp
  refine (HC1.out _).mono ?_
  rintro e ua ⟨rfl, hua⟩
  rw [hua]
  clear hua ua
  refine hK.out _ _ hHeld ?_
  clear hK K
  try simp only [Act.put, List.setIfInBounds_toArray, List.set_cons_zero, List.set_cons_succ]
  refine wpAnyG_one (i := 23) rfl (by kernel_rfl) (fun K hK => ?_)
  go_simp
  refine (HC2.out _).mono ?_
  rintro e ua ⟨rfl, hua⟩
  rw [hua]
  clear hua ua
  refine hK.out _ _ hHeld ?_
  clear hK K
  try simp only [Act.put, List.setIfInBounds_toArray, List.set_cons_zero, List.set_cons_succ]
  refine wpAnyG_one (i := 28) rfl (by kernel_rfl) (fun K hK => ?_)
  go_simp
  refine (HC3.out _).mono ?_
  rintro e ua ⟨rfl, hua⟩
  rw [hua]
  clear hua ua
  refine hK.out _ _ hHeld ?_
  clear hK K
  try simp only [Act.put, List.setIfInBounds_toArray, List.set_cons_zero, List.set_cons_succ]
  refine wpAnyG_one (i := 29) rfl (by kernel_rfl) (fun K hK => ?_)
  go_simp
  obtain ⟨W2, hW2⟩ : ∃ W2, W2 = (W1.alloc (.cells #[.int .i64 C1, .int .i64 C2, .int .i64 C3] 3)).drew := ⟨_, rfl⟩
  have c9 : Cl W1.heap.size [.int .i64 C1, .int .i64 C2, .int .i64 C3] 3 W2 := by rw [hW2]; exact (Cl.new [.int .i64 C1, .int .i64 C2, .int .i64 C3] _ W1).drew
  have k2 : Below W1.heap.size W1 W2 := by rw [hW2]; exact ((Below.refl _ _).alloc (Nat.le_refl _) _).drew
  have HW2 : Hid (Cl w.heap.size [.int .i64 u, .int .i64 d, .int .i64 g] 97 W2 ∧ Cl (w.heap.size + 1) [.int .i64 u', .int .i64 d', .int .i64 g'] 97 W2 ∧ Cl (w.heap.size + 2) [.int .i64 0, .int .i64 0, .int .i64 0] 97 W2 ∧ Below w.heap.size w W2) := ⟨HW.out.1.below k2, HW.out.2.1.below k2, HW.out.2.2.1.below k2, HW.out.2.2.2.trans (k2.mono HW.out.2.2.2.size)⟩
  have S2 : S6 w.heap.size u d g u' d' g' W2 := ⟨HW2.out.1.cell 0, HW2.out.1.cell 1, HW2.out.1.cell 2, HW2.out.2.1.cell 0, HW2.out.2.1.cell 1, HW2.out.2.1.cell 2⟩
  rw [← hW2]
  refine hK.out _ _ S2 ?_
  clear hK K
  try simp only [Act.put, List.setIfInBounds_toArray, List.set_cons_zero, List.set_cons_succ]
  clear hHeld hW2 k2 S1
  have hHeld : S6 w.heap.size u d g u' d' g' W2 := S2
  refine wpAnyG_one (i := 30) rfl (by kernel_rfl) (fun K hK => ?_)
  go_simp
  refine (HO.out _ _ c9.lt c9).mono ?_
  rintro e ua ⟨rfl, hua⟩
  rw [hua]
  clear hua ua
  refine hK.out _ _ hHeld ?_
  clear hK K
  try simp only [Act.put, List.setIfInBounds_toArray, List.set_cons_zero, List.set_cons_succ]
  refine wpAnyG_last (i := 31) rfl (by kernel_rfl) (by kernel_rfl) (fun K hK => ?_)
  go_simp
  refine hK.out _ _ ?_
  clear hK K
  try simp only [Act.put, List.setIfInBounds_toArray, List.set_cons_zero, List.set_cons_succ]
  refine wpAnyG_done (by kernel_rfl) ?_ _
  obtain ⟨s1, s2, s3, s4, s5, s6⟩ := S2
  have z1 := HW2.out.2.2.1.cell 0
  have z2 := HW2.out.2.2.1.cell 1
  have z3 := HW2.out.2.2.1.cell 2
  have z4 := HW2.out.2.2.1.frozen 0
  have z5 := HW2.out.2.2.1.frozen 1
  have z6 := HW2.out.2.2.1.frozen 2
  simp only [List.getElem?_cons_zero, List.getElem?_cons_succ] at z1 z2 z3
  clear hHeld c9
  have K3 : ∀ a b c : Value, Below w.heap.size w (((W2.setCell ⟨w.heap.size + 2, 0, none⟩ a).setCell ⟨w.heap.size + 2, 1, none⟩ b).setCell ⟨w.heap.size + 2, 2, none⟩ c) := fun a b c => ((HW2.out.2.2.2.setCell (by simp) _).setCell (by simp) _).setCell (by simp) _
  have CE : ∀ a b c : Value, Cl (w.heap.size + 2) [a, b, c] 97 (((W2.setCell ⟨w.heap.size + 2, 0, none⟩ a).setCell ⟨w.heap.size + 2, 1, none⟩ b).setCell ⟨w.heap.size + 2, 2, none⟩ c) := fun a b c => ((HW2.out.2.2.1.set 0 a).set 1 b).set 2 c
  have HKE : Hid ((∀ a b c : Value, Below w.heap.size w (((W2.setCell ⟨w.heap.size + 2, 0, none⟩ a).setCell ⟨w.heap.size + 2, 1, none⟩ b).setCell ⟨w.heap.size + 2, 2, none⟩ c)) ∧ ∀ a b c : Value, Cl (w.heap.size + 2) [a, b, c] 97 (((W2.setCell ⟨w.heap.size + 2, 0, none⟩ a).setCell ⟨w.heap.size + 2, 1, none⟩ b).setCell ⟨w.heap.size + 2, 2, none⟩ c)) := ⟨K3, CE⟩
  clear K3 CE
  by_cases hO : O < 0
  · have HOO : Hid (O < 0) := hO
    go_wp2
    have r := HKE.out.2 (.int .i64 u) (.int .i64 d) (.int .i64 g)
    have k := HKE.out.1 (.int .i64 u) (.int .i64 d) (.int .i64 g)
    generalize ((W2.setCell ⟨w.heap.size + 2, 0, none⟩ (.int .i64 u)).setCell ⟨w.heap.size + 2, 1, none⟩ (.int .i64 d)).setCell ⟨w.heap.size + 2, 2, none⟩ (.int .i64 g) = WF at *
    have r1 := r.cell 0
    have r2 := r.cell 1
    have r3 := r.cell 2
    simp only [List.getElem?_cons_zero, List.getElem?_cons_succ] at r1 r2 r3
    exact bodyPost_ret (v := .agg #[.int .i64 u, .int .i64 d, .int .i64 g]) (by simp [results, Tryz.results123, go_sem, r1, r2, r3]) rfl ⟨by first | rfl | (rw [if_pos (by omega)]), k⟩
  · have HOO : Hid (¬ O < 0) := hO
    go_wp2
    have r := HKE.out.2 (.int .i64 u') (.int .i64 d') (.int .i64 g')
    have k := HKE.out.1 (.int .i64 u') (.int .i64 d') (.int .i64 g')
    generalize ((W2.setCell ⟨w.heap.size + 2, 0, none⟩ (.int .i64 u')).setCell ⟨w.heap.size + 2, 1, none⟩ (.int .i64 d')).setCell ⟨w.heap.size + 2, 2, none⟩ (.int .i64 g') = WF at *
    have r1 := r.cell 0
    have r2 := r.cell 1
    have r3 := r.cell 2
    simp only [List.getElem?_cons_zero, List.getElem?_cons_succ] at r1 r2 r3
    exact bodyPost_ret (v := .agg #[.int .i64 u', .int .i64 d', .int .i64 g']) (by simp [results, Tryz.results123, go_sem, r1, r2, r3]) rfl ⟨by first | rfl | (rw [if_neg (by omega)]), k⟩

end Go.Proofs.YtfbgblidlabipaaGreatDoor
