/- The reference's GenusOf: the walk. -/
import Derived.Test.YtijkanilpblogaeQfVd
import Derived.Test.YtijkanilpblogaeWholeF
set_option linter.unusedSimpArgs false
set_option linter.unusedVariables false
set_option maxRecDepth 100000
namespace Go.Proofs.Ytijkanilpblogae
open Go.RowKit

abbrev S3g (f : Qf) (b : Nat) (W : World) : Prop := W.cell? ⟨b, 0, none⟩ = some (.int .i64 f.a) ∧ W.cell? ⟨b, 1, none⟩ = some (.int .i64 f.b) ∧ W.cell? ⟨b, 2, none⟩ = some (.int .i64 f.c)
theorem s3g_of {f : Qf} {w W : World} {e : Nat × List Value × TypeId} (h : Ms [e, (w.heap.size, f.l, 32)] w W) : S3g f w.heap.size W := by
  have h1 := h.1 _ (.tail _ (.head _))
  exact ⟨h1.cell 0, h1.cell 1, h1.cell 2⟩

def gints (l : List Int) : List Value := l.map fun i => .int .i64 i
theorem Try.infoIntG : (Try.prog.info? 3).map (fun i => (i.zero, i.size, i.bytes)) = some (some (.int .i64 0), 1, 8) := by kernel_rfl
/-- The rests that are told, up to i. -/
def gl (B : Nat → Bool) (D i : Nat) : List Int := ((List.range i).filter fun j => B j && Nat.gcd j D == 1).map (fun j : Nat => (j : Int))
theorem gl_yes {B : Nat → Bool} {D i : Nat} (h : (B i && Nat.gcd i D == 1) = true) : gl B D (i + 1) = gl B D i ++ [(i : Int)] := by
  simp only [gl, List.range_succ, List.filter_append, List.map_append]
  simp [h]
theorem gl_no {B : Nat → Bool} {D i : Nat} (h : (B i && Nat.gcd i D == 1) = false) : gl B D (i + 1) = gl B D i := by
  simp only [gl, List.range_succ, List.filter_append, List.map_append]
  simp [h]
theorem gl_len (B : Nat → Bool) (D i : Nat) : (gl B D i).length ≤ i := by
  unfold gl
  rw [List.length_map]
  exact Nat.le_trans (List.length_filter_le ..) (by simp)
theorem Ms.grown {l : List (Nat × List Value × TypeId)} {w W W1 : World} {row : Option Nat} (h : Ms l w W) (hg : W.grownBy W1 row) (h1 : ∀ x ∈ l, row ≠ some x.1) (h2 : ∀ g, row = some g → w.heap.size ≤ g) : Ms l w W1 :=
  ⟨fun x hx => (h.1 x hx).grown hg (h1 x hx), h.2.grown hg h.2.size h2⟩
theorem is_of_row {W : World} {B : Nat} {a : Option Addr} {c : Nat} {l : List Int} (h : W.ownsRow B 3 1 (.slice a l.length c) l.length (gints l)) : IS W (.slice a l.length c) l := by
  obtain ⟨h1, h2 | ⟨g, cap, cur, e1, e2, e3, e4⟩⟩ := h
  · obtain ⟨h3, h4⟩ := h2
    exact ⟨a, 0, 0, c, rfl, fun k => by omega, fun i hi => by omega, fun k => by omega⟩
  · have e1' := e1
    simp only [Value.slice.injEq] at e1
    obtain ⟨rfl, _, rfl⟩ := e1
    refine ⟨some ⟨g, 0, none⟩, g, 0, c, rfl, fun _ => rfl, fun i hi => ?_, fun _ => (Array.getElem?_eq_some_iff.1 e3).1⟩
    have h5 : W.ownsRow B 3 1 (.slice (some ⟨g, 0, none⟩) l.length c) l.length (gints l) := ⟨h1, .inr ⟨g, c, cur, rfl, e2, e3, e4⟩⟩
    have h6 := h5.cellAt i (by omega)
    rw [Nat.zero_add, h6]
    simp [gints, List.getD_eq_getElem?_getD, List.getElem?_eq_getElem hi]

set_option maxRecDepth 100000 in
set_option maxHeartbeats 8000000 in
theorem GenusOf_any (f : Qf) (D : Nat) (w : World) (hu : f.upto 1000000) (hD : f.disc = -(D : Int)) (h1D : 1 ≤ D) (hD4 : D ≤ 400) :
    Calls Try.prog 23 #[f.v] w fun e w' => (∃ (B : Nat → Bool) (l : List Int), Mk f D D 0 B ∧ l = gl B D D ∧ ∃ a c, e = .returned (.slice a l.length c) ∧ IS w' (.slice a l.length c) l) ∧ Below w.heap.size w w' := by
  have HDi : Hid (∀ w, Calls Try.prog 15 #[f.v] w fun e w' => e = .returned (.int .i64 (-(D : Int))) ∧ Below w.heap.size w w') := fun w => by rw [← hD]; exact refDisc_any f w hu
  obtain ⟨A0, hA0⟩ : ∃ A, A = f.a % (D : Int) := ⟨_, rfl⟩
  obtain ⟨B0, hB0⟩ : ∃ A, A = f.b % (D : Int) := ⟨_, rfl⟩
  obtain ⟨C0, hC0⟩ : ∃ A, A = f.c % (D : Int) := ⟨_, rfl⟩
  have HLa : Hid (∀ w, Calls Try.prog 11 #[.int .i64 f.a, .int .i64 (D : Int)] w fun e w' => e = .returned (.int .i64 A0) ∧ w' = w) := fun w => by rw [hA0]; exact left_int f.a D w (by obtain ⟨a1, a2, _⟩ := hu; omega) (by omega) (by omega)
  have HLb : Hid (∀ w, Calls Try.prog 11 #[.int .i64 f.b, .int .i64 (D : Int)] w fun e w' => e = .returned (.int .i64 B0) ∧ w' = w) := fun w => by rw [hB0]; exact left_int f.b D w (by obtain ⟨_, _, a1, a2, _⟩ := hu; omega) (by omega) (by omega)
  have HLc : Hid (∀ w, Calls Try.prog 11 #[.int .i64 f.c, .int .i64 (D : Int)] w fun e w' => e = .returned (.int .i64 C0) ∧ w' = w) := fun w => by rw [hC0]; exact left_int f.c D w (by obtain ⟨_, _, _, _, a1, a2⟩ := hu; omega) (by omega) (by omega)
  have hAb : 0 ≤ A0 ∧ A0 < 400 := by rw [hA0]; exact ⟨Int.emod_nonneg _ (by omega), by have := Int.emod_lt_of_pos f.a (show (0 : Int) < D by omega); omega⟩
  have hBb : 0 ≤ B0 ∧ B0 < 400 := by rw [hB0]; exact ⟨Int.emod_nonneg _ (by omega), by have := Int.emod_lt_of_pos f.b (show (0 : Int) < D by omega); omega⟩
  have hCb : 0 ≤ C0 ∧ C0 < 400 := by rw [hC0]; exact ⟨Int.emod_nonneg _ (by omega), by have := Int.emod_lt_of_pos f.c (show (0 : Int) < D by omega); omega⟩
  have HVl : Hid (∀ x y : Nat, (A0 * x * x + B0 * x * y + C0 * y * y) % (D : Int) = (vl f D x y : Int)) := fun x y => by rw [hA0, hB0, hC0]; exact vl_is f D x y h1D
  obtain ⟨i0, hi, hz0, hz1, hz2⟩ := info_parts Try.infoBool
  have HI : Hid (Try.prog.info? 4 = some i0 ∧ i0.zero = some (.bool false) ∧ i0.size = 1 ∧ i0.bytes = 1) := ⟨hi, hz0, hz1, hz2⟩
  clear hA0 hB0 hC0 hi hz0 hz1 hz2 hu hD
  unfold Qf.v at HDi ⊢
  go_enter Try.func23, Try.ntmps23
  have HM0 : Hid (Ms [(w.heap.size, f.l, 32)] w (w.alloc (.cells #[.int .i64 f.a, .int .i64 f.b, .int .i64 f.c] 32))) := Ms.new (l := []) ⟨fun x hx => (by cases hx), Below.refl _ _⟩ f.l 32
  go_wp2_with fail
  refine (HDi.out _).mono ?_
  rintro e w1 ⟨rfl, k1⟩
  have HM1 : Hid (Ms [(w.heap.size, f.l, 32)] w w1) := HM0.out.below k1
  clear k1 HM0 HDi
  have hDD : - -(D : Int) = (D : Int) := by omega
  go_wp2_with (at_make; refine wpList_make_full _ rfl _ _ 69 rfl w1.heap.size 4 i0 (.bool false) 1 Try.underlying69 HI.out.1 HI.out.2.1 HI.out.2.2.1 .i64 .i64 _ _ D rfl rfl (by omega) (by omega) (by rw [HI.out.2.2.2]; omega) (by unfold maxLen; omega) (Nat.le_refl _) ?_)
  intro w2 hown hgrow
  have HM2 : Hid (Ms [(w1.heap.size, mcells D (fun _ => false), 4), (w.heap.size, f.l, 32)] w w2) := by
    have hb : Below w1.heap.size w1 w2 := (Below.refl _ _).grown hgrow (Nat.le_refl _) (by simp)
    refine (HM1.out.below hb).cons ?_
    rw [← mcells_false]
    exact cl_of_make hown
  have HLT : Hid (w.heap.size < w1.heap.size) := HM1.out.lt _ (.head _)
  clear hown hgrow HM1
  go_wp2
  go_loopg [5] D (fun gk xv wx => ∃ (x : Nat) (B : Nat → Bool), xv = .int .i64 x ∧ x ≤ D ∧ Hid (gk = D - x ∧ Mk f D x 0 B ∧ Ms [(w1.heap.size, mcells D B, 4), (w.heap.size, f.l, 32)] w wx))
  case atStart => exact ⟨0, _, rfl, Nat.zero_le _, rfl, Mk.start f D, HM2.out⟩
  case round =>
    clear HM2
    obtain ⟨x, B, rfl, hx, HR⟩ := hrel
    have HGx : Hid (gk = D - x) := HR.out.1
    have HMx : Hid (Mk f D x 0 B ∧ Ms [(w1.heap.size, mcells D B, 4), (w.heap.size, f.l, 32)] w wr) := HR.out.2
    clear HR
    by_cases hxD : x < D
    · have bx : decide ((x : Int) < (D : Int)) = true := decide_eq_true (by omega)
      go_wp2
      go_loopg [6] D (fun gk yv wx => ∃ (y : Nat) (B : Nat → Bool), yv = .int .i64 y ∧ y ≤ D ∧ Hid (gk = D - y ∧ Mk f D x y B ∧ Ms [(w1.heap.size, mcells D B, 4), (w.heap.size, f.l, 32)] w wx))
      case atStart => exact ⟨0, B, rfl, Nat.zero_le _, rfl, HMx.out⟩
      case round =>
        clear HMx bx
        obtain ⟨y, B, rfl, hy, HR⟩ := hrel
        have HGy : Hid (gk = D - y) := HR.out.1
        have HMy : Hid (Mk f D x y B ∧ Ms [(w1.heap.size, mcells D B, 4), (w.heap.size, f.l, 32)] w wr) := HR.out.2
        clear HR
        by_cases hyD : y < D
        · have bY : decide ((y : Int) < (D : Int)) = true := decide_eq_true (by omega)
          obtain ⟨m1, e1⟩ : ∃ t, A0 * (x : Int) = t := ⟨_, rfl⟩
          obtain ⟨m2, e2⟩ : ∃ t, m1 * (x : Int) = t := ⟨_, rfl⟩
          obtain ⟨n1, e3⟩ : ∃ t, B0 * (x : Int) = t := ⟨_, rfl⟩
          obtain ⟨n2, e4⟩ : ∃ t, n1 * (y : Int) = t := ⟨_, rfl⟩
          obtain ⟨q1, e5⟩ : ∃ t, C0 * (y : Int) = t := ⟨_, rfl⟩
          obtain ⟨q2, e6⟩ : ∃ t, q1 * (y : Int) = t := ⟨_, rfl⟩
          have bd : ∀ (P N : Int) (z : Nat), 0 ≤ P → P ≤ N → z < 400 → 0 ≤ P * (z : Int) ∧ P * (z : Int) ≤ N * 400 := fun P N z h1 h2 h3 => ⟨Int.mul_nonneg h1 (by omega), Int.mul_le_mul h2 (by omega) (by omega) (by omega)⟩
          have u1 := bd A0 400 x hAb.1 (by omega) (by omega)
          rw [e1] at u1
          have u2 := bd m1 160000 x u1.1 (by omega) (by omega)
          rw [e2] at u2
          have u3 := bd B0 400 x hBb.1 (by omega) (by omega)
          rw [e3] at u3
          have u4 := bd n1 160000 y u3.1 (by omega) (by omega)
          rw [e4] at u4
          have u5 := bd C0 400 y hCb.1 (by omega) (by omega)
          rw [e5] at u5
          have u6 := bd q1 160000 y u5.1 (by omega) (by omega)
          rw [e6] at u6
          obtain ⟨V, hV⟩ : ∃ V, V = vl f D x y := ⟨_, rfl⟩
          have hVD : V < D := by
            have h1 := HVl.out x y
            have h2 := Int.emod_lt_of_pos (A0 * x * x + B0 * x * y + C0 * y * y) (show (0 : Int) < D by omega)
            rw [h1, ← hV] at h2
            omega
          have HLv : Hid (∀ w, Calls Try.prog 11 #[.int .i64 (m2 + n2 + q2), .int .i64 (D : Int)] w fun e w' => e = .returned (.int .i64 (V : Int)) ∧ w' = w) := fun w => by
            have h1 := HVl.out x y
            rw [e1, e2, e3, e4, e5, e6, ← hV] at h1
            rw [← h1]
            exact left_int _ D w (by omega) (by omega) (by omega)
          have HVV : Hid (V = vl f D x y) := hV
          have w1' : IntKind.i64.wrap m1 = m1 := by rw [IntKind.wrap_i64]; omega
          have w2' : IntKind.i64.wrap m2 = m2 := by rw [IntKind.wrap_i64]; omega
          have w3' : IntKind.i64.wrap n1 = n1 := by rw [IntKind.wrap_i64]; omega
          have w4' : IntKind.i64.wrap n2 = n2 := by rw [IntKind.wrap_i64]; omega
          have w5' : IntKind.i64.wrap (m2 + n2) = m2 + n2 := by rw [IntKind.wrap_i64]; omega
          have w6' : IntKind.i64.wrap q1 = q1 := by rw [IntKind.wrap_i64]; omega
          have w7' : IntKind.i64.wrap q2 = q2 := by rw [IntKind.wrap_i64]; omega
          have w8' : IntKind.i64.wrap (m2 + n2 + q2) = m2 + n2 + q2 := by rw [IntKind.wrap_i64]; omega
          clear bd hV
          have N0 := HMy.out.2.below ((Below.refl wr.heap.size wr).drew)
          go_wp2_with fail
          refine wp_region_G (S3g f w.heap.size) 30 (by kernel_rfl) (s3g_of N0) (fun hHeld => ?_)
          refine wpAnyG_take (i := 0) (v := ?v0x1) rfl (by kernel_rfl) (fun _ _ _ h => h) (Or.inl ⟨by rfl, ?y0x1⟩) hHeld ?r0x1
          case y0x1 => (intro wS hSw; obtain ⟨s1, s2, s3⟩ := hSw; go_simp; try with_reducible rfl)
          try simp only [Act.put, List.setIfInBounds_toArray, List.set_cons_zero, List.set_cons_succ]
          refine wpAnyG_take (i := 1) (v := ?v1x2) rfl (by kernel_rfl) (fun _ _ _ h => h) (Or.inl ⟨by rfl, ?y1x2⟩) hHeld ?r1x2
          case y1x2 => (intro wS hSw; obtain ⟨s1, s2, s3⟩ := hSw; go_simp; try with_reducible rfl)
          try simp only [Act.put, List.setIfInBounds_toArray, List.set_cons_zero, List.set_cons_succ]
          refine wpAnyG_take (i := 2) (v := ?v2x3) rfl (by kernel_rfl) (fun _ _ _ h => h) (Or.inl ⟨by rfl, ?y2x3⟩) hHeld ?r2x3
          case y2x3 => (intro wS hSw; obtain ⟨s1, s2, s3⟩ := hSw; go_simp; try with_reducible rfl)
          try simp only [Act.put, List.setIfInBounds_toArray, List.set_cons_zero, List.set_cons_succ]
          refine wpAnyG_take (i := 3) (v := ?v3x4) rfl (by kernel_rfl) (fun _ _ _ h => h) (Or.inl ⟨by rfl, ?y3x4⟩) hHeld ?r3x4
          case y3x4 => (intro wS hSw; obtain ⟨s1, s2, s3⟩ := hSw; go_simp; try with_reducible rfl)
          try simp only [Act.put, List.setIfInBounds_toArray, List.set_cons_zero, List.set_cons_succ]
          refine wpAnyG_take (i := 5) (v := ?v5x5) rfl (by kernel_rfl) (fun _ _ _ h => h) (Or.inl ⟨by rfl, ?y5x5⟩) hHeld ?r5x5
          case y5x5 => (intro wS hSw; obtain ⟨s1, s2, s3⟩ := hSw; go_simp; try with_reducible rfl)
          try simp only [Act.put, List.setIfInBounds_toArray, List.set_cons_zero, List.set_cons_succ]
          refine wpAnyG_take (i := 7) (v := ?v7x6) rfl (by kernel_rfl) (fun _ _ _ h => h) (Or.inl ⟨by rfl, ?y7x6⟩) hHeld ?r7x6
          case y7x6 => (intro wS hSw; obtain ⟨s1, s2, s3⟩ := hSw; go_simp; try with_reducible rfl)
          try simp only [Act.put, List.setIfInBounds_toArray, List.set_cons_zero, List.set_cons_succ]
          refine wpAnyG_take (i := 9) (v := ?v9x7) rfl (by kernel_rfl) (fun _ _ _ h => h) (Or.inl ⟨by rfl, ?y9x7⟩) hHeld ?r9x7
          case y9x7 => (intro wS hSw; obtain ⟨s1, s2, s3⟩ := hSw; go_simp; try with_reducible rfl)
          try simp only [Act.put, List.setIfInBounds_toArray, List.set_cons_zero, List.set_cons_succ]
          refine wpAnyG_take (i := 10) (v := ?v10x8) rfl (by kernel_rfl) (fun _ _ _ h => h) (Or.inl ⟨by rfl, ?y10x8⟩) hHeld ?r10x8
          case y10x8 => (intro wS hSw; obtain ⟨s1, s2, s3⟩ := hSw; go_simp; try with_reducible rfl)
          try simp only [Act.put, List.setIfInBounds_toArray, List.set_cons_zero, List.set_cons_succ]
          refine wpAnyG_take (i := 11) (v := ?v11x9) rfl (by kernel_rfl) (fun _ _ _ h => h) (Or.inl ⟨by rfl, ?y11x9⟩) hHeld ?r11x9
          case y11x9 => (intro wS hSw; obtain ⟨s1, s2, s3⟩ := hSw; go_simp; try with_reducible rfl)
          try simp only [Act.put, List.setIfInBounds_toArray, List.set_cons_zero, List.set_cons_succ]
          refine wpAnyG_take (i := 13) (v := ?v13x10) rfl (by kernel_rfl) (fun _ _ _ h => h) (Or.inl ⟨by rfl, ?y13x10⟩) hHeld ?r13x10
          case y13x10 => (intro wS hSw; obtain ⟨s1, s2, s3⟩ := hSw; go_simp; try with_reducible rfl)
          try simp only [Act.put, List.setIfInBounds_toArray, List.set_cons_zero, List.set_cons_succ]
          refine wpAnyG_take (i := 15) (v := ?v15x11) rfl (by kernel_rfl) (fun _ _ _ h => h) (Or.inl ⟨by rfl, ?y15x11⟩) hHeld ?r15x11
          case y15x11 => (intro wS hSw; obtain ⟨s1, s2, s3⟩ := hSw; go_simp; try with_reducible rfl)
          try simp only [Act.put, List.setIfInBounds_toArray, List.set_cons_zero, List.set_cons_succ]
          refine wpAnyG_take (i := 18) (v := ?v18x12) rfl (by kernel_rfl) (fun _ _ _ h => h) (Or.inl ⟨by rfl, ?y18x12⟩) hHeld ?r18x12
          case y18x12 => (intro wS hSw; obtain ⟨s1, s2, s3⟩ := hSw; go_simp; try with_reducible rfl)
          try simp only [Act.put, List.setIfInBounds_toArray, List.set_cons_zero, List.set_cons_succ]
          refine wpAnyG_take (i := 19) (v := ?v19x13) rfl (by kernel_rfl) (fun _ _ _ h => h) (Or.inl ⟨by rfl, ?y19x13⟩) hHeld ?r19x13
          case y19x13 => (intro wS hSw; obtain ⟨s1, s2, s3⟩ := hSw; go_simp; try with_reducible rfl)
          try simp only [Act.put, List.setIfInBounds_toArray, List.set_cons_zero, List.set_cons_succ]
          refine wpAnyG_take (i := 20) (v := ?v20x14) rfl (by kernel_rfl) (fun _ _ _ h => h) (Or.inl ⟨by rfl, ?y20x14⟩) hHeld ?r20x14
          case y20x14 => (intro wS hSw; obtain ⟨s1, s2, s3⟩ := hSw; go_simp; try with_reducible rfl)
          try simp only [Act.put, List.setIfInBounds_toArray, List.set_cons_zero, List.set_cons_succ]
          refine wpAnyG_take (i := 22) (v := ?v22x15) rfl (by kernel_rfl) (fun _ _ _ h => h) (Or.inl ⟨by rfl, ?y22x15⟩) hHeld ?r22x15
          case y22x15 => (intro wS hSw; obtain ⟨s1, s2, s3⟩ := hSw; go_simp; try with_reducible rfl)
          try simp only [Act.put, List.setIfInBounds_toArray, List.set_cons_zero, List.set_cons_succ]
          refine wpAnyG_take (i := 24) (v := ?v24x16) rfl (by kernel_rfl) (fun _ _ _ h => h) (Or.inl ⟨by rfl, ?y24x16⟩) hHeld ?r24x16
          case y24x16 => (intro wS hSw; obtain ⟨s1, s2, s3⟩ := hSw; go_simp; try with_reducible rfl)
          try simp only [Act.put, List.setIfInBounds_toArray, List.set_cons_zero, List.set_cons_succ]
          refine wpAnyG_take (i := 27) (v := ?v27x17) rfl (by kernel_rfl) (fun _ _ _ h => h) (Or.inl ⟨by rfl, ?y27x17⟩) hHeld ?r27x17
          case y27x17 => (intro wS hSw; obtain ⟨s1, s2, s3⟩ := hSw; go_simp; try with_reducible rfl)
          try simp only [Act.put, List.setIfInBounds_toArray, List.set_cons_zero, List.set_cons_succ]
          refine wpAnyG_one (i := 4) rfl (by kernel_rfl) (fun K hK => ?_)
          go_simp
          refine (HLa.out _).mono ?_
          rintro e w3 ⟨rfl, rfl⟩
          refine hK.out _ _ hHeld ?_
          clear hK K
          try simp only [Act.put, List.setIfInBounds_toArray, List.set_cons_zero, List.set_cons_succ]
          refine wpAnyG_take (i := 6) (v := .int .i64 m1) rfl (by kernel_rfl) (fun _ _ _ h => h) (Or.inl ⟨by kernel_rfl, ?y6x18⟩) hHeld ?r6x18
          case y6x18 => (intro wS hSw; (go_simp; try simp only [e1, w1']))
          try simp only [Act.put, List.setIfInBounds_toArray, List.set_cons_zero, List.set_cons_succ]
          refine wpAnyG_take (i := 8) (v := .int .i64 m2) rfl (by kernel_rfl) (fun _ _ _ h => h) (Or.inl ⟨by kernel_rfl, ?y8x19⟩) hHeld ?r8x19
          case y8x19 => (intro wS hSw; (go_simp; try simp only [e2, w2']))
          try simp only [Act.put, List.setIfInBounds_toArray, List.set_cons_zero, List.set_cons_succ]
          refine wpAnyG_one (i := 12) rfl (by kernel_rfl) (fun K hK => ?_)
          go_simp
          refine (HLb.out _).mono ?_
          rintro e w4 ⟨rfl, rfl⟩
          refine hK.out _ _ hHeld ?_
          clear hK K
          try simp only [Act.put, List.setIfInBounds_toArray, List.set_cons_zero, List.set_cons_succ]
          refine wpAnyG_take (i := 14) (v := .int .i64 n1) rfl (by kernel_rfl) (fun _ _ _ h => h) (Or.inl ⟨by kernel_rfl, ?y14x20⟩) hHeld ?r14x20
          case y14x20 => (intro wS hSw; (go_simp; try simp only [e3, w3']))
          try simp only [Act.put, List.setIfInBounds_toArray, List.set_cons_zero, List.set_cons_succ]
          refine wpAnyG_take (i := 16) (v := .int .i64 n2) rfl (by kernel_rfl) (fun _ _ _ h => h) (Or.inl ⟨by kernel_rfl, ?y16x21⟩) hHeld ?r16x21
          case y16x21 => (intro wS hSw; (go_simp; try simp only [e4, w4']))
          try simp only [Act.put, List.setIfInBounds_toArray, List.set_cons_zero, List.set_cons_succ]
          refine wpAnyG_take (i := 17) (v := .int .i64 (m2 + n2)) rfl (by kernel_rfl) (fun _ _ _ h => h) (Or.inl ⟨by kernel_rfl, ?y17x22⟩) hHeld ?r17x22
          case y17x22 => (intro wS hSw; (go_simp; try simp only [w5']))
          try simp only [Act.put, List.setIfInBounds_toArray, List.set_cons_zero, List.set_cons_succ]
          refine wpAnyG_one (i := 21) rfl (by kernel_rfl) (fun K hK => ?_)
          go_simp
          refine (HLc.out _).mono ?_
          rintro e w5 ⟨rfl, rfl⟩
          refine hK.out _ _ hHeld ?_
          clear hK K
          try simp only [Act.put, List.setIfInBounds_toArray, List.set_cons_zero, List.set_cons_succ]
          refine wpAnyG_take (i := 23) (v := .int .i64 q1) rfl (by kernel_rfl) (fun _ _ _ h => h) (Or.inl ⟨by kernel_rfl, ?y23x23⟩) hHeld ?r23x23
          case y23x23 => (intro wS hSw; (go_simp; try simp only [e5, w6']))
          try simp only [Act.put, List.setIfInBounds_toArray, List.set_cons_zero, List.set_cons_succ]
          refine wpAnyG_take (i := 25) (v := .int .i64 q2) rfl (by kernel_rfl) (fun _ _ _ h => h) (Or.inl ⟨by kernel_rfl, ?y25x24⟩) hHeld ?r25x24
          case y25x24 => (intro wS hSw; (go_simp; try simp only [e6, w7']))
          try simp only [Act.put, List.setIfInBounds_toArray, List.set_cons_zero, List.set_cons_succ]
          refine wpAnyG_take (i := 26) (v := .int .i64 (m2 + n2 + q2)) rfl (by kernel_rfl) (fun _ _ _ h => h) (Or.inl ⟨by kernel_rfl, ?y26x25⟩) hHeld ?r26x25
          case y26x25 => (intro wS hSw; (go_simp; try simp only [w8']))
          try simp only [Act.put, List.setIfInBounds_toArray, List.set_cons_zero, List.set_cons_succ]
          refine wpAnyG_one (i := 28) rfl (by kernel_rfl) (fun K hK => ?_)
          go_simp
          refine (HLv.out _).mono ?_
          rintro e w6 ⟨rfl, rfl⟩
          refine hK.out _ _ hHeld ?_
          clear hK K
          try simp only [Act.put, List.setIfInBounds_toArray, List.set_cons_zero, List.set_cons_succ]
          refine wpAnyG_take (i := 29) (v := ?v29x26) rfl (by kernel_rfl) (fun _ _ _ h => h) (Or.inl ⟨by rfl, ?y29x26⟩) hHeld ?r29x26
          case y29x26 => (intro wS hSw; obtain ⟨s1, s2, s3⟩ := hSw; go_simp; try with_reducible rfl)
          try simp only [Act.put, List.setIfInBounds_toArray, List.set_cons_zero, List.set_cons_succ]
          have z0 := (N0.1 _ (.head _)).cell V
          have z1 := (N0.1 _ (.head _)).frozen V
          have z2 : w1.heap.size < wr.drew.heap.size := (N0.1 _ (.head _)).lt
          rw [mcells_at B hVD] at z0
          have HE : Hid (Ms [(w1.heap.size, mcells D (fun i => B i || i == V), 4), (w.heap.size, f.l, 32)] w (wr.drew.setCell ⟨w1.heap.size, V, none⟩ (.bool true))) := by
            have h1 := ((N0.mono (l' := [(w.heap.size, f.l, 32)]) (fun x hx => .tail _ hx)).other (B := w1.heap.size) (fun x hx => by rcases List.mem_singleton.1 hx with rfl; exact HLT.out) (Nat.le_of_lt HLT.out) V (.bool true))
            refine h1.cons ?_
            rw [← mcells_set B hVD]
            exact (N0.1 _ (.head _)).set V (.bool true)
          refine wpAnyG_last (i := 30) rfl (by kernel_rfl) (by kernel_rfl) (fun K hK => ?_)
          go_simp
          refine hK.out _ _ ?_
          clear hK K
          try simp only [Act.put, List.setIfInBounds_toArray, List.set_cons_zero, List.set_cons_succ]
          refine wpAnyG_done (by kernel_rfl) ?_ _
          have HN : Hid (Mk f D x (y + 1) (fun i => B i || i == V)) := by
            have h1 := HMy.out.1.step hxD hyD
            rw [← HVV.out] at h1
            exact h1
          clear hHeld N0 z0 z1 z2
          go_wp2_with fail
          go_roundg (D - (y + 1))
          case rel => exact ⟨y + 1, _, by go_num, by omega, rfl, HN.out, HE.out⟩
          case measure => have := HGy.out; omega
        · obtain rfl : y = D := by omega
          have bY : decide ((y : Int) < (y : Int)) = false := decide_eq_false (by omega)
          have HN : Hid (Mk f y (x + 1) 0 B) := HMy.out.1.next
          go_wp2
          go_roundg (y - (x + 1))
          case rel => exact ⟨x + 1, B, by go_num, by omega, rfl, HN.out, HMy.out.2⟩
          case measure => have := HGx.out; omega
    · obtain rfl : x = D := by omega
      have bx : decide ((x : Int) < (x : Int)) = false := decide_eq_false (by omega)
      have HBK : Hid (Mk f x x 0 B) := HMx.out.1
      have HMz : Hid (Ms [(w1.heap.size, mcells x B, 4), (w.heap.size, f.l, 32)] w wr) := HMx.out.2
      have hz1 : w1.heap.size < wr.heap.size := HMx.out.2.lt _ (.head _)
      obtain ⟨W3, hW3⟩ : ∃ W, W = wr := ⟨_, rfl⟩
      have HB3 : Hid (wr.heap.size = W3.heap.size) := by rw [hW3]; exact rfl
      rw [← hW3] at hz1
      obtain ⟨j0, hj, hk0, hk1, hk2⟩ := info_parts Try.infoIntG
      have HJ : Hid (Try.prog.info? 3 = some j0 ∧ j0.zero = some (.int .i64 0) ∧ j0.size = 1 ∧ j0.bytes = 8) := ⟨hj, hk0, hk1, hk2⟩
      clear hj hk0 hk1 hk2 HMx bx hW3
      go_wp2
      go_loopg [7, 8] x (fun gk ov iv wx => ∃ (i : Nat) (l : List Int) (a : Option Addr) (c : Nat), ov = .slice a l.length c ∧ iv = .int .i64 i ∧ i ≤ x ∧ Hid (gk = x - i ∧ l = gl B x i ∧ wx.ownsRow W3.heap.size 3 1 (.slice a l.length c) l.length (gints l) ∧ W3.heap.size ≤ wx.heap.size ∧ Ms [(w1.heap.size, mcells x B, 4), (w.heap.size, f.l, 32)] w wx))
      case atStart => exact ⟨0, [], none, 0, rfl, rfl, Nat.zero_le _, rfl, rfl, World.ownsRow_nil _ _ _ _, by rw [HB3.out]; exact Nat.le_refl _, HMz.out⟩
      case round =>
        clear HMz
        obtain ⟨i, l, a, c, rfl, rfl, hi, HR⟩ := hrel
        have HGi : Hid (gk = x - i) := HR.out.1
        have HLi : Hid (l = gl B x i) := HR.out.2.1
        have HRo : Hid (wr.ownsRow W3.heap.size 3 1 (.slice a l.length c) l.length (gints l)) := HR.out.2.2.1
        have hW3r : W3.heap.size ≤ wr.heap.size := HR.out.2.2.2.1
        have HMi : Hid (Ms [(w1.heap.size, mcells x B, 4), (w.heap.size, f.l, 32)] w wr) := HR.out.2.2.2.2
        have hll : l.length ≤ 400 := by have := gl_len B x i; rw [← HLi.out] at this; omega
        clear HR
        by_cases hix : i < x
        · have bi : decide ((i : Int) < (x : Int)) = true := decide_eq_true (by omega)
          have z0 := (HMi.out.1 _ (.head _)).cell i
          rw [mcells_at B hix] at z0
          obtain ⟨bB, hbB⟩ : ∃ b, B i = b := ⟨_, rfl⟩
          rw [hbB] at z0
          have HBi : Hid (B i = bB) := hbB
          clear hbB
          obtain ⟨Gz, hGz⟩ : ∃ G : Int, G = (Int.gcd i x : Int) := ⟨_, rfl⟩
          have HGz : Hid (∀ w, Calls Try.prog 35 #[.int .i64 i, .int .i64 (x : Int)] w fun e w' => e = .returned (.int .i64 Gz) ∧ w' = w) := fun w => by rw [hGz]; exact refGcd_nat i x w (by omega) (by omega) _ _ (by simp) (by simp)
          have HGe : Hid (Gz = (Nat.gcd i x : Int)) := by show _ = _; rw [hGz]; simp [Int.gcd]
          clear hGz
          cases bB
          · have HN : Hid (l = gl B x (i + 1)) := by show _ = _; rw [gl_no (by rw [HBi.out]; rfl)]; exact HLi.out
            go_wp2
            go_roundg (x - (i + 1))
            case rel => exact ⟨i + 1, l, a, c, rfl, by go_num, by omega, rfl, HN.out, HRo.out, hW3r, HMi.out⟩
            case measure => have := HGi.out; omega
          · cases hG : (Gz == 1)
            · have HN : Hid (l = gl B x (i + 1)) := by
                show _ = _
                rw [gl_no (by rw [HBi.out]; have h1 : Gz ≠ 1 := by simpa using hG
                              have h2 := HGe.out
                              simp only [Bool.true_and, beq_eq_false_iff_ne]
                              omega)]
                exact HLi.out
              go_wp2_with fail
              refine (HGz.out _).mono ?_
              rintro e w5 ⟨rfl, h5⟩
              rw [h5]
              clear h5 w5
              go_wp2
              go_roundg (x - (i + 1))
              case rel => exact ⟨i + 1, l, a, c, rfl, by go_num, by omega, rfl, HN.out, HRo.out, hW3r, HMi.out⟩
              case measure => have := HGi.out; omega
            · have HN : Hid (l ++ [(i : Int)] = gl B x (i + 1)) := by
                show _ = _
                rw [gl_yes (by rw [HBi.out]; have h1 : Gz = 1 := by simpa using hG
                               have h2 := HGe.out
                               simp only [Bool.true_and, beq_iff_eq]
                               omega), ← HLi.out]
              go_wp2_with fail
              refine (HGz.out _).mono ?_
              rintro e w5 ⟨rfl, h5⟩
              rw [h5]
              clear h5 w5 z0
              go_wp2_with (at_builtin; refine wpList_append_own _ rfl _ _ 47 rfl W3.heap.size 3 j0 (.int .i64 0) 1 8 Try.underlying47 HJ.out.1 HJ.out.2.1 HJ.out.2.2.1 HJ.out.2.2.2 rfl (by decide) (.slice a l.length c) l.length (gints l) rfl (HRo.out.alloc _) ⟨wr.heap.size, 0, none⟩ 1 1 [.int .i64 (i : Int)] rfl rfl (Cl.new [.int .i64 (i : Int)] 3 wr).news (by simp [Value.oneCell']) (by simp only [maxLen]; omega) (by omega) (by simp; omega) ?_; intro v' w6 hown' hgrow _; obtain ⟨g', cap', rfl⟩ := ownsRow_succ hown')
              have hrow : ∀ k, (Value.slice a l.length c).ownBlock = some k → W3.heap.size ≤ k := fun k e => (HRo.out.lt k e).1
              have HE : Hid (w6.ownsRow W3.heap.size 3 1 (.slice (some ⟨g', 0, none⟩) (l ++ [(i : Int)]).length cap') (l ++ [(i : Int)]).length (gints (l ++ [(i : Int)])) ∧ W3.heap.size ≤ w6.heap.size ∧ Ms [(w1.heap.size, mcells x B, 4), (w.heap.size, f.l, 32)] w w6) := by
                refine ⟨?_, ?_, ?_⟩
                · rw [List.length_append, show gints (l ++ [(i : Int)]) = gints l ++ [.int .i64 (i : Int)] by simp [gints]]
                  exact hown'
                · have := hgrow.size
                  simp at this
                  omega
                · refine (HMi.out.below (al1 _ _)).grown hgrow (fun y hy e => ?_) (fun g e => ?_)
                  · have h1 := hrow _ e
                    simp only [List.mem_cons, List.not_mem_nil, or_false] at hy
                    have h2 := HLT.out
                    rcases hy with rfl | rfl
                    · simp at h1; omega
                    · simp at h1; omega
                  · have h1 := hrow _ e
                    have h2 := HLT.out
                    omega
              clear hown' hgrow hrow
              go_wp2
              go_roundg (x - (i + 1))
              case rel => exact ⟨i + 1, l ++ [(i : Int)], some ⟨g', 0, none⟩, cap', by simp, by go_num, by omega, rfl, HN.out, HE.out⟩
              case measure => have := HGi.out; omega
        · obtain rfl : i = x := by omega
          have bi : decide ((i : Int) < (i : Int)) = false := decide_eq_false (by omega)
          go_wp2
          go_ret
          exact ⟨⟨B, l, HBK.out, HLi.out, a, c, rfl, is_of_row HRo.out⟩, HMi.out.2⟩

end Go.Proofs.Ytijkanilpblogae
