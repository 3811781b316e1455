/- Package eisen's split at 3; package ring's over at 3. -/
import Derived.Test.YtogdggdaaiajnadGreatDoorEfA
import Derived.Test.YtogdggdaaiajnadGreatDoorEtH
set_option linter.unusedSimpArgs false
set_option linter.unusedVariables false
set_option maxRecDepth 100000
namespace Go.Proofs.YtogdggdaaiajnadGreatDoor
open Go.RowKit

set_option maxHeartbeats 1000000 in
theorem split_3 (w : World) : Calls Tryz.prog 63 #[.int .i64 3] w fun e w' => e = .returned (.tuple #[pv ⟨1, 2⟩, .bool true]) ∧ Below w.heap.size w w' := by
  go_enter Tryz.func63, Tryz.ntmps63
  go_wp2_with fail
  refine (R3.Roots_3 _).mono ?_
  rintro e w1 ⟨g, cap, rfl, h0, hg, k1⟩
  have HK1 : Hid (Below w.heap.size w w1) := (Below.alloc (Below.refl _ _) (Nat.le_refl _) _).trans (k1.mono (by simp))
  have X1 := (sv_new w 23 w.heap.size rfl 0 0).below k1
  have q0 := X1.c0
  have q1 := X1.c1
  have q2 := X1.f0
  have q3 := X1.f1
  have q4 := X1.lt
  have E := sv_alloc (X1.set 1 2) (.cells #[.int .i64 0, .int .i64 0] 28)
  have HE : Hid (Sv w.heap.size 1 2 (((w1.setCell ⟨w.heap.size, 0, none⟩ (.int .i64 1)).setCell ⟨w.heap.size, 1, none⟩ (.int .i64 2)).alloc (.cells #[.int .i64 0, .int .i64 0] 28))) := E
  clear X1 k1 E
  go_wp2_with fail
  have HK2 : Below w.heap.size w (((w1.setCell ⟨w.heap.size, 0, none⟩ (.int .i64 1)).setCell ⟨w.heap.size, 1, none⟩ (.int .i64 2)).alloc (.cells #[.int .i64 0, .int .i64 0] 28)) := ((HK1.out.setCell (by simp) _).setCell (by simp) _).alloc (by simp; omega) _
  generalize hWF : World.alloc _ _ = WF
  rw [hWF] at HK2
  have E : Sv w.heap.size 1 2 WF := hWF ▸ HE.out
  have e0 := E.c0
  have e1 := E.c1
  have e4 := E.lt
  exact bodyPost_ret (v := .tuple #[pv ⟨1, 2⟩, .bool true]) (by simp [results, Tryz.results63, go_sem, e0, e1, e4]) rfl ⟨rfl, HK2⟩

theorem gd_3 : Gd (-1) ⟨3, 0⟩ ⟨1, 2⟩ ⟨2, 1⟩ := fun d => ⟨fun h => h.2.trans ⟨⟨0, -1⟩, by decide⟩, fun h => ⟨h.trans ⟨⟨1, -1⟩, by decide⟩, h.trans ⟨⟨1, 1⟩, by decide⟩⟩⟩
theorem great_3 {g : Pp} (h : Gd (-1) ⟨3, 0⟩ ⟨1, 2⟩ g) (hc : IsCh (-1) g ∨ g = Pp.zero) : g = ⟨2, 1⟩ := great_one (.inr rfl) h gd_3 hc (.inl (by decide))
theorem chief_3 {g : Pp} (d1 : Dv (-1) ⟨1, -1⟩ g) (d2 : Dv (-1) g ⟨1, -1⟩) (hc : IsCh (-1) g ∨ ((⟨1, -1⟩ : Pp) = Pp.zero ∧ g = Pp.zero)) : g = ⟨2, 1⟩ := by
  rcases hc with hc | ⟨h, _⟩
  · exact chief_one (-1) (.inr rfl) g ⟨2, 1⟩ (d2.trans ⟨⟨1, 1⟩, by decide⟩) (Dv.trans ⟨⟨0, -1⟩, by decide⟩ d1) hc (by decide)
  · exact absurd h (by decide)

set_option maxHeartbeats 1000000 in
theorem over_3 (k : Kd) (K : KdIs (-1) k) (es : ∀ (args : Array Value) (w : World), (callFunc k.fs args).run Tryz.prog w = .ok (.enter k.fs args) w)
    (S3 : ∀ w, Calls Tryz.prog k.fs #[.int .i64 3] w fun e w' => e = .returned (.tuple #[pv ⟨1, 2⟩, .bool true]) ∧ Below w.heap.size w w') (w : World) :
    Calls Tryz.prog 91 #[k.v, .int .i64 3, pv ⟨3, 0⟩] w fun e w' => ∃ g, e = .returned (.slice (some ⟨g, 0, none⟩) 2 2) ∧ w.heap.size ≤ g ∧ Cl g [.int .i64 2, .int .i64 1, .int .i64 2, .int .i64 1] 23 w' ∧ Below w.heap.size w w' := by
  have HS : Hid (∀ w, Calls Tryz.prog k.fs #[.int .i64 3] w fun e w' => e = .returned (.tuple #[pv ⟨1, 2⟩, .bool true]) ∧ Below w.heap.size w w') := S3
  have HK : Hid (KdIs (-1) k) := K
  have HN : Hid (∀ w, Calls Tryz.prog 55 #[k.v, pv ⟨3, 0⟩] w fun e w' => e = .returned (.int .i64 9) ∧ Below w.heap.size w w') := fun w => rnorm_any (-1) k K ⟨3, 0⟩ w (.inr rfl) ⟨by decide, by decide, by decide, by decide⟩
  have em := K.em
  clear S3 K
  obtain ⟨u, o, ft, fm, fc, fs⟩ := k
  have R0 := rx_new w ⟨u, o, ft, fm, fc, fs⟩ ⟨3, 0⟩
  have HR0 : Hid (Rx w.heap.size ⟨u, o, ft, fm, fc, fs⟩ ⟨3, 0⟩ w ((w.alloc (.cells (Kd.cells ⟨u, o, ft, fm, fc, fs⟩) 55)).alloc (.cells #[.int .i64 3, .int .i64 0] 23))) := R0
  clear R0
  go_enter Tryz.func91, Tryz.ntmps91
  go_wp2_with fail
  refine (HN.out _).mono ?_
  rintro e w1 ⟨rfl, k1⟩
  have R1 := HR0.out.below k1
  have HR1 : Hid (Rx w.heap.size ⟨u, o, ft, fm, fc, fs⟩ ⟨3, 0⟩ w w1) := R1
  obtain ⟨r0, r1, r2, r3, r4, r5, r6⟩ := Kt.rd R1.r
  clear k1 HR0 R1
  go_wp2_with fail
  refine (HS.out _).mono ?_
  rintro e w2 ⟨rfl, k2⟩
  have R2 := (HR1.out.below k2).alloc (.cells #[.int .i64 1, .int .i64 2] 23)
  have HR2 : Hid (Rx w.heap.size ⟨u, o, ft, fm, fc, fs⟩ ⟨3, 0⟩ w (w2.alloc (.cells #[.int .i64 1, .int .i64 2] 23))) := R2
  have A2 := sv_new w2 23 w2.heap.size rfl 1 2
  clear k2 HR1 r0 r1 r2 r3 r4 r5 r6
  obtain ⟨r0, r1, r2, r3, r4, r5, r6⟩ := Kt.rd R2.r
  clear R2
  have a0 := A2.c0
  have a1 := A2.c1
  clear A2
  go_wp2_with fail
  refine (rgcd_any (-1) ⟨u, o, ft, fm, fc, fs⟩ HK.out ⟨3, 0⟩ ⟨1, 2⟩ _ (.inr rfl) (by unfold Nb; decide) (by unfold Nb; decide)).mono ?_
  rintro e w3 ⟨g, rfl, hg, hc, k3⟩
  obtain rfl := great_3 hg hc
  have R3 := (HR2.out.below k3).alloc (.cells #[.int .i64 2, .int .i64 1] 23)
  have HR3 : Hid (Rx w.heap.size ⟨u, o, ft, fm, fc, fs⟩ ⟨3, 0⟩ w (w3.alloc (.cells #[.int .i64 2, .int .i64 1] 23))) := R3
  have A3 := sv_new w3 23 w3.heap.size rfl 2 1
  clear k3 HR2 r0 r1 r2 r3 r4 r5 r6 hg hc a0 a1
  obtain ⟨r0, r1, r2, r3, r4, r5, r6⟩ := Kt.rd R3.r
  clear R3
  have a0 := A3.c0
  have a1 := A3.c1
  go_wp2_with fail
  refine wp_region_G (fun W => Rk w.heap.size ⟨u, o, ft, fm, fc, fs⟩ W ∧ Rp w3.heap.size ⟨2, 1⟩ W) 8 (by kernel_rfl) ⟨⟨r0, r1, r2, r3, r4, r5, r6⟩, a0, a1⟩ (fun hHeld => ?_)
  refine wpAnyG_take (i := 0) (v := ?v0x1) rfl (by kernel_rfl) (fun _ _ _ h => h) (Or.inl ⟨by rfl, ?y0x1⟩) hHeld ?r0x1
  case y0x1 => (intro wS hSw; obtain ⟨⟨s1, s2, s3, s4, s5, s6, s7⟩, s8, s9⟩ := hSw; go_simp; try with_reducible rfl)
  try simp only [Act.put, List.setIfInBounds_toArray, List.set_cons_zero, List.set_cons_succ]
  refine wpAnyG_take (i := 1) (v := ?v1x2) rfl (by kernel_rfl) (fun _ _ _ h => h) (Or.inl ⟨by rfl, ?y1x2⟩) hHeld ?r1x2
  case y1x2 => (intro wS hSw; obtain ⟨⟨s1, s2, s3, s4, s5, s6, s7⟩, s8, s9⟩ := hSw; go_simp; try with_reducible rfl)
  try simp only [Act.put, List.setIfInBounds_toArray, List.set_cons_zero, List.set_cons_succ]
  refine wpAnyG_take (i := 2) (v := ?v2x3) rfl (by kernel_rfl) (fun _ _ _ h => h) (Or.inl ⟨by rfl, ?y2x3⟩) hHeld ?r2x3
  case y2x3 => (intro wS hSw; obtain ⟨⟨s1, s2, s3, s4, s5, s6, s7⟩, s8, s9⟩ := hSw; go_simp; try with_reducible rfl)
  try simp only [Act.put, List.setIfInBounds_toArray, List.set_cons_zero, List.set_cons_succ]
  refine wpAnyG_take (i := 3) (v := ?v3x4) rfl (by kernel_rfl) (fun _ _ _ h => h) (Or.inl ⟨by rfl, ?y3x4⟩) hHeld ?r3x4
  case y3x4 => (intro wS hSw; obtain ⟨⟨s1, s2, s3, s4, s5, s6, s7⟩, s8, s9⟩ := hSw; go_simp; try with_reducible rfl)
  try simp only [Act.put, List.setIfInBounds_toArray, List.set_cons_zero, List.set_cons_succ]
  refine wpAnyG_take (i := 4) (v := ?v4x5) rfl (by kernel_rfl) (fun _ _ _ h => h) (Or.inl ⟨by rfl, ?y4x5⟩) hHeld ?r4x5
  case y4x5 => (intro wS hSw; obtain ⟨⟨s1, s2, s3, s4, s5, s6, s7⟩, s8, s9⟩ := hSw; go_simp; try with_reducible rfl)
  try simp only [Act.put, List.setIfInBounds_toArray, List.set_cons_zero, List.set_cons_succ]
  refine wpAnyG_one (i := 5) rfl (by kernel_rfl) (fun K hK => ?_)
  go_simp
  refine (HK.out.mirror ⟨2, 1⟩ _ ⟨by decide, by decide, by decide, by decide⟩).mono ?_
  rintro e w4 ⟨rfl, k4⟩
  replace k4 := ((Below.refl _ _).drew).trans k4
  have R4 := HR3.out.below k4
  have A4 := A3.below k4
  refine hK.out _ _ ⟨Kt.rd R4.r, A4.c0, A4.c1⟩ ?_
  clear hK K
  try simp only [Act.put, List.setIfInBounds_toArray, List.set_cons_zero, List.set_cons_succ]
  refine wpAnyG_one (i := 6) rfl (by kernel_rfl) (fun K hK => ?_)
  go_simp
  refine (rchief_any (-1) ⟨u, o, ft, fm, fc, fs⟩ HK.out (Pp.conj (-1) ⟨2, 1⟩) _ (.inr rfl) (by unfold Nb; decide)).mono ?_
  rintro e w5 ⟨g, rfl, d1, d2, hc, k5⟩
  obtain rfl := chief_3 d1 d2 hc
  have R5 := R4.below k5
  have A5 := A4.below k5
  refine hK.out _ _ ⟨Kt.rd R5.r, A5.c0, A5.c1⟩ ?_
  clear hK K
  try simp only [Act.put, List.setIfInBounds_toArray, List.set_cons_zero, List.set_cons_succ]
  refine wpAnyG_one (i := 7) rfl (by kernel_rfl) (fun K hK => ?_)
  go_simp
  have R6 := R5.alloc (.cells #[.int .i64 2, .int .i64 1, .int .i64 2, .int .i64 1] 23)
  have A6 := sv_alloc A5 (.cells #[.int .i64 2, .int .i64 1, .int .i64 2, .int .i64 1] 23)
  refine hK.out _ _ ⟨Kt.rd R6.r, A6.c0, A6.c1⟩ ?_
  clear hK K
  try simp only [Act.put, List.setIfInBounds_toArray, List.set_cons_zero, List.set_cons_succ]
  refine wpAnyG_last (i := 8) rfl (by kernel_rfl) (by kernel_rfl) (fun K hK => ?_)
  go_simp
  refine hK.out _ _ ?_
  clear hK K
  try simp only [Act.put, List.setIfInBounds_toArray, List.set_cons_zero, List.set_cons_succ]
  refine wpAnyG_done (by kernel_rfl) ?_ _
  have HK6 : Hid (Below w.heap.size w (w5.alloc (.cells #[.int .i64 2, .int .i64 1, .int .i64 2, .int .i64 1] 23))) := R6.k
  have hz5 : w.heap.size ≤ w5.heap.size := R5.k.size
  clear hHeld R4 R5 R6 A3 A4 A5 A6 r0 r1 r2 r3 r4 r5 r6 a0 a1 HR3 d1 d2 hc
  go_wp2_with fail
  go_ret
  exact ⟨w5.heap.size, rfl, hz5, Cl.new [.int .i64 2, .int .i64 1, .int .i64 2, .int .i64 1] 23 w5, HK6.out⟩

end Go.Proofs.YtogdggdaaiajnadGreatDoor
