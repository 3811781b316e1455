/- Factor(3), and the document's example of layer 7. -/
import Derived.Test.YtogdggdaaiajnadGreatDoorEfC
import Derived.Test.YtogdggdaaiajnadGreatDoorEsI
set_option linter.unusedSimpArgs false
set_option linter.unusedVariables false
set_option maxRecDepth 100000
namespace Go.Proofs.YtogdggdaaiajnadGreatDoor.E3
open Go.RowKit

/-- The three cells. -/
abbrev S3c (g : Nat) (W : World) : Prop := W.cell? ⟨g, 0, none⟩ = some (.int .i64 2) ∧ W.cell? ⟨g, 1, none⟩ = some (.int .i64 1) ∧ W.cell? ⟨g, 2, none⟩ = some (.int .i64 2)

/-- What Factor(3) answers. -/
def Fac3 (w : World) (e : Ending) (w' : World) : Prop :=
  ∃ g cap, e = .returned (.tuple #[.int .i64 5, .slice (some ⟨g, 0, none⟩) 1 cap, fv (0, 0)]) ∧ S3c g w' ∧ (w.heap.size ≤ g ∧ g < w'.heap.size) ∧ Below w.heap.size w w'

theorem s3_below {g : Nat} {W W' : World} (h : S3c g W) (hg : g < W.heap.size) (k : Below W.heap.size W W') : S3c g W' :=
  ⟨(k.cell (p := ⟨g, 0, none⟩) hg).trans h.1, (k.cell (p := ⟨g, 1, none⟩) hg).trans h.2.1, (k.cell (p := ⟨g, 2, none⟩) hg).trans h.2.2⟩

theorem s3_set {g b : Nat} {W : World} (h : S3c g W) (hne : g ≠ b) (v1 v2 : Value) : S3c g ((W.setCell ⟨b, 0, none⟩ v1).setCell ⟨b, 1, none⟩ v2) := by
  have e : ((W.setCell ⟨b, 0, none⟩ v1).setCell ⟨b, 1, none⟩ v2).heap[g]? = W.heap[g]? := (Below.heap_setCell _ ⟨b, 1, none⟩ v2 g hne).trans (Below.heap_setCell W ⟨b, 0, none⟩ v1 g hne)
  exact ⟨(World.cell?_of_block e).trans h.1, (World.cell?_of_block e).trans h.2.1, (World.cell?_of_block e).trans h.2.2⟩

set_option maxHeartbeats 2000000 in
theorem rFactor_3 (k : Kd) (K : KdIs (-1) k) (es : ∀ (args : Array Value) (w : World), (callFunc k.fs args).run Tryz.prog w = .ok (.enter k.fs args) w)
    (S3 : ∀ w, Calls Tryz.prog k.fs #[.int .i64 3] w fun e w' => e = .returned (.tuple #[pv ⟨1, 2⟩, .bool true]) ∧ Below w.heap.size w w') (w : World) :
    Calls Tryz.prog 43 #[k.v, pv ⟨3, 0⟩] w (Fac3 w) := by
  have HA : Hid (∀ w, Calls Tryz.prog 67 #[k.v, pv ⟨3, 0⟩] w fun e w' => ∃ g cap, e = .returned (.tuple #[pv ⟨0, -1⟩, .slice (some ⟨g, 0, none⟩) 1 cap]) ∧ w'.ownsRow w.heap.size 47 3 (.slice (some ⟨g, 0, none⟩) 1 cap) 1 lO ∧ Below w.heap.size w w') := fun w => takeApart_3 k K es S3 w
  have HU : Hid (∀ w, Calls Tryz.prog 68 #[k.v, pv ⟨0, -1⟩] w fun e w' => e = .returned (.int .i64 5) ∧ Below w.heap.size w w') := fun w => turns_any (-1) k K ⟨0, -1⟩ 5 w (.inr rfl) (by decide) (by decide) (by decide)
  have HZ : Hid (∀ w, Calls Tryz.prog 57 #[pv ⟨3, 0⟩] w fun e w' => e = .returned (.bool false) ∧ Below w.heap.size w w') := fun w => isZero_any ⟨3, 0⟩ w
  have HPf : Hid (pfl 0 [(⟨3, 0⟩ : Pp)] = (0, 0)) := (show pfl 0 [(⟨3, 0⟩ : Pp)] = (0, 0) by decide)
  have HM0 : Hid (Cm w.heap.size k ⟨3, 0⟩ w ((((w.alloc (.cells k.cells 55)).alloc (.cells #[.int .i64 3, .int .i64 0] 23)).alloc (.cells #[.int .i64 0, .int .i64 0] 28)).alloc (.cells #[.int .i64 3, .int .i64 0] 23))) := (cm_newT w k ⟨3, 0⟩ 28).alloc _
  have A0 := sv_new (((w.alloc (.cells k.cells 55)).alloc (.cells #[.int .i64 3, .int .i64 0] 23)).alloc (.cells #[.int .i64 0, .int .i64 0] 28)) 23 (w.heap.size + 1 + 1 + 1) (by simp) 3 0
  have HP : Hid (Calls Tryz.prog 53 #[.slice (some ⟨w.heap.size + 1 + 1 + 1, 0, none⟩) 1 1] ((((w.alloc (.cells k.cells 55)).alloc (.cells #[.int .i64 3, .int .i64 0] 23)).alloc (.cells #[.int .i64 0, .int .i64 0] 28)).alloc (.cells #[.int .i64 3, .int .i64 0] 23)) fun e w' => e = .returned (.agg #[.int .i64 0, .int .i64 0]) ∧ Below ((((w.alloc (.cells k.cells 55)).alloc (.cells #[.int .i64 3, .int .i64 0] 23)).alloc (.cells #[.int .i64 0, .int .i64 0] 28)).alloc (.cells #[.int .i64 3, .int .i64 0] 23)).heap.size ((((w.alloc (.cells k.cells 55)).alloc (.cells #[.int .i64 3, .int .i64 0] 23)).alloc (.cells #[.int .i64 0, .int .i64 0] 28)).alloc (.cells #[.int .i64 3, .int .i64 0] 23)) w') := by
    have h := pairs_one ⟨3, 0⟩ _ 1 _ A0.lt A0.c0 A0.c1
    rw [HPf.out] at h
    exact h
  clear S3 K es A0
  obtain ⟨u, o, ft, fm, fc, fs⟩ := k
  go_enter Tryz.func43, Tryz.ntmps43
  go_wp2_with fail
  refine HP.out.mono ?_
  rintro e w1 ⟨rfl, k1⟩
  have M1 := (HM0.out.below k1).alloc (.cells #[.int .i64 0, .int .i64 0] 28)
  have HM1 : Hid (Cm w.heap.size ⟨u, o, ft, fm, fc, fs⟩ ⟨3, 0⟩ w (w1.alloc (.cells #[.int .i64 0, .int .i64 0] 28))) := M1
  have x0 := M1.x.c0
  have x1 := M1.x.c1
  clear HM0 k1 HP M1
  go_wp2_with fail
  refine (HZ.out _).mono ?_
  rintro e w2 ⟨rfl, k2⟩
  have M2 := HM1.out.below k2
  have HM2 : Hid (Cm w.heap.size ⟨u, o, ft, fm, fc, fs⟩ ⟨3, 0⟩ w w2) := M2
  clear x0 x1 HM1 k2
  have x0 := M2.x.c0
  have x1 := M2.x.c1
  obtain ⟨r0, r1, r2, r3, r4, r5, r6⟩ := Kt.rd M2.r
  clear M2
  go_wp2_with fail
  refine (HA.out _).mono ?_
  rintro e w3 ⟨g, cap, rfl, row, k3⟩
  have M3 := (HM2.out.below k3).alloc (.cells #[.int .i64 0, .int .i64 (-1)] 23)
  have HM3 : Hid (Cm w.heap.size ⟨u, o, ft, fm, fc, fs⟩ ⟨3, 0⟩ w (w3.alloc (.cells #[.int .i64 0, .int .i64 (-1)] 23))) := M3
  have HS3 : Hid (S3c g w3 ∧ w2.heap.size ≤ g ∧ g < w3.heap.size) := ⟨⟨row.cellAt 0 (by decide), row.cellAt 1 (by decide), row.cellAt 2 (by decide)⟩, (row.lt g rfl).1, (row.lt g rfl).2⟩
  have z2 := HM2.out.o.lt
  clear x0 x1 r0 r1 r2 r3 r4 r5 r6 row k3 HM2
  obtain ⟨r0, r1, r2, r3, r4, r5, r6⟩ := Kt.rd M3.r
  clear M3
  go_wp2_with fail
  refine (HU.out _).mono ?_
  rintro e w4 ⟨rfl, k4⟩
  have M4 := HM3.out.below k4
  have HS4 : Hid (S3c g w4 ∧ w2.heap.size ≤ g ∧ g < w4.heap.size) := by
    have k5 := (Below.alloc (Below.refl w3.heap.size w3) (Nat.le_refl _) (.cells #[.int .i64 0, .int .i64 (-1)] 23)).trans (k4.mono (by simp))
    exact ⟨s3_below HS3.out.1 HS3.out.2.2 k5, HS3.out.2.1, Nat.lt_of_lt_of_le HS3.out.2.2 k5.size⟩
  have HK4 : Hid (Below w.heap.size w w4) := M4.k
  have HE : Hid (Sv (w.heap.size + 1 + 1) 0 0 ((w4.setCell ⟨w.heap.size + 1 + 1, 0, none⟩ (.int .i64 0)).setCell ⟨w.heap.size + 1 + 1, 1, none⟩ (.int .i64 0))) := M4.o.set 0 0
  have o0 := M4.o.c0
  have o1 := M4.o.c1
  have o2 := M4.o.f0
  have o3 := M4.o.f1
  have o4 := M4.o.lt
  have HS5 : Hid (S3c g ((w4.setCell ⟨w.heap.size + 1 + 1, 0, none⟩ (.int .i64 0)).setCell ⟨w.heap.size + 1 + 1, 1, none⟩ (.int .i64 0)) ∧ g < ((w4.setCell ⟨w.heap.size + 1 + 1, 0, none⟩ (.int .i64 0)).setCell ⟨w.heap.size + 1 + 1, 1, none⟩ (.int .i64 0)).heap.size) := ⟨s3_set HS4.out.1 (by have := HS4.out.2.1; omega) _ _, by have := HS4.out.2.2; simpa [World.setCell] using this⟩
  have HK5 : Hid (Below w.heap.size w ((w4.setCell ⟨w.heap.size + 1 + 1, 0, none⟩ (.int .i64 0)).setCell ⟨w.heap.size + 1 + 1, 1, none⟩ (.int .i64 0))) := (HK4.out.setCell (by show w.heap.size ≤ w.heap.size + 2; omega) _).setCell (by show w.heap.size ≤ w.heap.size + 2; omega) _
  have hgz : w.heap.size ≤ g := by have := HS4.out.2.1; omega
  clear r0 r1 r2 r3 r4 r5 r6 HM3 HS3 k4 M4 HS4 HK4
  go_wp2_with fail
  generalize hWF : World.setCell _ _ _ = WF
  have E : Sv (w.heap.size + 1 + 1) 0 0 WF := hWF ▸ HE.out
  have E2 : S3c g WF ∧ g < WF.heap.size := hWF ▸ HS5.out
  have E3 : Below w.heap.size w WF := hWF ▸ HK5.out
  have e0 := E.c0
  have e1 := E.c1
  have e4 := E.lt
  exact bodyPost_ret (v := .tuple #[.int .i64 5, .slice (some ⟨g, 0, none⟩) 1 cap, fv (0, 0)]) (by simp [results, Tryz.results43, go_sem, e0, e1, e4]) rfl ⟨g, cap, rfl, E2.1, ⟨hgz, E2.2⟩, E3⟩

set_option maxHeartbeats 1000000 in
theorem eFactor_3 (w : World) : Calls Tryz.prog 25 #[pv ⟨3, 0⟩] w (Fac3 w) := by
  have HF : Hid (∀ w, Calls Tryz.prog 43 #[ek.v, pv ⟨3, 0⟩] w (Fac3 w)) := fun w => rFactor_3 ek ek_is (fun args w => by show (callFunc 63 args).run Tryz.prog w = .ok (.enter 63 args) w; go_simp) (fun w => split_3 w) w
  have HNum : Hid (∀ w, Calls Tryz.prog 37 #[] w fun e w' => e = .returned ek.v ∧ Below w.heap.size w w') := fun w => ek_numbers w
  go_enter Tryz.func25, Tryz.ntmps25
  go_wp2_with fail
  have X0 := sv_alloc (sv_new w 23 w.heap.size rfl 3 0) (.cells #[.int .i64 0, .int .i64 0] 28)
  have F0 := sv_new (w.alloc (.cells #[.int .i64 3, .int .i64 0] 23)) 28 (w.heap.size + 1) (by simp) 0 0
  have K0 := below2 w (.cells #[.int .i64 3, .int .i64 0] 23) (.cells #[.int .i64 0, .int .i64 0] 28)
  obtain ⟨W0, hW0⟩ : ∃ W0, W0 = (w.alloc (.cells #[.int .i64 3, .int .i64 0] 23)).alloc (.cells #[.int .i64 0, .int .i64 0] 28) := ⟨_, rfl⟩
  rw [← hW0] at X0 F0 K0 ⊢
  clear hW0
  refine wp_region_G (fun W => Rp w.heap.size ⟨3, 0⟩ W) 8 (by kernel_rfl) ⟨X0.c0, X0.c1⟩ (fun hHeld => ?_)
  refine wpAnyG_take (i := 1) (v := ?v1x1) rfl (by kernel_rfl) (fun _ _ _ h => h) (Or.inl ⟨by rfl, ?y1x1⟩) hHeld ?r1x1
  case y1x1 => (intro wS hSw; obtain ⟨s1, s2⟩ := hSw; go_simp; try with_reducible rfl)
  try simp only [Act.put, List.setIfInBounds_toArray, List.set_cons_zero, List.set_cons_succ]
  refine wpAnyG_one (i := 0) rfl (by kernel_rfl) (fun K hK => ?_)
  go_simp
  refine (HNum.out _).mono ?_
  rintro e w1 ⟨rfl, k1⟩
  replace k1 := ((Below.refl _ _).drew).trans k1
  have X1 := X0.below k1
  have F1 := F0.below k1
  have K1 := K0.trans (k1.mono K0.size)
  refine hK.out _ _ ⟨X1.c0, X1.c1⟩ ?_
  clear hK K
  try simp only [Act.put, List.setIfInBounds_toArray, List.set_cons_zero, List.set_cons_succ]
  refine wpAnyG_one (i := 2) rfl (by kernel_rfl) (fun K hK => ?_)
  go_simp
  refine (HF.out _).mono ?_
  rintro e w2 ⟨g, cap, rfl, hs, ⟨hgz, hg⟩, k2⟩
  have X2 := X1.below k2
  have F2 := F1.below k2
  have K2 := K1.trans (k2.mono K1.size)
  have hgw : w.heap.size + 1 < g := by have := F1.lt; omega
  refine hK.out _ _ ⟨X2.c0, X2.c1⟩ ?_
  clear hK K
  try simp only [Act.put, List.setIfInBounds_toArray, List.set_cons_zero, List.set_cons_succ]
  clear hHeld
  have hHeld : (fun W => Rp w.heap.size ⟨3, 0⟩ W) w2 := ⟨X2.c0, X2.c1⟩
  refine wpAnyG_take (i := 3) (v := ?v3x2) rfl (by kernel_rfl) (fun _ _ _ h => h) (Or.inl ⟨by rfl, ?y3x2⟩) hHeld ?r3x2
  case y3x2 => (intro wS hSw; obtain ⟨s1, s2⟩ := hSw; go_simp; try with_reducible rfl)
  try simp only [Act.put, List.setIfInBounds_toArray, List.set_cons_zero, List.set_cons_succ]
  refine wpAnyG_take (i := 4) (v := ?v4x3) rfl (by kernel_rfl) (fun _ _ _ h => h) (Or.inl ⟨by rfl, ?y4x3⟩) hHeld ?r4x3
  case y4x3 => (intro wS hSw; obtain ⟨s1, s2⟩ := hSw; go_simp; try with_reducible rfl)
  try simp only [Act.put, List.setIfInBounds_toArray, List.set_cons_zero, List.set_cons_succ]
  refine wpAnyG_take (i := 5) (v := ?v5x4) rfl (by kernel_rfl) (fun _ _ _ h => h) (Or.inl ⟨by rfl, ?y5x4⟩) hHeld ?r5x4
  case y5x4 => (intro wS hSw; obtain ⟨s1, s2⟩ := hSw; go_simp; try with_reducible rfl)
  try simp only [Act.put, List.setIfInBounds_toArray, List.set_cons_zero, List.set_cons_succ]
  refine wpAnyG_one (i := 6) rfl (by kernel_rfl) (fun K hK => ?_)
  go_simp
  refine hK.out _ _ ⟨X2.c0, X2.c1⟩ ?_
  clear hK K
  try simp only [Act.put, List.setIfInBounds_toArray, List.set_cons_zero, List.set_cons_succ]
  refine wpAnyG_one (i := 7) rfl (by kernel_rfl) (fun K hK => ?_)
  go_simp
  refine hK.out _ _ ⟨X2.c0, X2.c1⟩ ?_
  clear hK K
  try simp only [Act.put, List.setIfInBounds_toArray, List.set_cons_zero, List.set_cons_succ]
  have f0 := F2.c0
  have f1 := F2.c1
  have f2 := F2.f0
  have f3 := F2.f1
  have f4 := F2.lt
  refine wpAnyG_last (i := 8) rfl (by kernel_rfl) (by kernel_rfl) (fun K hK => ?_)
  go_simp
  refine hK.out _ _ ?_
  clear hK K
  try simp only [Act.put, List.setIfInBounds_toArray, List.set_cons_zero, List.set_cons_succ]
  refine wpAnyG_done (by kernel_rfl) ?_ _
  have HE : Hid (Sv (w.heap.size + 1) 0 0 ((w2.setCell ⟨w.heap.size + 1, 0, none⟩ (.int .i64 0)).setCell ⟨w.heap.size + 1, 1, none⟩ (.int .i64 0))) := F2.set 0 0
  have HS5 : Hid (S3c g ((w2.setCell ⟨w.heap.size + 1, 0, none⟩ (.int .i64 0)).setCell ⟨w.heap.size + 1, 1, none⟩ (.int .i64 0)) ∧ g < ((w2.setCell ⟨w.heap.size + 1, 0, none⟩ (.int .i64 0)).setCell ⟨w.heap.size + 1, 1, none⟩ (.int .i64 0)).heap.size) := ⟨s3_set hs (by omega) _ _, by simpa [World.setCell] using hg⟩
  have HK5 : Hid (Below w.heap.size w ((w2.setCell ⟨w.heap.size + 1, 0, none⟩ (.int .i64 0)).setCell ⟨w.heap.size + 1, 1, none⟩ (.int .i64 0))) := (K2.setCell (by show w.heap.size ≤ w.heap.size + 1; omega) _).setCell (by show w.heap.size ≤ w.heap.size + 1; omega) _
  clear hHeld X0 X1 X2 F0 F1 F2 K0 K1 K2 f0 f1 f2 f3 f4 hs hg k1 k2
  go_wp2_with fail
  generalize hWF : World.setCell _ _ _ = WF
  have E : Sv (w.heap.size + 1) 0 0 WF := hWF ▸ HE.out
  have E2 : S3c g WF ∧ g < WF.heap.size := hWF ▸ HS5.out
  have E3 : Below w.heap.size w WF := hWF ▸ HK5.out
  have e0 := E.c0
  have e1 := E.c1
  have e4 := E.lt
  exact bodyPost_ret (v := .tuple #[.int .i64 5, .slice (some ⟨g, 0, none⟩) 1 cap, fv (0, 0)]) (by simp [results, Tryz.results25, go_sem, e0, e1, e4]) rfl ⟨g, cap, rfl, E2.1, ⟨by omega, E2.2⟩, E3⟩

theorem eisen_begun (w : World) : Calls Tryz.prog 20 #[] w fun e w' => e = .returned (.bool true) ∧ Below w.heap.size w w' := by
  go_enter Tryz.func20, Tryz.ntmps20
  go_wp2_with fail
  refine (eFactor_3 _).mono ?_
  rintro e w1 ⟨g, cap, rfl, s, ⟨_, hg⟩, k1⟩
  obtain ⟨c0, c1, c2⟩ := s
  have HK1 : Hid (Below w.heap.size w w1) := k1
  clear k1
  go_wp2_with fail
  go_ret
  exact ⟨rfl, HK1.out.alloc HK1.out.size _⟩

end Go.Proofs.YtogdggdaaiajnadGreatDoor.E3
