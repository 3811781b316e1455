/- The law CurveAdds, walked. -/
import Derived.Test.YtbeceimopamllaaDoorCuV
set_option linter.unusedSimpArgs false
set_option linter.unusedVariables false
set_option maxRecDepth 100000
namespace Go.Proofs.YtbeceimopamllaaDoor
open Go.RowKit EC

set_option maxHeartbeats 8000000 in
theorem adds_bad_bad (p a b c d c2 d2 n : Int) (q r : Pn) (w : World) (h : Of p a b [q, r] c d) (hc : c ≠ 0) (h2 : Of p a b [q] c2 d2) (hc2 : c2 ≠ 0) (hT : Tb w) :
    Calls Tryd.prog 4 #[.int .i64 p, .int .i64 a, .int .i64 b, .int .i64 n, Pv q, Pv r] w fun e w' => e = .returned (.bool true) ∧ Below w.heap.size w w' := by
  have HBg : Hid (∀ w, Tb w → Calls Tryd.prog 10 #[] w fun e w' => e = .returned (.bool true) ∧ Below w.heap.size w w') := fun w h => curveBegun_any w h
  have HAd : Hid (∀ w, Tb w → Calls Tryd.prog 14 #[.int .i64 p, .int .i64 a, .int .i64 b, Pv q, Pv r] w fun e w' => e = .returned (.tuple #[Pv zP, .agg #[.int .i64 c, .int .i64 d]]) ∧ Below w.heap.size w w') := fun w hT => Add_bad p a b c d q r w h hc hT
  have HOf : Hid (∀ w sl, PS w sl [q, r] → Calls Tryd.prog 15 #[.int .i64 p, .int .i64 a, .int .i64 b, sl] w fun e w' => e = .returned (.agg #[.int .i64 c, .int .i64 d]) ∧ Below w.heap.size w w') := fun w sl hs => offCurve_any p a b c d sl [q, r] w h hs (by simp)
  have hcb : (c != 0) = true := by simp [bne]; exact hc
  have hcb2 : (c == 0) = false := beq_eq_false_iff_ne.2 hc
  have HTm : Hid (∀ w, Tb w → Calls Tryd.prog 17 #[.int .i64 p, .int .i64 a, .int .i64 b, .int .i64 n, Pv q] w fun e w' => e = .returned (.tuple #[Pv zP, .agg #[.int .i64 c2, .int .i64 d2]]) ∧ Below w.heap.size w w') := fun w hT => Times_bad p a b c2 d2 n q w h2 hc2 hT
  have HOr : Hid (∀ w, Tb w → Calls Tryd.prog 18 #[.int .i64 p, .int .i64 a, .int .i64 b, Pv q] w fun e w' => e = .returned (.tuple #[.int .i64 0, .agg #[.int .i64 c2, .int .i64 d2]]) ∧ Below w.heap.size w w') := fun w hT => Order_bad p a b c2 d2 q w h2 hc2 hT
  have HOq : Hid (∀ w sl, PS w sl [q] → Calls Tryd.prog 15 #[.int .i64 p, .int .i64 a, .int .i64 b, sl] w fun e w' => e = .returned (.agg #[.int .i64 c2, .int .i64 d2]) ∧ Below w.heap.size w w') := fun w sl hs => offCurve_any p a b c2 d2 sl [q] w h2 hs (by simp)
  have hcc : (c2 == 0) = false := beq_eq_false_iff_ne.2 hc2
  have hcd : (c2 != 0) = true := by simp [bne]; exact hc2
  have HT : Hid (Tb w) := hT
  clear h hc h2 hc2 hT
  unfold Pv at HAd HTm HOr
  unfold zP at HAd HTm
  unfold Pv
  go_enter Tryd.func4, Tryd.ntmps4
  have HM : Hid (Mn [] w w) := Mn.nil w
  have HM' : Hid (Mn [(w.heap.size, [.int .i64 q.x, .int .i64 q.y, .bool q.far], 30)] w (World.alloc w (.cells #[.int .i64 q.x, .int .i64 q.y, .bool q.far] 30))) := HM.out.new [.int .i64 q.x, .int .i64 q.y, .bool q.far] 30 (by simp)
  clear HM
  have HM : Hid (Mn [(w.heap.size, [.int .i64 q.x, .int .i64 q.y, .bool q.far], 30)] w (World.alloc w (.cells #[.int .i64 q.x, .int .i64 q.y, .bool q.far] 30))) := HM'
  clear HM'
  have HM' : Hid (Mn [(w.heap.size + 1, [.int .i64 r.x, .int .i64 r.y, .bool r.far], 30), (w.heap.size, [.int .i64 q.x, .int .i64 q.y, .bool q.far], 30)] w (World.alloc (World.alloc w (.cells #[.int .i64 q.x, .int .i64 q.y, .bool q.far] 30)) (.cells #[.int .i64 r.x, .int .i64 r.y, .bool r.far] 30))) := HM.out.new [.int .i64 r.x, .int .i64 r.y, .bool r.far] 30 (by simp)
  clear HM
  have HM : Hid (Mn [(w.heap.size + 1, [.int .i64 r.x, .int .i64 r.y, .bool r.far], 30), (w.heap.size, [.int .i64 q.x, .int .i64 q.y, .bool q.far], 30)] w (World.alloc (World.alloc w (.cells #[.int .i64 q.x, .int .i64 q.y, .bool q.far] 30)) (.cells #[.int .i64 r.x, .int .i64 r.y, .bool r.far] 30))) := HM'
  clear HM'
  go_wp2_with fail
  refine (HAd.out _ (HT.out.below HM.out.k)).mono ?_
  rintro e w1 ⟨rfl, k1⟩
  have HM' : Hid (Mn [(w.heap.size + 1, [.int .i64 r.x, .int .i64 r.y, .bool r.far], 30), (w.heap.size, [.int .i64 q.x, .int .i64 q.y, .bool q.far], 30)] w w1) := HM.out.below k1
  clear HM k1
  have HM : Hid (Mn [(w.heap.size + 1, [.int .i64 r.x, .int .i64 r.y, .bool r.far], 30), (w.heap.size, [.int .i64 q.x, .int .i64 q.y, .bool q.far], 30)] w w1) := HM'
  clear HM'
  have HM' : Hid (Mn [(w1.heap.size, [.int .i64 0, .int .i64 0, .bool false], 30), (w.heap.size + 1, [.int .i64 r.x, .int .i64 r.y, .bool r.far], 30), (w.heap.size, [.int .i64 q.x, .int .i64 q.y, .bool q.far], 30)] w (World.alloc w1 (.cells #[.int .i64 0, .int .i64 0, .bool false] 30))) := HM.out.new [.int .i64 0, .int .i64 0, .bool false] 30 (by simp)
  clear HM
  have HM : Hid (Mn [(w1.heap.size, [.int .i64 0, .int .i64 0, .bool false], 30), (w.heap.size + 1, [.int .i64 r.x, .int .i64 r.y, .bool r.far], 30), (w.heap.size, [.int .i64 q.x, .int .i64 q.y, .bool q.far], 30)] w (World.alloc w1 (.cells #[.int .i64 0, .int .i64 0, .bool false] 30))) := HM'
  clear HM'
  have HM' : Hid (Mn [(w1.heap.size + 1, [.int .i64 c, .int .i64 d], 23), (w1.heap.size, [.int .i64 0, .int .i64 0, .bool false], 30), (w.heap.size + 1, [.int .i64 r.x, .int .i64 r.y, .bool r.far], 30), (w.heap.size, [.int .i64 q.x, .int .i64 q.y, .bool q.far], 30)] w (World.alloc (World.alloc w1 (.cells #[.int .i64 0, .int .i64 0, .bool false] 30)) (.cells #[.int .i64 c, .int .i64 d] 23))) := HM.out.new [.int .i64 c, .int .i64 d] 23 (by simp)
  clear HM
  have HM : Hid (Mn [(w1.heap.size + 1, [.int .i64 c, .int .i64 d], 23), (w1.heap.size, [.int .i64 0, .int .i64 0, .bool false], 30), (w.heap.size + 1, [.int .i64 r.x, .int .i64 r.y, .bool r.far], 30), (w.heap.size, [.int .i64 q.x, .int .i64 q.y, .bool q.far], 30)] w (World.alloc (World.alloc w1 (.cells #[.int .i64 0, .int .i64 0, .bool false] 30)) (.cells #[.int .i64 c, .int .i64 d] 23))) := HM'
  clear HM'
  have f1 : World.cell? (World.alloc (World.alloc w1 (.cells #[.int .i64 0, .int .i64 0, .bool false] 30)) (.cells #[.int .i64 c, .int .i64 d] 23)) ⟨w.heap.size, 0, none⟩ = some (.int .i64 q.x) := (HM.out.at 3 rfl).cell 0
  have f2 : World.cell? (World.alloc (World.alloc w1 (.cells #[.int .i64 0, .int .i64 0, .bool false] 30)) (.cells #[.int .i64 c, .int .i64 d] 23)) ⟨w.heap.size, 1, none⟩ = some (.int .i64 q.y) := (HM.out.at 3 rfl).cell 1
  have f3 : World.cell? (World.alloc (World.alloc w1 (.cells #[.int .i64 0, .int .i64 0, .bool false] 30)) (.cells #[.int .i64 c, .int .i64 d] 23)) ⟨w.heap.size, 2, none⟩ = some (.bool q.far) := (HM.out.at 3 rfl).cell 2
  have f4 : World.cell? (World.alloc (World.alloc w1 (.cells #[.int .i64 0, .int .i64 0, .bool false] 30)) (.cells #[.int .i64 c, .int .i64 d] 23)) ⟨w.heap.size + 1, 0, none⟩ = some (.int .i64 r.x) := (HM.out.at 2 rfl).cell 0
  have f5 : World.cell? (World.alloc (World.alloc w1 (.cells #[.int .i64 0, .int .i64 0, .bool false] 30)) (.cells #[.int .i64 c, .int .i64 d] 23)) ⟨w.heap.size + 1, 1, none⟩ = some (.int .i64 r.y) := (HM.out.at 2 rfl).cell 1
  have f6 : World.cell? (World.alloc (World.alloc w1 (.cells #[.int .i64 0, .int .i64 0, .bool false] 30)) (.cells #[.int .i64 c, .int .i64 d] 23)) ⟨w.heap.size + 1, 2, none⟩ = some (.bool r.far) := (HM.out.at 2 rfl).cell 2
  go_wp2_with fail
  have HM' : Hid (Mn [(w1.heap.size + 2, [.int .i64 q.x, .int .i64 q.y, .bool q.far, .int .i64 r.x, .int .i64 r.y, .bool r.far], 30), (w1.heap.size + 1, [.int .i64 c, .int .i64 d], 23), (w1.heap.size, [.int .i64 0, .int .i64 0, .bool false], 30), (w.heap.size + 1, [.int .i64 r.x, .int .i64 r.y, .bool r.far], 30), (w.heap.size, [.int .i64 q.x, .int .i64 q.y, .bool q.far], 30)] w (World.alloc (World.alloc (World.alloc w1 (.cells #[.int .i64 0, .int .i64 0, .bool false] 30)) (.cells #[.int .i64 c, .int .i64 d] 23)) (.cells #[.int .i64 q.x, .int .i64 q.y, .bool q.far, .int .i64 r.x, .int .i64 r.y, .bool r.far] 30))) := HM.out.new [.int .i64 q.x, .int .i64 q.y, .bool q.far, .int .i64 r.x, .int .i64 r.y, .bool r.far] 30 (by simp)
  clear HM
  have HM : Hid (Mn [(w1.heap.size + 2, [.int .i64 q.x, .int .i64 q.y, .bool q.far, .int .i64 r.x, .int .i64 r.y, .bool r.far], 30), (w1.heap.size + 1, [.int .i64 c, .int .i64 d], 23), (w1.heap.size, [.int .i64 0, .int .i64 0, .bool false], 30), (w.heap.size + 1, [.int .i64 r.x, .int .i64 r.y, .bool r.far], 30), (w.heap.size, [.int .i64 q.x, .int .i64 q.y, .bool q.far], 30)] w (World.alloc (World.alloc (World.alloc w1 (.cells #[.int .i64 0, .int .i64 0, .bool false] 30)) (.cells #[.int .i64 c, .int .i64 d] 23)) (.cells #[.int .i64 q.x, .int .i64 q.y, .bool q.far, .int .i64 r.x, .int .i64 r.y, .bool r.far] 30))) := HM'
  clear HM'
  refine (HOf.out _ _ (PS.two (q := q) (r := r) (HM.out.at 0 rfl))).mono ?_
  rintro e w2 ⟨rfl, k1⟩
  clear f1 f2 f3 f4 f5 f6
  have HM' : Hid (Mn [(w1.heap.size + 2, [.int .i64 q.x, .int .i64 q.y, .bool q.far, .int .i64 r.x, .int .i64 r.y, .bool r.far], 30), (w1.heap.size + 1, [.int .i64 c, .int .i64 d], 23), (w1.heap.size, [.int .i64 0, .int .i64 0, .bool false], 30), (w.heap.size + 1, [.int .i64 r.x, .int .i64 r.y, .bool r.far], 30), (w.heap.size, [.int .i64 q.x, .int .i64 q.y, .bool q.far], 30)] w w2) := HM.out.below k1
  clear HM k1
  have HM : Hid (Mn [(w1.heap.size + 2, [.int .i64 q.x, .int .i64 q.y, .bool q.far, .int .i64 r.x, .int .i64 r.y, .bool r.far], 30), (w1.heap.size + 1, [.int .i64 c, .int .i64 d], 23), (w1.heap.size, [.int .i64 0, .int .i64 0, .bool false], 30), (w.heap.size + 1, [.int .i64 r.x, .int .i64 r.y, .bool r.far], 30), (w.heap.size, [.int .i64 q.x, .int .i64 q.y, .bool q.far], 30)] w w2) := HM'
  clear HM'
  have HM' : Hid (Mn [(w2.heap.size, [.int .i64 c, .int .i64 d], 23), (w1.heap.size + 2, [.int .i64 q.x, .int .i64 q.y, .bool q.far, .int .i64 r.x, .int .i64 r.y, .bool r.far], 30), (w1.heap.size + 1, [.int .i64 c, .int .i64 d], 23), (w1.heap.size, [.int .i64 0, .int .i64 0, .bool false], 30), (w.heap.size + 1, [.int .i64 r.x, .int .i64 r.y, .bool r.far], 30), (w.heap.size, [.int .i64 q.x, .int .i64 q.y, .bool q.far], 30)] w (World.alloc w2 (.cells #[.int .i64 c, .int .i64 d] 23))) := HM.out.new [.int .i64 c, .int .i64 d] 23 (by simp)
  clear HM
  have HM : Hid (Mn [(w2.heap.size, [.int .i64 c, .int .i64 d], 23), (w1.heap.size + 2, [.int .i64 q.x, .int .i64 q.y, .bool q.far, .int .i64 r.x, .int .i64 r.y, .bool r.far], 30), (w1.heap.size + 1, [.int .i64 c, .int .i64 d], 23), (w1.heap.size, [.int .i64 0, .int .i64 0, .bool false], 30), (w.heap.size + 1, [.int .i64 r.x, .int .i64 r.y, .bool r.far], 30), (w.heap.size, [.int .i64 q.x, .int .i64 q.y, .bool q.far], 30)] w (World.alloc w2 (.cells #[.int .i64 c, .int .i64 d] 23))) := HM'
  clear HM'
  go_wp2_with fail
  obtain ⟨W3, hW3⟩ : ∃ W3, W3 = (World.alloc w2 (.cells #[.int .i64 c, .int .i64 d] 23)) := ⟨_, rfl⟩
  rw [← hW3] at HM ⊢
  clear hW3
  refine wp_region_G (fun wz => World.cell? wz ⟨w1.heap.size, 0, none⟩ = some (.int .i64 0) ∧ World.cell? wz ⟨w1.heap.size, 1, none⟩ = some (.int .i64 0) ∧ World.cell? wz ⟨w1.heap.size, 2, none⟩ = some (.bool false) ∧ World.cell? wz ⟨w1.heap.size + 1, 0, none⟩ = some (.int .i64 c) ∧ World.cell? wz ⟨w1.heap.size + 1, 1, none⟩ = some (.int .i64 d) ∧ World.cell? wz ⟨w2.heap.size, 0, none⟩ = some (.int .i64 c) ∧ World.cell? wz ⟨w2.heap.size, 1, none⟩ = some (.int .i64 d)) 30 (by kernel_rfl) ⟨(HM.out.at 3 rfl).cell 0, (HM.out.at 3 rfl).cell 1, (HM.out.at 3 rfl).cell 2, (HM.out.at 2 rfl).cell 0, (HM.out.at 2 rfl).cell 1, (HM.out.at 0 rfl).cell 0, (HM.out.at 0 rfl).cell 1⟩ (fun hHeld => ?_)
  refine wpAnyG_one (i := 0) rfl (by kernel_rfl) (fun K hK => ?_)
  go_simp
  refine (HBg.out _ (HT.out.below (HM.out.k.drew))).mono ?_
  rintro e w3 ⟨rfl, k1⟩
  have HM' : Hid (Mn [(w2.heap.size, [.int .i64 c, .int .i64 d], 23), (w1.heap.size + 2, [.int .i64 q.x, .int .i64 q.y, .bool q.far, .int .i64 r.x, .int .i64 r.y, .bool r.far], 30), (w1.heap.size + 1, [.int .i64 c, .int .i64 d], 23), (w1.heap.size, [.int .i64 0, .int .i64 0, .bool false], 30), (w.heap.size + 1, [.int .i64 r.x, .int .i64 r.y, .bool r.far], 30), (w.heap.size, [.int .i64 q.x, .int .i64 q.y, .bool q.far], 30)] w w3) := HM.out.below ((Below.refl _ _).drew.trans k1)
  clear HM k1
  have HM : Hid (Mn [(w2.heap.size, [.int .i64 c, .int .i64 d], 23), (w1.heap.size + 2, [.int .i64 q.x, .int .i64 q.y, .bool q.far, .int .i64 r.x, .int .i64 r.y, .bool r.far], 30), (w1.heap.size + 1, [.int .i64 c, .int .i64 d], 23), (w1.heap.size, [.int .i64 0, .int .i64 0, .bool false], 30), (w.heap.size + 1, [.int .i64 r.x, .int .i64 r.y, .bool r.far], 30), (w.heap.size, [.int .i64 q.x, .int .i64 q.y, .bool q.far], 30)] w w3) := HM'
  clear HM'
  refine hK.out _ _ ⟨(HM.out.at 3 rfl).cell 0, (HM.out.at 3 rfl).cell 1, (HM.out.at 3 rfl).cell 2, (HM.out.at 2 rfl).cell 0, (HM.out.at 2 rfl).cell 1, (HM.out.at 0 rfl).cell 0, (HM.out.at 0 rfl).cell 1⟩ ?_
  clear hK K
  try simp only [Act.put, List.setIfInBounds_toArray, List.set_cons_zero, List.set_cons_succ]
  clear hHeld
  have hHeld : (fun wz => World.cell? wz ⟨w1.heap.size, 0, none⟩ = some (.int .i64 0) ∧ World.cell? wz ⟨w1.heap.size, 1, none⟩ = some (.int .i64 0) ∧ World.cell? wz ⟨w1.heap.size, 2, none⟩ = some (.bool false) ∧ World.cell? wz ⟨w1.heap.size + 1, 0, none⟩ = some (.int .i64 c) ∧ World.cell? wz ⟨w1.heap.size + 1, 1, none⟩ = some (.int .i64 d) ∧ World.cell? wz ⟨w2.heap.size, 0, none⟩ = some (.int .i64 c) ∧ World.cell? wz ⟨w2.heap.size, 1, none⟩ = some (.int .i64 d)) w3 := ⟨(HM.out.at 3 rfl).cell 0, (HM.out.at 3 rfl).cell 1, (HM.out.at 3 rfl).cell 2, (HM.out.at 2 rfl).cell 0, (HM.out.at 2 rfl).cell 1, (HM.out.at 0 rfl).cell 0, (HM.out.at 0 rfl).cell 1⟩
  refine wpAnyG_take (i := 1) (v := .bool false) rfl (by kernel_rfl) (fun _ _ _ h => h) (Or.inl ⟨by kernel_rfl, ?y1x1⟩) hHeld ?r1x1
  case y1x1 => (intro wS hSw; (obtain ⟨s1, s2, s3, s4, s5, s6, s7⟩ := hSw; go_simp))
  try simp only [Act.put, List.setIfInBounds_toArray, List.set_cons_zero, List.set_cons_succ]
  refine wpAnyG_take (i := 2) (v := .bool false) rfl (by kernel_rfl) (fun _ _ _ h => h) (Or.inl ⟨by kernel_rfl, ?y2x2⟩) hHeld ?r2x2
  case y2x2 => (intro wS hSw; (obtain ⟨s1, s2, s3, s4, s5, s6, s7⟩ := hSw; go_simp))
  try simp only [Act.put, List.setIfInBounds_toArray, List.set_cons_zero, List.set_cons_succ]
  refine wpAnyG_take (i := 3) (v := .agg #[.int .i64 c, .int .i64 d]) rfl (by kernel_rfl) (fun _ _ _ h => h) (Or.inl ⟨by kernel_rfl, ?y3x3⟩) hHeld ?r3x3
  case y3x3 => (intro wS hSw; (obtain ⟨s1, s2, s3, s4, s5, s6, s7⟩ := hSw; go_simp))
  try simp only [Act.put, List.setIfInBounds_toArray, List.set_cons_zero, List.set_cons_succ]
  refine wpAnyG_take (i := 4) (v := .agg #[.int .i64 c, .int .i64 d]) rfl (by kernel_rfl) (fun _ _ _ h => h) (Or.inl ⟨by kernel_rfl, ?y4x4⟩) hHeld ?r4x4
  case y4x4 => (intro wS hSw; (obtain ⟨s1, s2, s3, s4, s5, s6, s7⟩ := hSw; go_simp))
  try simp only [Act.put, List.setIfInBounds_toArray, List.set_cons_zero, List.set_cons_succ]
  refine wpAnyG_take (i := 5) (v := .bool false) rfl (by kernel_rfl) (fun _ _ _ h => h) (Or.inl ⟨by kernel_rfl, ?y5x5⟩) hHeld ?r5x5
  case y5x5 => (intro wS hSw; (obtain ⟨s1, s2, s3, s4, s5, s6, s7⟩ := hSw; go_simp; try simp))
  try simp only [Act.put, List.setIfInBounds_toArray, List.set_cons_zero, List.set_cons_succ]
  refine wpAnyG_take (i := 6) (v := .bool false) rfl (by kernel_rfl) (fun _ _ _ h => h) (Or.inl ⟨by kernel_rfl, ?y6x6⟩) hHeld ?r6x6
  case y6x6 => (intro wS hSw; (obtain ⟨s1, s2, s3, s4, s5, s6, s7⟩ := hSw; go_simp))
  try simp only [Act.put, List.setIfInBounds_toArray, List.set_cons_zero, List.set_cons_succ]
  refine wpAnyG_take (i := 7) (v := .bool false) rfl (by kernel_rfl) (fun _ _ _ h => h) (Or.inl ⟨by kernel_rfl, ?y7x7⟩) hHeld ?r7x7
  case y7x7 => (intro wS hSw; (obtain ⟨s1, s2, s3, s4, s5, s6, s7⟩ := hSw; go_simp))
  try simp only [Act.put, List.setIfInBounds_toArray, List.set_cons_zero, List.set_cons_succ]
  refine wpAnyG_take (i := 8) (v := .pointer (some ⟨w2.heap.size, 0, none⟩)) rfl (by kernel_rfl) (fun _ _ _ h => h) (Or.inl ⟨by kernel_rfl, ?y8x8⟩) hHeld ?r8x8
  case y8x8 => (intro wS hSw; (obtain ⟨s1, s2, s3, s4, s5, s6, s7⟩ := hSw; go_simp))
  try simp only [Act.put, List.setIfInBounds_toArray, List.set_cons_zero, List.set_cons_succ]
  refine wpAnyG_take (i := 9) (v := .int .i64 c) rfl (by kernel_rfl) (fun _ _ _ h => h) (Or.inl ⟨by kernel_rfl, ?y9x9⟩) hHeld ?r9x9
  case y9x9 => (intro wS hSw; (obtain ⟨s1, s2, s3, s4, s5, s6, s7⟩ := hSw; go_simp))
  try simp only [Act.put, List.setIfInBounds_toArray, List.set_cons_zero, List.set_cons_succ]
  refine wpAnyG_take (i := 10) (v := .bool true) rfl (by kernel_rfl) (fun _ _ _ h => h) (Or.inl ⟨by kernel_rfl, ?y10x10⟩) hHeld ?r10x10
  case y10x10 => (intro wS hSw; (obtain ⟨s1, s2, s3, s4, s5, s6, s7⟩ := hSw; go_simp; try simp only [hcb]))
  try simp only [Act.put, List.setIfInBounds_toArray, List.set_cons_zero, List.set_cons_succ]
  refine wpAnyG_take (i := 11) (v := .bool true) rfl (by kernel_rfl) (fun _ _ _ h => h) (Or.inl ⟨by kernel_rfl, ?y11x11⟩) hHeld ?r11x11
  case y11x11 => (intro wS hSw; (obtain ⟨s1, s2, s3, s4, s5, s6, s7⟩ := hSw; go_simp))
  try simp only [Act.put, List.setIfInBounds_toArray, List.set_cons_zero, List.set_cons_succ]
  refine wpAnyG_take (i := 12) (v := .agg #[.int .i64 0, .int .i64 0, .bool false]) rfl (by kernel_rfl) (fun _ _ _ h => h) (Or.inl ⟨by kernel_rfl, ?y12x12⟩) hHeld ?r12x12
  case y12x12 => (intro wS hSw; (obtain ⟨s1, s2, s3, s4, s5, s6, s7⟩ := hSw; go_simp))
  try simp only [Act.put, List.setIfInBounds_toArray, List.set_cons_zero, List.set_cons_succ]
  refine wpAnyG_take (i := 13) (v := .agg #[.int .i64 0, .int .i64 0, .bool false]) rfl (by kernel_rfl) (fun _ _ _ h => h) (Or.inl ⟨by kernel_rfl, ?y13x13⟩) hHeld ?r13x13
  case y13x13 => (intro wS hSw; (obtain ⟨s1, s2, s3, s4, s5, s6, s7⟩ := hSw; go_simp))
  try simp only [Act.put, List.setIfInBounds_toArray, List.set_cons_zero, List.set_cons_succ]
  refine wpAnyG_take (i := 14) (v := .bool false) rfl (by kernel_rfl) (fun _ _ _ h => h) (Or.inl ⟨by kernel_rfl, ?y14x14⟩) hHeld ?r14x14
  case y14x14 => (intro wS hSw; (obtain ⟨s1, s2, s3, s4, s5, s6, s7⟩ := hSw; go_simp))
  try simp only [Act.put, List.setIfInBounds_toArray, List.set_cons_zero, List.set_cons_succ]
  refine wpAnyG_take (i := 15) (v := .bool false) rfl (by kernel_rfl) (fun _ _ _ h => h) (Or.inl ⟨by kernel_rfl, ?y15x15⟩) hHeld ?r15x15
  case y15x15 => (intro wS hSw; (obtain ⟨s1, s2, s3, s4, s5, s6, s7⟩ := hSw; go_simp))
  try simp only [Act.put, List.setIfInBounds_toArray, List.set_cons_zero, List.set_cons_succ]
  refine wpAnyG_take (i := 16) (v := .bool false) rfl (by kernel_rfl) (fun _ _ _ h => h) (Or.inl ⟨by kernel_rfl, ?y16x16⟩) hHeld ?r16x16
  case y16x16 => (intro wS hSw; (obtain ⟨s1, s2, s3, s4, s5, s6, s7⟩ := hSw; go_simp))
  try simp only [Act.put, List.setIfInBounds_toArray, List.set_cons_zero, List.set_cons_succ]
  refine wpAnyG_take (i := 17) (v := .bool false) rfl (by kernel_rfl) (fun _ _ _ h => h) (Or.inl ⟨by kernel_rfl, ?y17x17⟩) hHeld ?r17x17
  case y17x17 => (intro wS hSw; (obtain ⟨s1, s2, s3, s4, s5, s6, s7⟩ := hSw; go_simp))
  try simp only [Act.put, List.setIfInBounds_toArray, List.set_cons_zero, List.set_cons_succ]
  refine wpAnyG_take (i := 18) (v := .pointer (some ⟨w2.heap.size, 0, none⟩)) rfl (by kernel_rfl) (fun _ _ _ h => h) (Or.inl ⟨by kernel_rfl, ?y18x18⟩) hHeld ?r18x18
  case y18x18 => (intro wS hSw; (obtain ⟨s1, s2, s3, s4, s5, s6, s7⟩ := hSw; go_simp))
  try simp only [Act.put, List.setIfInBounds_toArray, List.set_cons_zero, List.set_cons_succ]
  refine wpAnyG_take (i := 19) (v := .int .i64 c) rfl (by kernel_rfl) (fun _ _ _ h => h) (Or.inl ⟨by kernel_rfl, ?y19x19⟩) hHeld ?r19x19
  case y19x19 => (intro wS hSw; (obtain ⟨s1, s2, s3, s4, s5, s6, s7⟩ := hSw; go_simp))
  try simp only [Act.put, List.setIfInBounds_toArray, List.set_cons_zero, List.set_cons_succ]
  refine wpAnyG_take (i := 20) (v := .bool false) rfl (by kernel_rfl) (fun _ _ _ h => h) (Or.inl ⟨by kernel_rfl, ?y20x20⟩) hHeld ?r20x20
  case y20x20 => (intro wS hSw; (obtain ⟨s1, s2, s3, s4, s5, s6, s7⟩ := hSw; go_simp; try simp only [hcb2]))
  try simp only [Act.put, List.setIfInBounds_toArray, List.set_cons_zero, List.set_cons_succ]
  refine wpAnyG_take (i := 21) (v := .bool false) rfl (by kernel_rfl) (fun _ _ _ h => h) (Or.inl ⟨by kernel_rfl, ?y21x21⟩) hHeld ?r21x21
  case y21x21 => (intro wS hSw; (obtain ⟨s1, s2, s3, s4, s5, s6, s7⟩ := hSw; go_simp))
  try simp only [Act.put, List.setIfInBounds_toArray, List.set_cons_zero, List.set_cons_succ]
  refine wpAnyG_take (i := 22) (v := undef) rfl (by kernel_rfl) (fun _ _ _ h => h) (Or.inr ⟨by kernel_rfl, rfl⟩) hHeld ?_
  try simp only [Act.put, List.setIfInBounds_toArray, List.set_cons_zero, List.set_cons_succ]
  refine wpAnyG_take (i := 23) (v := undef) rfl (by kernel_rfl) (fun _ _ _ h => h) (Or.inr ⟨by kernel_rfl, rfl⟩) hHeld ?_
  try simp only [Act.put, List.setIfInBounds_toArray, List.set_cons_zero, List.set_cons_succ]
  refine wpAnyG_take (i := 24) (v := undef) rfl (by kernel_rfl) (fun _ _ _ h => h) (Or.inr ⟨by kernel_rfl, rfl⟩) hHeld ?_
  try simp only [Act.put, List.setIfInBounds_toArray, List.set_cons_zero, List.set_cons_succ]
  refine wpAnyG_take (i := 25) (v := undef) rfl (by kernel_rfl) (fun _ _ _ h => h) (Or.inr ⟨by kernel_rfl, rfl⟩) hHeld ?_
  try simp only [Act.put, List.setIfInBounds_toArray, List.set_cons_zero, List.set_cons_succ]
  refine wpAnyG_take (i := 26) (v := undef) rfl (by kernel_rfl) (fun _ _ _ h => h) (Or.inr ⟨by kernel_rfl, rfl⟩) hHeld ?_
  try simp only [Act.put, List.setIfInBounds_toArray, List.set_cons_zero, List.set_cons_succ]
  refine wpAnyG_take (i := 27) (v := undef) rfl (by kernel_rfl) (fun _ _ _ h => h) (Or.inr ⟨by kernel_rfl, rfl⟩) hHeld ?_
  try simp only [Act.put, List.setIfInBounds_toArray, List.set_cons_zero, List.set_cons_succ]
  refine wpAnyG_take (i := 28) (v := undef) rfl (by kernel_rfl) (fun _ _ _ h => h) (Or.inr ⟨by kernel_rfl, rfl⟩) hHeld ?_
  try simp only [Act.put, List.setIfInBounds_toArray, List.set_cons_zero, List.set_cons_succ]
  refine wpAnyG_take (i := 29) (v := .bool false) rfl (by kernel_rfl) (fun _ _ _ h => h) (Or.inl ⟨by kernel_rfl, ?y29x22⟩) hHeld ?r29x22
  case y29x22 => (intro wS hSw; (obtain ⟨s1, s2, s3, s4, s5, s6, s7⟩ := hSw; go_simp))
  try simp only [Act.put, List.setIfInBounds_toArray, List.set_cons_zero, List.set_cons_succ]
  refine wpAnyG_last (i := 30) rfl (by kernel_rfl) (by kernel_rfl) (fun K hK => ?_)
  go_simp
  refine hK.out _ _ ?_
  clear hK K
  try simp only [Act.put, List.setIfInBounds_toArray, List.set_cons_zero, List.set_cons_succ]
  refine wpAnyG_done (by kernel_rfl) ?_ _
  clear hHeld
  have f7 : World.cell? w3 ⟨w.heap.size, 0, none⟩ = some (.int .i64 q.x) := (HM.out.at 5 rfl).cell 0
  have f8 : World.cell? w3 ⟨w.heap.size, 1, none⟩ = some (.int .i64 q.y) := (HM.out.at 5 rfl).cell 1
  have f9 : World.cell? w3 ⟨w.heap.size, 2, none⟩ = some (.bool q.far) := (HM.out.at 5 rfl).cell 2
  go_wp2_with fail
  refine (HTm.out _ (HT.out.below HM.out.k)).mono ?_
  rintro e w5 ⟨rfl, k1⟩
  clear f7 f8 f9
  have HM' : Hid (Mn [(w2.heap.size, [.int .i64 c, .int .i64 d], 23), (w1.heap.size + 2, [.int .i64 q.x, .int .i64 q.y, .bool q.far, .int .i64 r.x, .int .i64 r.y, .bool r.far], 30), (w1.heap.size + 1, [.int .i64 c, .int .i64 d], 23), (w1.heap.size, [.int .i64 0, .int .i64 0, .bool false], 30), (w.heap.size + 1, [.int .i64 r.x, .int .i64 r.y, .bool r.far], 30), (w.heap.size, [.int .i64 q.x, .int .i64 q.y, .bool q.far], 30)] w w5) := HM.out.below k1
  clear HM k1
  have HM : Hid (Mn [(w2.heap.size, [.int .i64 c, .int .i64 d], 23), (w1.heap.size + 2, [.int .i64 q.x, .int .i64 q.y, .bool q.far, .int .i64 r.x, .int .i64 r.y, .bool r.far], 30), (w1.heap.size + 1, [.int .i64 c, .int .i64 d], 23), (w1.heap.size, [.int .i64 0, .int .i64 0, .bool false], 30), (w.heap.size + 1, [.int .i64 r.x, .int .i64 r.y, .bool r.far], 30), (w.heap.size, [.int .i64 q.x, .int .i64 q.y, .bool q.far], 30)] w w5) := HM'
  clear HM'
  have HM' : Hid (Mn [(w5.heap.size, [.int .i64 0, .int .i64 0, .bool false], 30), (w2.heap.size, [.int .i64 c, .int .i64 d], 23), (w1.heap.size + 2, [.int .i64 q.x, .int .i64 q.y, .bool q.far, .int .i64 r.x, .int .i64 r.y, .bool r.far], 30), (w1.heap.size + 1, [.int .i64 c, .int .i64 d], 23), (w1.heap.size, [.int .i64 0, .int .i64 0, .bool false], 30), (w.heap.size + 1, [.int .i64 r.x, .int .i64 r.y, .bool r.far], 30), (w.heap.size, [.int .i64 q.x, .int .i64 q.y, .bool q.far], 30)] w (World.alloc w5 (.cells #[.int .i64 0, .int .i64 0, .bool false] 30))) := HM.out.new [.int .i64 0, .int .i64 0, .bool false] 30 (by simp)
  clear HM
  have HM : Hid (Mn [(w5.heap.size, [.int .i64 0, .int .i64 0, .bool false], 30), (w2.heap.size, [.int .i64 c, .int .i64 d], 23), (w1.heap.size + 2, [.int .i64 q.x, .int .i64 q.y, .bool q.far, .int .i64 r.x, .int .i64 r.y, .bool r.far], 30), (w1.heap.size + 1, [.int .i64 c, .int .i64 d], 23), (w1.heap.size, [.int .i64 0, .int .i64 0, .bool false], 30), (w.heap.size + 1, [.int .i64 r.x, .int .i64 r.y, .bool r.far], 30), (w.heap.size, [.int .i64 q.x, .int .i64 q.y, .bool q.far], 30)] w (World.alloc w5 (.cells #[.int .i64 0, .int .i64 0, .bool false] 30))) := HM'
  clear HM'
  have f10 : World.cell? (World.alloc w5 (.cells #[.int .i64 0, .int .i64 0, .bool false] 30)) ⟨w1.heap.size + 1, 0, none⟩ = some (.int .i64 c) := (HM.out.at 3 rfl).cell 0
  have f11 : World.cell? (World.alloc w5 (.cells #[.int .i64 0, .int .i64 0, .bool false] 30)) ⟨w1.heap.size + 1, 1, none⟩ = some (.int .i64 d) := (HM.out.at 3 rfl).cell 1
  have f12 : World.frozen? (World.alloc w5 (.cells #[.int .i64 0, .int .i64 0, .bool false] 30)) ⟨w1.heap.size + 1, 0, none⟩ = false := (HM.out.at 3 rfl).frozen 0
  have f13 : World.frozen? (World.alloc w5 (.cells #[.int .i64 0, .int .i64 0, .bool false] 30)) ⟨w1.heap.size + 1, 1, none⟩ = false := (HM.out.at 3 rfl).frozen 1
  have HM' : Hid (Mn [(w5.heap.size, [.int .i64 0, .int .i64 0, .bool false], 30), (w2.heap.size, [.int .i64 c, .int .i64 d], 23), (w1.heap.size + 2, [.int .i64 q.x, .int .i64 q.y, .bool q.far, .int .i64 r.x, .int .i64 r.y, .bool r.far], 30), (w1.heap.size + 1, [.int .i64 c2, .int .i64 d], 23), (w1.heap.size, [.int .i64 0, .int .i64 0, .bool false], 30), (w.heap.size + 1, [.int .i64 r.x, .int .i64 r.y, .bool r.far], 30), (w.heap.size, [.int .i64 q.x, .int .i64 q.y, .bool q.far], 30)] w (World.setCell (World.alloc w5 (.cells #[.int .i64 0, .int .i64 0, .bool false] 30)) ⟨w1.heap.size + 1, 0, none⟩ (.int .i64 c2))) := HM.out.set 3 rfl 0 (.int .i64 c2)
  clear HM
  have HM : Hid (Mn [(w5.heap.size, [.int .i64 0, .int .i64 0, .bool false], 30), (w2.heap.size, [.int .i64 c, .int .i64 d], 23), (w1.heap.size + 2, [.int .i64 q.x, .int .i64 q.y, .bool q.far, .int .i64 r.x, .int .i64 r.y, .bool r.far], 30), (w1.heap.size + 1, [.int .i64 c2, .int .i64 d], 23), (w1.heap.size, [.int .i64 0, .int .i64 0, .bool false], 30), (w.heap.size + 1, [.int .i64 r.x, .int .i64 r.y, .bool r.far], 30), (w.heap.size, [.int .i64 q.x, .int .i64 q.y, .bool q.far], 30)] w (World.setCell (World.alloc w5 (.cells #[.int .i64 0, .int .i64 0, .bool false] 30)) ⟨w1.heap.size + 1, 0, none⟩ (.int .i64 c2))) := HM'
  clear HM'
  have HM' : Hid (Mn [(w5.heap.size, [.int .i64 0, .int .i64 0, .bool false], 30), (w2.heap.size, [.int .i64 c, .int .i64 d], 23), (w1.heap.size + 2, [.int .i64 q.x, .int .i64 q.y, .bool q.far, .int .i64 r.x, .int .i64 r.y, .bool r.far], 30), (w1.heap.size + 1, [.int .i64 c2, .int .i64 d2], 23), (w1.heap.size, [.int .i64 0, .int .i64 0, .bool false], 30), (w.heap.size + 1, [.int .i64 r.x, .int .i64 r.y, .bool r.far], 30), (w.heap.size, [.int .i64 q.x, .int .i64 q.y, .bool q.far], 30)] w (World.setCell (World.setCell (World.alloc w5 (.cells #[.int .i64 0, .int .i64 0, .bool false] 30)) ⟨w1.heap.size + 1, 0, none⟩ (.int .i64 c2)) ⟨w1.heap.size + 1, 1, none⟩ (.int .i64 d2))) := HM.out.set 3 rfl 1 (.int .i64 d2)
  clear HM
  have HM : Hid (Mn [(w5.heap.size, [.int .i64 0, .int .i64 0, .bool false], 30), (w2.heap.size, [.int .i64 c, .int .i64 d], 23), (w1.heap.size + 2, [.int .i64 q.x, .int .i64 q.y, .bool q.far, .int .i64 r.x, .int .i64 r.y, .bool r.far], 30), (w1.heap.size + 1, [.int .i64 c2, .int .i64 d2], 23), (w1.heap.size, [.int .i64 0, .int .i64 0, .bool false], 30), (w.heap.size + 1, [.int .i64 r.x, .int .i64 r.y, .bool r.far], 30), (w.heap.size, [.int .i64 q.x, .int .i64 q.y, .bool q.far], 30)] w (World.setCell (World.setCell (World.alloc w5 (.cells #[.int .i64 0, .int .i64 0, .bool false] 30)) ⟨w1.heap.size + 1, 0, none⟩ (.int .i64 c2)) ⟨w1.heap.size + 1, 1, none⟩ (.int .i64 d2))) := HM'
  clear HM'
  have f14 : World.cell? (World.setCell (World.setCell (World.alloc w5 (.cells #[.int .i64 0, .int .i64 0, .bool false] 30)) ⟨w1.heap.size + 1, 0, none⟩ (.int .i64 c2)) ⟨w1.heap.size + 1, 1, none⟩ (.int .i64 d2)) ⟨w.heap.size, 0, none⟩ = some (.int .i64 q.x) := (HM.out.at 6 rfl).cell 0
  have f15 : World.cell? (World.setCell (World.setCell (World.alloc w5 (.cells #[.int .i64 0, .int .i64 0, .bool false] 30)) ⟨w1.heap.size + 1, 0, none⟩ (.int .i64 c2)) ⟨w1.heap.size + 1, 1, none⟩ (.int .i64 d2)) ⟨w.heap.size, 1, none⟩ = some (.int .i64 q.y) := (HM.out.at 6 rfl).cell 1
  have f16 : World.cell? (World.setCell (World.setCell (World.alloc w5 (.cells #[.int .i64 0, .int .i64 0, .bool false] 30)) ⟨w1.heap.size + 1, 0, none⟩ (.int .i64 c2)) ⟨w1.heap.size + 1, 1, none⟩ (.int .i64 d2)) ⟨w.heap.size, 2, none⟩ = some (.bool q.far) := (HM.out.at 6 rfl).cell 2
  go_wp2_with fail
  refine (HOr.out _ (HT.out.below HM.out.k)).mono ?_
  rintro e w6 ⟨rfl, k1⟩
  clear f10 f11 f12 f13 f14 f15 f16
  have HM' : Hid (Mn [(w5.heap.size, [.int .i64 0, .int .i64 0, .bool false], 30), (w2.heap.size, [.int .i64 c, .int .i64 d], 23), (w1.heap.size + 2, [.int .i64 q.x, .int .i64 q.y, .bool q.far, .int .i64 r.x, .int .i64 r.y, .bool r.far], 30), (w1.heap.size + 1, [.int .i64 c2, .int .i64 d2], 23), (w1.heap.size, [.int .i64 0, .int .i64 0, .bool false], 30), (w.heap.size + 1, [.int .i64 r.x, .int .i64 r.y, .bool r.far], 30), (w.heap.size, [.int .i64 q.x, .int .i64 q.y, .bool q.far], 30)] w w6) := HM.out.below k1
  clear HM k1
  have HM : Hid (Mn [(w5.heap.size, [.int .i64 0, .int .i64 0, .bool false], 30), (w2.heap.size, [.int .i64 c, .int .i64 d], 23), (w1.heap.size + 2, [.int .i64 q.x, .int .i64 q.y, .bool q.far, .int .i64 r.x, .int .i64 r.y, .bool r.far], 30), (w1.heap.size + 1, [.int .i64 c2, .int .i64 d2], 23), (w1.heap.size, [.int .i64 0, .int .i64 0, .bool false], 30), (w.heap.size + 1, [.int .i64 r.x, .int .i64 r.y, .bool r.far], 30), (w.heap.size, [.int .i64 q.x, .int .i64 q.y, .bool q.far], 30)] w w6) := HM'
  clear HM'
  have HM' : Hid (Mn [(w6.heap.size, [.int .i64 c2, .int .i64 d2], 23), (w5.heap.size, [.int .i64 0, .int .i64 0, .bool false], 30), (w2.heap.size, [.int .i64 c, .int .i64 d], 23), (w1.heap.size + 2, [.int .i64 q.x, .int .i64 q.y, .bool q.far, .int .i64 r.x, .int .i64 r.y, .bool r.far], 30), (w1.heap.size + 1, [.int .i64 c2, .int .i64 d2], 23), (w1.heap.size, [.int .i64 0, .int .i64 0, .bool false], 30), (w.heap.size + 1, [.int .i64 r.x, .int .i64 r.y, .bool r.far], 30), (w.heap.size, [.int .i64 q.x, .int .i64 q.y, .bool q.far], 30)] w (World.alloc w6 (.cells #[.int .i64 c2, .int .i64 d2] 23))) := HM.out.new [.int .i64 c2, .int .i64 d2] 23 (by simp)
  clear HM
  have HM : Hid (Mn [(w6.heap.size, [.int .i64 c2, .int .i64 d2], 23), (w5.heap.size, [.int .i64 0, .int .i64 0, .bool false], 30), (w2.heap.size, [.int .i64 c, .int .i64 d], 23), (w1.heap.size + 2, [.int .i64 q.x, .int .i64 q.y, .bool q.far, .int .i64 r.x, .int .i64 r.y, .bool r.far], 30), (w1.heap.size + 1, [.int .i64 c2, .int .i64 d2], 23), (w1.heap.size, [.int .i64 0, .int .i64 0, .bool false], 30), (w.heap.size + 1, [.int .i64 r.x, .int .i64 r.y, .bool r.far], 30), (w.heap.size, [.int .i64 q.x, .int .i64 q.y, .bool q.far], 30)] w (World.alloc w6 (.cells #[.int .i64 c2, .int .i64 d2] 23))) := HM'
  clear HM'
  have f17 : World.cell? (World.alloc w6 (.cells #[.int .i64 c2, .int .i64 d2] 23)) ⟨w.heap.size, 0, none⟩ = some (.int .i64 q.x) := (HM.out.at 7 rfl).cell 0
  have f18 : World.cell? (World.alloc w6 (.cells #[.int .i64 c2, .int .i64 d2] 23)) ⟨w.heap.size, 1, none⟩ = some (.int .i64 q.y) := (HM.out.at 7 rfl).cell 1
  have f19 : World.cell? (World.alloc w6 (.cells #[.int .i64 c2, .int .i64 d2] 23)) ⟨w.heap.size, 2, none⟩ = some (.bool q.far) := (HM.out.at 7 rfl).cell 2
  go_wp2_with fail
  have HM' : Hid (Mn [(w6.heap.size + 1, [.int .i64 q.x, .int .i64 q.y, .bool q.far], 30), (w6.heap.size, [.int .i64 c2, .int .i64 d2], 23), (w5.heap.size, [.int .i64 0, .int .i64 0, .bool false], 30), (w2.heap.size, [.int .i64 c, .int .i64 d], 23), (w1.heap.size + 2, [.int .i64 q.x, .int .i64 q.y, .bool q.far, .int .i64 r.x, .int .i64 r.y, .bool r.far], 30), (w1.heap.size + 1, [.int .i64 c2, .int .i64 d2], 23), (w1.heap.size, [.int .i64 0, .int .i64 0, .bool false], 30), (w.heap.size + 1, [.int .i64 r.x, .int .i64 r.y, .bool r.far], 30), (w.heap.size, [.int .i64 q.x, .int .i64 q.y, .bool q.far], 30)] w (World.alloc (World.alloc w6 (.cells #[.int .i64 c2, .int .i64 d2] 23)) (.cells #[.int .i64 q.x, .int .i64 q.y, .bool q.far] 30))) := HM.out.new [.int .i64 q.x, .int .i64 q.y, .bool q.far] 30 (by simp)
  clear HM
  have HM : Hid (Mn [(w6.heap.size + 1, [.int .i64 q.x, .int .i64 q.y, .bool q.far], 30), (w6.heap.size, [.int .i64 c2, .int .i64 d2], 23), (w5.heap.size, [.int .i64 0, .int .i64 0, .bool false], 30), (w2.heap.size, [.int .i64 c, .int .i64 d], 23), (w1.heap.size + 2, [.int .i64 q.x, .int .i64 q.y, .bool q.far, .int .i64 r.x, .int .i64 r.y, .bool r.far], 30), (w1.heap.size + 1, [.int .i64 c2, .int .i64 d2], 23), (w1.heap.size, [.int .i64 0, .int .i64 0, .bool false], 30), (w.heap.size + 1, [.int .i64 r.x, .int .i64 r.y, .bool r.far], 30), (w.heap.size, [.int .i64 q.x, .int .i64 q.y, .bool q.far], 30)] w (World.alloc (World.alloc w6 (.cells #[.int .i64 c2, .int .i64 d2] 23)) (.cells #[.int .i64 q.x, .int .i64 q.y, .bool q.far] 30))) := HM'
  clear HM'
  refine (HOq.out _ _ (PS.one (q := q) (HM.out.at 0 rfl))).mono ?_
  rintro e w7 ⟨rfl, k1⟩
  clear f17 f18 f19
  have HM' : Hid (Mn [(w6.heap.size + 1, [.int .i64 q.x, .int .i64 q.y, .bool q.far], 30), (w6.heap.size, [.int .i64 c2, .int .i64 d2], 23), (w5.heap.size, [.int .i64 0, .int .i64 0, .bool false], 30), (w2.heap.size, [.int .i64 c, .int .i64 d], 23), (w1.heap.size + 2, [.int .i64 q.x, .int .i64 q.y, .bool q.far, .int .i64 r.x, .int .i64 r.y, .bool r.far], 30), (w1.heap.size + 1, [.int .i64 c2, .int .i64 d2], 23), (w1.heap.size, [.int .i64 0, .int .i64 0, .bool false], 30), (w.heap.size + 1, [.int .i64 r.x, .int .i64 r.y, .bool r.far], 30), (w.heap.size, [.int .i64 q.x, .int .i64 q.y, .bool q.far], 30)] w w7) := HM.out.below k1
  clear HM k1
  have HM : Hid (Mn [(w6.heap.size + 1, [.int .i64 q.x, .int .i64 q.y, .bool q.far], 30), (w6.heap.size, [.int .i64 c2, .int .i64 d2], 23), (w5.heap.size, [.int .i64 0, .int .i64 0, .bool false], 30), (w2.heap.size, [.int .i64 c, .int .i64 d], 23), (w1.heap.size + 2, [.int .i64 q.x, .int .i64 q.y, .bool q.far, .int .i64 r.x, .int .i64 r.y, .bool r.far], 30), (w1.heap.size + 1, [.int .i64 c2, .int .i64 d2], 23), (w1.heap.size, [.int .i64 0, .int .i64 0, .bool false], 30), (w.heap.size + 1, [.int .i64 r.x, .int .i64 r.y, .bool r.far], 30), (w.heap.size, [.int .i64 q.x, .int .i64 q.y, .bool q.far], 30)] w w7) := HM'
  clear HM'
  have f20 : World.cell? w7 ⟨w2.heap.size, 0, none⟩ = some (.int .i64 c) := (HM.out.at 3 rfl).cell 0
  have f21 : World.cell? w7 ⟨w2.heap.size, 1, none⟩ = some (.int .i64 d) := (HM.out.at 3 rfl).cell 1
  have f22 : World.frozen? w7 ⟨w2.heap.size, 0, none⟩ = false := (HM.out.at 3 rfl).frozen 0
  have f23 : World.frozen? w7 ⟨w2.heap.size, 1, none⟩ = false := (HM.out.at 3 rfl).frozen 1
  have HM' : Hid (Mn [(w6.heap.size + 1, [.int .i64 q.x, .int .i64 q.y, .bool q.far], 30), (w6.heap.size, [.int .i64 c2, .int .i64 d2], 23), (w5.heap.size, [.int .i64 0, .int .i64 0, .bool false], 30), (w2.heap.size, [.int .i64 c2, .int .i64 d], 23), (w1.heap.size + 2, [.int .i64 q.x, .int .i64 q.y, .bool q.far, .int .i64 r.x, .int .i64 r.y, .bool r.far], 30), (w1.heap.size + 1, [.int .i64 c2, .int .i64 d2], 23), (w1.heap.size, [.int .i64 0, .int .i64 0, .bool false], 30), (w.heap.size + 1, [.int .i64 r.x, .int .i64 r.y, .bool r.far], 30), (w.heap.size, [.int .i64 q.x, .int .i64 q.y, .bool q.far], 30)] w (World.setCell w7 ⟨w2.heap.size, 0, none⟩ (.int .i64 c2))) := HM.out.set 3 rfl 0 (.int .i64 c2)
  clear HM
  have HM : Hid (Mn [(w6.heap.size + 1, [.int .i64 q.x, .int .i64 q.y, .bool q.far], 30), (w6.heap.size, [.int .i64 c2, .int .i64 d2], 23), (w5.heap.size, [.int .i64 0, .int .i64 0, .bool false], 30), (w2.heap.size, [.int .i64 c2, .int .i64 d], 23), (w1.heap.size + 2, [.int .i64 q.x, .int .i64 q.y, .bool q.far, .int .i64 r.x, .int .i64 r.y, .bool r.far], 30), (w1.heap.size + 1, [.int .i64 c2, .int .i64 d2], 23), (w1.heap.size, [.int .i64 0, .int .i64 0, .bool false], 30), (w.heap.size + 1, [.int .i64 r.x, .int .i64 r.y, .bool r.far], 30), (w.heap.size, [.int .i64 q.x, .int .i64 q.y, .bool q.far], 30)] w (World.setCell w7 ⟨w2.heap.size, 0, none⟩ (.int .i64 c2))) := HM'
  clear HM'
  have HM' : Hid (Mn [(w6.heap.size + 1, [.int .i64 q.x, .int .i64 q.y, .bool q.far], 30), (w6.heap.size, [.int .i64 c2, .int .i64 d2], 23), (w5.heap.size, [.int .i64 0, .int .i64 0, .bool false], 30), (w2.heap.size, [.int .i64 c2, .int .i64 d2], 23), (w1.heap.size + 2, [.int .i64 q.x, .int .i64 q.y, .bool q.far, .int .i64 r.x, .int .i64 r.y, .bool r.far], 30), (w1.heap.size + 1, [.int .i64 c2, .int .i64 d2], 23), (w1.heap.size, [.int .i64 0, .int .i64 0, .bool false], 30), (w.heap.size + 1, [.int .i64 r.x, .int .i64 r.y, .bool r.far], 30), (w.heap.size, [.int .i64 q.x, .int .i64 q.y, .bool q.far], 30)] w (World.setCell (World.setCell w7 ⟨w2.heap.size, 0, none⟩ (.int .i64 c2)) ⟨w2.heap.size, 1, none⟩ (.int .i64 d2))) := HM.out.set 3 rfl 1 (.int .i64 d2)
  clear HM
  have HM : Hid (Mn [(w6.heap.size + 1, [.int .i64 q.x, .int .i64 q.y, .bool q.far], 30), (w6.heap.size, [.int .i64 c2, .int .i64 d2], 23), (w5.heap.size, [.int .i64 0, .int .i64 0, .bool false], 30), (w2.heap.size, [.int .i64 c2, .int .i64 d2], 23), (w1.heap.size + 2, [.int .i64 q.x, .int .i64 q.y, .bool q.far, .int .i64 r.x, .int .i64 r.y, .bool r.far], 30), (w1.heap.size + 1, [.int .i64 c2, .int .i64 d2], 23), (w1.heap.size, [.int .i64 0, .int .i64 0, .bool false], 30), (w.heap.size + 1, [.int .i64 r.x, .int .i64 r.y, .bool r.far], 30), (w.heap.size, [.int .i64 q.x, .int .i64 q.y, .bool q.far], 30)] w (World.setCell (World.setCell w7 ⟨w2.heap.size, 0, none⟩ (.int .i64 c2)) ⟨w2.heap.size, 1, none⟩ (.int .i64 d2))) := HM'
  clear HM'
  have f24 : World.cell? (World.setCell (World.setCell w7 ⟨w2.heap.size, 0, none⟩ (.int .i64 c2)) ⟨w2.heap.size, 1, none⟩ (.int .i64 d2)) ⟨w2.heap.size, 0, none⟩ = some (.int .i64 c2) := (HM.out.at 3 rfl).cell 0
  have f25 : World.cell? (World.setCell (World.setCell w7 ⟨w2.heap.size, 0, none⟩ (.int .i64 c2)) ⟨w2.heap.size, 1, none⟩ (.int .i64 d2)) ⟨w2.heap.size, 1, none⟩ = some (.int .i64 d2) := (HM.out.at 3 rfl).cell 1
  have HM' : Hid (Mn [(w7.heap.size, [.int .i64 c2, .int .i64 d2], 23), (w6.heap.size + 1, [.int .i64 q.x, .int .i64 q.y, .bool q.far], 30), (w6.heap.size, [.int .i64 c2, .int .i64 d2], 23), (w5.heap.size, [.int .i64 0, .int .i64 0, .bool false], 30), (w2.heap.size, [.int .i64 c2, .int .i64 d2], 23), (w1.heap.size + 2, [.int .i64 q.x, .int .i64 q.y, .bool q.far, .int .i64 r.x, .int .i64 r.y, .bool r.far], 30), (w1.heap.size + 1, [.int .i64 c2, .int .i64 d2], 23), (w1.heap.size, [.int .i64 0, .int .i64 0, .bool false], 30), (w.heap.size + 1, [.int .i64 r.x, .int .i64 r.y, .bool r.far], 30), (w.heap.size, [.int .i64 q.x, .int .i64 q.y, .bool q.far], 30)] w (World.alloc (World.setCell (World.setCell w7 ⟨w2.heap.size, 0, none⟩ (.int .i64 c2)) ⟨w2.heap.size, 1, none⟩ (.int .i64 d2)) (.cells #[.int .i64 c2, .int .i64 d2] 23))) := HM.out.new [.int .i64 c2, .int .i64 d2] 23 (by simp)
  clear HM
  have HM : Hid (Mn [(w7.heap.size, [.int .i64 c2, .int .i64 d2], 23), (w6.heap.size + 1, [.int .i64 q.x, .int .i64 q.y, .bool q.far], 30), (w6.heap.size, [.int .i64 c2, .int .i64 d2], 23), (w5.heap.size, [.int .i64 0, .int .i64 0, .bool false], 30), (w2.heap.size, [.int .i64 c2, .int .i64 d2], 23), (w1.heap.size + 2, [.int .i64 q.x, .int .i64 q.y, .bool q.far, .int .i64 r.x, .int .i64 r.y, .bool r.far], 30), (w1.heap.size + 1, [.int .i64 c2, .int .i64 d2], 23), (w1.heap.size, [.int .i64 0, .int .i64 0, .bool false], 30), (w.heap.size + 1, [.int .i64 r.x, .int .i64 r.y, .bool r.far], 30), (w.heap.size, [.int .i64 q.x, .int .i64 q.y, .bool q.far], 30)] w (World.alloc (World.setCell (World.setCell w7 ⟨w2.heap.size, 0, none⟩ (.int .i64 c2)) ⟨w2.heap.size, 1, none⟩ (.int .i64 d2)) (.cells #[.int .i64 c2, .int .i64 d2] 23))) := HM'
  clear HM'
  have f26 : World.cell? (World.alloc (World.setCell (World.setCell w7 ⟨w2.heap.size, 0, none⟩ (.int .i64 c2)) ⟨w2.heap.size, 1, none⟩ (.int .i64 d2)) (.cells #[.int .i64 c2, .int .i64 d2] 23)) ⟨w2.heap.size, 0, none⟩ = some (.int .i64 c2) := (HM.out.at 4 rfl).cell 0
  have f27 : World.cell? (World.alloc (World.setCell (World.setCell w7 ⟨w2.heap.size, 0, none⟩ (.int .i64 c2)) ⟨w2.heap.size, 1, none⟩ (.int .i64 d2)) (.cells #[.int .i64 c2, .int .i64 d2] 23)) ⟨w2.heap.size, 1, none⟩ = some (.int .i64 d2) := (HM.out.at 4 rfl).cell 1
  have f28 : World.cell? (World.alloc (World.setCell (World.setCell w7 ⟨w2.heap.size, 0, none⟩ (.int .i64 c2)) ⟨w2.heap.size, 1, none⟩ (.int .i64 d2)) (.cells #[.int .i64 c2, .int .i64 d2] 23)) ⟨w1.heap.size + 1, 0, none⟩ = some (.int .i64 c2) := (HM.out.at 6 rfl).cell 0
  have f29 : World.cell? (World.alloc (World.setCell (World.setCell w7 ⟨w2.heap.size, 0, none⟩ (.int .i64 c2)) ⟨w2.heap.size, 1, none⟩ (.int .i64 d2)) (.cells #[.int .i64 c2, .int .i64 d2] 23)) ⟨w1.heap.size + 1, 1, none⟩ = some (.int .i64 d2) := (HM.out.at 6 rfl).cell 1
  have f30 : World.cell? (World.alloc (World.setCell (World.setCell w7 ⟨w2.heap.size, 0, none⟩ (.int .i64 c2)) ⟨w2.heap.size, 1, none⟩ (.int .i64 d2)) (.cells #[.int .i64 c2, .int .i64 d2] 23)) ⟨w6.heap.size, 0, none⟩ = some (.int .i64 c2) := (HM.out.at 2 rfl).cell 0
  have f31 : World.cell? (World.alloc (World.setCell (World.setCell w7 ⟨w2.heap.size, 0, none⟩ (.int .i64 c2)) ⟨w2.heap.size, 1, none⟩ (.int .i64 d2)) (.cells #[.int .i64 c2, .int .i64 d2] 23)) ⟨w6.heap.size, 1, none⟩ = some (.int .i64 d2) := (HM.out.at 2 rfl).cell 1
  have f32 : World.cell? (World.alloc (World.setCell (World.setCell w7 ⟨w2.heap.size, 0, none⟩ (.int .i64 c2)) ⟨w2.heap.size, 1, none⟩ (.int .i64 d2)) (.cells #[.int .i64 c2, .int .i64 d2] 23)) ⟨w7.heap.size, 0, none⟩ = some (.int .i64 c2) := (HM.out.at 0 rfl).cell 0
  have f33 : World.cell? (World.alloc (World.setCell (World.setCell w7 ⟨w2.heap.size, 0, none⟩ (.int .i64 c2)) ⟨w2.heap.size, 1, none⟩ (.int .i64 d2)) (.cells #[.int .i64 c2, .int .i64 d2] 23)) ⟨w7.heap.size, 1, none⟩ = some (.int .i64 d2) := (HM.out.at 0 rfl).cell 1
  have f34 : World.cell? (World.alloc (World.setCell (World.setCell w7 ⟨w2.heap.size, 0, none⟩ (.int .i64 c2)) ⟨w2.heap.size, 1, none⟩ (.int .i64 d2)) (.cells #[.int .i64 c2, .int .i64 d2] 23)) ⟨w5.heap.size, 0, none⟩ = some (.int .i64 0) := (HM.out.at 3 rfl).cell 0
  have f35 : World.cell? (World.alloc (World.setCell (World.setCell w7 ⟨w2.heap.size, 0, none⟩ (.int .i64 c2)) ⟨w2.heap.size, 1, none⟩ (.int .i64 d2)) (.cells #[.int .i64 c2, .int .i64 d2] 23)) ⟨w5.heap.size, 1, none⟩ = some (.int .i64 0) := (HM.out.at 3 rfl).cell 1
  have f36 : World.cell? (World.alloc (World.setCell (World.setCell w7 ⟨w2.heap.size, 0, none⟩ (.int .i64 c2)) ⟨w2.heap.size, 1, none⟩ (.int .i64 d2)) (.cells #[.int .i64 c2, .int .i64 d2] 23)) ⟨w5.heap.size, 2, none⟩ = some (.bool false) := (HM.out.at 3 rfl).cell 2
  go_wp2
  go_ret
  exact ⟨rfl, HM.out.k⟩

set_option maxHeartbeats 8000000 in
theorem adds_bad_far (P : Nat) (a b c d n : Int) (q r : Pn) (k : Nat) (w : World) (h : Of P a b [q, r] c d) (hc : c ≠ 0) (hv : Cv P a b) (hq : On P a b q) (hk : Od P a q k) (hk2 : k ≤ 4000001) (hnum : numB n = false) (hT : Tb w) :
    Calls Tryd.prog 4 #[.int .i64 P, .int .i64 a, .int .i64 b, .int .i64 n, Pv q, Pv r] w fun e w' => e = .returned (.bool true) ∧ Below w.heap.size w w' := by
  have HBg : Hid (∀ w, Tb w → Calls Tryd.prog 10 #[] w fun e w' => e = .returned (.bool true) ∧ Below w.heap.size w w') := fun w h => curveBegun_any w h
  have HAd : Hid (∀ w, Tb w → Calls Tryd.prog 14 #[.int .i64 P, .int .i64 a, .int .i64 b, Pv q, Pv r] w fun e w' => e = .returned (.tuple #[Pv zP, .agg #[.int .i64 c, .int .i64 d]]) ∧ Below w.heap.size w w') := fun w hT => Add_bad P a b c d q r w h hc hT
  have HOf : Hid (∀ w sl, PS w sl [q, r] → Calls Tryd.prog 15 #[.int .i64 P, .int .i64 a, .int .i64 b, sl] w fun e w' => e = .returned (.agg #[.int .i64 c, .int .i64 d]) ∧ Below w.heap.size w w') := fun w sl hs => offCurve_any P a b c d sl [q, r] w h hs (by simp)
  have hcb : (c != 0) = true := by simp [bne]; exact hc
  have hcb2 : (c == 0) = false := beq_eq_false_iff_ne.2 hc
  have HOr : Hid (∀ w, Tb w → Calls Tryd.prog 18 #[.int .i64 P, .int .i64 a, .int .i64 b, Pv q] w fun e w' => e = .returned (.tuple #[.int .i64 k, .agg #[.int .i64 0, .int .i64 0]]) ∧ Below w.heap.size w w') := fun w hT => Order_ok P a b q k w (of_ok hv (by simp [hq])) hv hq hk hk2 hT
  have HOq : Hid (∀ w sl, PS w sl [q] → Calls Tryd.prog 15 #[.int .i64 P, .int .i64 a, .int .i64 b, sl] w fun e w' => e = .returned (.agg #[.int .i64 0, .int .i64 0]) ∧ Below w.heap.size w w') := fun w sl hs => offCurve_any P a b 0 0 sl [q] w (of_ok hv (by simp [hq])) hs (by simp)
  have HCo : Hid (∀ w, Calls Tryd.prog 21 #[.int .i64 P, .int .i64 a, Pv q] w fun e w' => e = .returned (.int .i64 k) ∧ Below w.heap.size w w') := fun w => CurveOrder_any P a b q k w hv hq hk hk2
  have HTm : Hid (∀ w, Tb w → Calls Tryd.prog 17 #[.int .i64 P, .int .i64 a, .int .i64 b, .int .i64 n, Pv q] w fun e w' => e = .returned (.tuple #[Pv zP, .agg #[.int .i64 3, .int .i64 4]]) ∧ Below w.heap.size w w') := fun w hT => Times_far P a b n q w (of_ok hv (by simp [hq])) hnum hT
  have HT : Hid (Tb w) := hT
  clear hv hq hk hT h hc
  unfold Pv at HAd HTm HOr HCo
  unfold zP at HAd HTm
  unfold Pv
  go_enter Tryd.func4, Tryd.ntmps4
  have HM : Hid (Mn [] w w) := Mn.nil w
  have HM' : Hid (Mn [(w.heap.size, [.int .i64 q.x, .int .i64 q.y, .bool q.far], 30)] w (World.alloc w (.cells #[.int .i64 q.x, .int .i64 q.y, .bool q.far] 30))) := HM.out.new [.int .i64 q.x, .int .i64 q.y, .bool q.far] 30 (by simp)
  clear HM
  have HM : Hid (Mn [(w.heap.size, [.int .i64 q.x, .int .i64 q.y, .bool q.far], 30)] w (World.alloc w (.cells #[.int .i64 q.x, .int .i64 q.y, .bool q.far] 30))) := HM'
  clear HM'
  have HM' : Hid (Mn [(w.heap.size + 1, [.int .i64 r.x, .int .i64 r.y, .bool r.far], 30), (w.heap.size, [.int .i64 q.x, .int .i64 q.y, .bool q.far], 30)] w (World.alloc (World.alloc w (.cells #[.int .i64 q.x, .int .i64 q.y, .bool q.far] 30)) (.cells #[.int .i64 r.x, .int .i64 r.y, .bool r.far] 30))) := HM.out.new [.int .i64 r.x, .int .i64 r.y, .bool r.far] 30 (by simp)
  clear HM
  have HM : Hid (Mn [(w.heap.size + 1, [.int .i64 r.x, .int .i64 r.y, .bool r.far], 30), (w.heap.size, [.int .i64 q.x, .int .i64 q.y, .bool q.far], 30)] w (World.alloc (World.alloc w (.cells #[.int .i64 q.x, .int .i64 q.y, .bool q.far] 30)) (.cells #[.int .i64 r.x, .int .i64 r.y, .bool r.far] 30))) := HM'
  clear HM'
  go_wp2_with fail
  refine (HAd.out _ (HT.out.below HM.out.k)).mono ?_
  rintro e w1 ⟨rfl, k1⟩
  have HM' : Hid (Mn [(w.heap.size + 1, [.int .i64 r.x, .int .i64 r.y, .bool r.far], 30), (w.heap.size, [.int .i64 q.x, .int .i64 q.y, .bool q.far], 30)] w w1) := HM.out.below k1
  clear HM k1
  have HM : Hid (Mn [(w.heap.size + 1, [.int .i64 r.x, .int .i64 r.y, .bool r.far], 30), (w.heap.size, [.int .i64 q.x, .int .i64 q.y, .bool q.far], 30)] w w1) := HM'
  clear HM'
  have HM' : Hid (Mn [(w1.heap.size, [.int .i64 0, .int .i64 0, .bool false], 30), (w.heap.size + 1, [.int .i64 r.x, .int .i64 r.y, .bool r.far], 30), (w.heap.size, [.int .i64 q.x, .int .i64 q.y, .bool q.far], 30)] w (World.alloc w1 (.cells #[.int .i64 0, .int .i64 0, .bool false] 30))) := HM.out.new [.int .i64 0, .int .i64 0, .bool false] 30 (by simp)
  clear HM
  have HM : Hid (Mn [(w1.heap.size, [.int .i64 0, .int .i64 0, .bool false], 30), (w.heap.size + 1, [.int .i64 r.x, .int .i64 r.y, .bool r.far], 30), (w.heap.size, [.int .i64 q.x, .int .i64 q.y, .bool q.far], 30)] w (World.alloc w1 (.cells #[.int .i64 0, .int .i64 0, .bool false] 30))) := HM'
  clear HM'
  have HM' : Hid (Mn [(w1.heap.size + 1, [.int .i64 c, .int .i64 d], 23), (w1.heap.size, [.int .i64 0, .int .i64 0, .bool false], 30), (w.heap.size + 1, [.int .i64 r.x, .int .i64 r.y, .bool r.far], 30), (w.heap.size, [.int .i64 q.x, .int .i64 q.y, .bool q.far], 30)] w (World.alloc (World.alloc w1 (.cells #[.int .i64 0, .int .i64 0, .bool false] 30)) (.cells #[.int .i64 c, .int .i64 d] 23))) := HM.out.new [.int .i64 c, .int .i64 d] 23 (by simp)
  clear HM
  have HM : Hid (Mn [(w1.heap.size + 1, [.int .i64 c, .int .i64 d], 23), (w1.heap.size, [.int .i64 0, .int .i64 0, .bool false], 30), (w.heap.size + 1, [.int .i64 r.x, .int .i64 r.y, .bool r.far], 30), (w.heap.size, [.int .i64 q.x, .int .i64 q.y, .bool q.far], 30)] w (World.alloc (World.alloc w1 (.cells #[.int .i64 0, .int .i64 0, .bool false] 30)) (.cells #[.int .i64 c, .int .i64 d] 23))) := HM'
  clear HM'
  have f1 : World.cell? (World.alloc (World.alloc w1 (.cells #[.int .i64 0, .int .i64 0, .bool false] 30)) (.cells #[.int .i64 c, .int .i64 d] 23)) ⟨w.heap.size, 0, none⟩ = some (.int .i64 q.x) := (HM.out.at 3 rfl).cell 0
  have f2 : World.cell? (World.alloc (World.alloc w1 (.cells #[.int .i64 0, .int .i64 0, .bool false] 30)) (.cells #[.int .i64 c, .int .i64 d] 23)) ⟨w.heap.size, 1, none⟩ = some (.int .i64 q.y) := (HM.out.at 3 rfl).cell 1
  have f3 : World.cell? (World.alloc (World.alloc w1 (.cells #[.int .i64 0, .int .i64 0, .bool false] 30)) (.cells #[.int .i64 c, .int .i64 d] 23)) ⟨w.heap.size, 2, none⟩ = some (.bool q.far) := (HM.out.at 3 rfl).cell 2
  have f4 : World.cell? (World.alloc (World.alloc w1 (.cells #[.int .i64 0, .int .i64 0, .bool false] 30)) (.cells #[.int .i64 c, .int .i64 d] 23)) ⟨w.heap.size + 1, 0, none⟩ = some (.int .i64 r.x) := (HM.out.at 2 rfl).cell 0
  have f5 : World.cell? (World.alloc (World.alloc w1 (.cells #[.int .i64 0, .int .i64 0, .bool false] 30)) (.cells #[.int .i64 c, .int .i64 d] 23)) ⟨w.heap.size + 1, 1, none⟩ = some (.int .i64 r.y) := (HM.out.at 2 rfl).cell 1
  have f6 : World.cell? (World.alloc (World.alloc w1 (.cells #[.int .i64 0, .int .i64 0, .bool false] 30)) (.cells #[.int .i64 c, .int .i64 d] 23)) ⟨w.heap.size + 1, 2, none⟩ = some (.bool r.far) := (HM.out.at 2 rfl).cell 2
  go_wp2_with fail
  have HM' : Hid (Mn [(w1.heap.size + 2, [.int .i64 q.x, .int .i64 q.y, .bool q.far, .int .i64 r.x, .int .i64 r.y, .bool r.far], 30), (w1.heap.size + 1, [.int .i64 c, .int .i64 d], 23), (w1.heap.size, [.int .i64 0, .int .i64 0, .bool false], 30), (w.heap.size + 1, [.int .i64 r.x, .int .i64 r.y, .bool r.far], 30), (w.heap.size, [.int .i64 q.x, .int .i64 q.y, .bool q.far], 30)] w (World.alloc (World.alloc (World.alloc w1 (.cells #[.int .i64 0, .int .i64 0, .bool false] 30)) (.cells #[.int .i64 c, .int .i64 d] 23)) (.cells #[.int .i64 q.x, .int .i64 q.y, .bool q.far, .int .i64 r.x, .int .i64 r.y, .bool r.far] 30))) := HM.out.new [.int .i64 q.x, .int .i64 q.y, .bool q.far, .int .i64 r.x, .int .i64 r.y, .bool r.far] 30 (by simp)
  clear HM
  have HM : Hid (Mn [(w1.heap.size + 2, [.int .i64 q.x, .int .i64 q.y, .bool q.far, .int .i64 r.x, .int .i64 r.y, .bool r.far], 30), (w1.heap.size + 1, [.int .i64 c, .int .i64 d], 23), (w1.heap.size, [.int .i64 0, .int .i64 0, .bool false], 30), (w.heap.size + 1, [.int .i64 r.x, .int .i64 r.y, .bool r.far], 30), (w.heap.size, [.int .i64 q.x, .int .i64 q.y, .bool q.far], 30)] w (World.alloc (World.alloc (World.alloc w1 (.cells #[.int .i64 0, .int .i64 0, .bool false] 30)) (.cells #[.int .i64 c, .int .i64 d] 23)) (.cells #[.int .i64 q.x, .int .i64 q.y, .bool q.far, .int .i64 r.x, .int .i64 r.y, .bool r.far] 30))) := HM'
  clear HM'
  refine (HOf.out _ _ (PS.two (q := q) (r := r) (HM.out.at 0 rfl))).mono ?_
  rintro e w2 ⟨rfl, k1⟩
  clear f1 f2 f3 f4 f5 f6
  have HM' : Hid (Mn [(w1.heap.size + 2, [.int .i64 q.x, .int .i64 q.y, .bool q.far, .int .i64 r.x, .int .i64 r.y, .bool r.far], 30), (w1.heap.size + 1, [.int .i64 c, .int .i64 d], 23), (w1.heap.size, [.int .i64 0, .int .i64 0, .bool false], 30), (w.heap.size + 1, [.int .i64 r.x, .int .i64 r.y, .bool r.far], 30), (w.heap.size, [.int .i64 q.x, .int .i64 q.y, .bool q.far], 30)] w w2) := HM.out.below k1
  clear HM k1
  have HM : Hid (Mn [(w1.heap.size + 2, [.int .i64 q.x, .int .i64 q.y, .bool q.far, .int .i64 r.x, .int .i64 r.y, .bool r.far], 30), (w1.heap.size + 1, [.int .i64 c, .int .i64 d], 23), (w1.heap.size, [.int .i64 0, .int .i64 0, .bool false], 30), (w.heap.size + 1, [.int .i64 r.x, .int .i64 r.y, .bool r.far], 30), (w.heap.size, [.int .i64 q.x, .int .i64 q.y, .bool q.far], 30)] w w2) := HM'
  clear HM'
  have HM' : Hid (Mn [(w2.heap.size, [.int .i64 c, .int .i64 d], 23), (w1.heap.size + 2, [.int .i64 q.x, .int .i64 q.y, .bool q.far, .int .i64 r.x, .int .i64 r.y, .bool r.far], 30), (w1.heap.size + 1, [.int .i64 c, .int .i64 d], 23), (w1.heap.size, [.int .i64 0, .int .i64 0, .bool false], 30), (w.heap.size + 1, [.int .i64 r.x, .int .i64 r.y, .bool r.far], 30), (w.heap.size, [.int .i64 q.x, .int .i64 q.y, .bool q.far], 30)] w (World.alloc w2 (.cells #[.int .i64 c, .int .i64 d] 23))) := HM.out.new [.int .i64 c, .int .i64 d] 23 (by simp)
  clear HM
  have HM : Hid (Mn [(w2.heap.size, [.int .i64 c, .int .i64 d], 23), (w1.heap.size + 2, [.int .i64 q.x, .int .i64 q.y, .bool q.far, .int .i64 r.x, .int .i64 r.y, .bool r.far], 30), (w1.heap.size + 1, [.int .i64 c, .int .i64 d], 23), (w1.heap.size, [.int .i64 0, .int .i64 0, .bool false], 30), (w.heap.size + 1, [.int .i64 r.x, .int .i64 r.y, .bool r.far], 30), (w.heap.size, [.int .i64 q.x, .int .i64 q.y, .bool q.far], 30)] w (World.alloc w2 (.cells #[.int .i64 c, .int .i64 d] 23))) := HM'
  clear HM'
  go_wp2_with fail
  obtain ⟨W3, hW3⟩ : ∃ W3, W3 = (World.alloc w2 (.cells #[.int .i64 c, .int .i64 d] 23)) := ⟨_, rfl⟩
  rw [← hW3] at HM ⊢
  clear hW3
  refine wp_region_G (fun wz => World.cell? wz ⟨w1.heap.size, 0, none⟩ = some (.int .i64 0) ∧ World.cell? wz ⟨w1.heap.size, 1, none⟩ = some (.int .i64 0) ∧ World.cell? wz ⟨w1.heap.size, 2, none⟩ = some (.bool false) ∧ World.cell? wz ⟨w1.heap.size + 1, 0, none⟩ = some (.int .i64 c) ∧ World.cell? wz ⟨w1.heap.size + 1, 1, none⟩ = some (.int .i64 d) ∧ World.cell? wz ⟨w2.heap.size, 0, none⟩ = some (.int .i64 c) ∧ World.cell? wz ⟨w2.heap.size, 1, none⟩ = some (.int .i64 d)) 30 (by kernel_rfl) ⟨(HM.out.at 3 rfl).cell 0, (HM.out.at 3 rfl).cell 1, (HM.out.at 3 rfl).cell 2, (HM.out.at 2 rfl).cell 0, (HM.out.at 2 rfl).cell 1, (HM.out.at 0 rfl).cell 0, (HM.out.at 0 rfl).cell 1⟩ (fun hHeld => ?_)
  refine wpAnyG_one (i := 0) rfl (by kernel_rfl) (fun K hK => ?_)
  go_simp
  refine (HBg.out _ (HT.out.below (HM.out.k.drew))).mono ?_
  rintro e w3 ⟨rfl, k1⟩
  have HM' : Hid (Mn [(w2.heap.size, [.int .i64 c, .int .i64 d], 23), (w1.heap.size + 2, [.int .i64 q.x, .int .i64 q.y, .bool q.far, .int .i64 r.x, .int .i64 r.y, .bool r.far], 30), (w1.heap.size + 1, [.int .i64 c, .int .i64 d], 23), (w1.heap.size, [.int .i64 0, .int .i64 0, .bool false], 30), (w.heap.size + 1, [.int .i64 r.x, .int .i64 r.y, .bool r.far], 30), (w.heap.size, [.int .i64 q.x, .int .i64 q.y, .bool q.far], 30)] w w3) := HM.out.below ((Below.refl _ _).drew.trans k1)
  clear HM k1
  have HM : Hid (Mn [(w2.heap.size, [.int .i64 c, .int .i64 d], 23), (w1.heap.size + 2, [.int .i64 q.x, .int .i64 q.y, .bool q.far, .int .i64 r.x, .int .i64 r.y, .bool r.far], 30), (w1.heap.size + 1, [.int .i64 c, .int .i64 d], 23), (w1.heap.size, [.int .i64 0, .int .i64 0, .bool false], 30), (w.heap.size + 1, [.int .i64 r.x, .int .i64 r.y, .bool r.far], 30), (w.heap.size, [.int .i64 q.x, .int .i64 q.y, .bool q.far], 30)] w w3) := HM'
  clear HM'
  refine hK.out _ _ ⟨(HM.out.at 3 rfl).cell 0, (HM.out.at 3 rfl).cell 1, (HM.out.at 3 rfl).cell 2, (HM.out.at 2 rfl).cell 0, (HM.out.at 2 rfl).cell 1, (HM.out.at 0 rfl).cell 0, (HM.out.at 0 rfl).cell 1⟩ ?_
  clear hK K
  try simp only [Act.put, List.setIfInBounds_toArray, List.set_cons_zero, List.set_cons_succ]
  clear hHeld
  have hHeld : (fun wz => World.cell? wz ⟨w1.heap.size, 0, none⟩ = some (.int .i64 0) ∧ World.cell? wz ⟨w1.heap.size, 1, none⟩ = some (.int .i64 0) ∧ World.cell? wz ⟨w1.heap.size, 2, none⟩ = some (.bool false) ∧ World.cell? wz ⟨w1.heap.size + 1, 0, none⟩ = some (.int .i64 c) ∧ World.cell? wz ⟨w1.heap.size + 1, 1, none⟩ = some (.int .i64 d) ∧ World.cell? wz ⟨w2.heap.size, 0, none⟩ = some (.int .i64 c) ∧ World.cell? wz ⟨w2.heap.size, 1, none⟩ = some (.int .i64 d)) w3 := ⟨(HM.out.at 3 rfl).cell 0, (HM.out.at 3 rfl).cell 1, (HM.out.at 3 rfl).cell 2, (HM.out.at 2 rfl).cell 0, (HM.out.at 2 rfl).cell 1, (HM.out.at 0 rfl).cell 0, (HM.out.at 0 rfl).cell 1⟩
  refine wpAnyG_take (i := 1) (v := .bool false) rfl (by kernel_rfl) (fun _ _ _ h => h) (Or.inl ⟨by kernel_rfl, ?y1x23⟩) hHeld ?r1x23
  case y1x23 => (intro wS hSw; (obtain ⟨s1, s2, s3, s4, s5, s6, s7⟩ := hSw; go_simp))
  try simp only [Act.put, List.setIfInBounds_toArray, List.set_cons_zero, List.set_cons_succ]
  refine wpAnyG_take (i := 2) (v := .bool false) rfl (by kernel_rfl) (fun _ _ _ h => h) (Or.inl ⟨by kernel_rfl, ?y2x24⟩) hHeld ?r2x24
  case y2x24 => (intro wS hSw; (obtain ⟨s1, s2, s3, s4, s5, s6, s7⟩ := hSw; go_simp))
  try simp only [Act.put, List.setIfInBounds_toArray, List.set_cons_zero, List.set_cons_succ]
  refine wpAnyG_take (i := 3) (v := .agg #[.int .i64 c, .int .i64 d]) rfl (by kernel_rfl) (fun _ _ _ h => h) (Or.inl ⟨by kernel_rfl, ?y3x25⟩) hHeld ?r3x25
  case y3x25 => (intro wS hSw; (obtain ⟨s1, s2, s3, s4, s5, s6, s7⟩ := hSw; go_simp))
  try simp only [Act.put, List.setIfInBounds_toArray, List.set_cons_zero, List.set_cons_succ]
  refine wpAnyG_take (i := 4) (v := .agg #[.int .i64 c, .int .i64 d]) rfl (by kernel_rfl) (fun _ _ _ h => h) (Or.inl ⟨by kernel_rfl, ?y4x26⟩) hHeld ?r4x26
  case y4x26 => (intro wS hSw; (obtain ⟨s1, s2, s3, s4, s5, s6, s7⟩ := hSw; go_simp))
  try simp only [Act.put, List.setIfInBounds_toArray, List.set_cons_zero, List.set_cons_succ]
  refine wpAnyG_take (i := 5) (v := .bool false) rfl (by kernel_rfl) (fun _ _ _ h => h) (Or.inl ⟨by kernel_rfl, ?y5x27⟩) hHeld ?r5x27
  case y5x27 => (intro wS hSw; (obtain ⟨s1, s2, s3, s4, s5, s6, s7⟩ := hSw; go_simp; try simp))
  try simp only [Act.put, List.setIfInBounds_toArray, List.set_cons_zero, List.set_cons_succ]
  refine wpAnyG_take (i := 6) (v := .bool false) rfl (by kernel_rfl) (fun _ _ _ h => h) (Or.inl ⟨by kernel_rfl, ?y6x28⟩) hHeld ?r6x28
  case y6x28 => (intro wS hSw; (obtain ⟨s1, s2, s3, s4, s5, s6, s7⟩ := hSw; go_simp))
  try simp only [Act.put, List.setIfInBounds_toArray, List.set_cons_zero, List.set_cons_succ]
  refine wpAnyG_take (i := 7) (v := .bool false) rfl (by kernel_rfl) (fun _ _ _ h => h) (Or.inl ⟨by kernel_rfl, ?y7x29⟩) hHeld ?r7x29
  case y7x29 => (intro wS hSw; (obtain ⟨s1, s2, s3, s4, s5, s6, s7⟩ := hSw; go_simp))
  try simp only [Act.put, List.setIfInBounds_toArray, List.set_cons_zero, List.set_cons_succ]
  refine wpAnyG_take (i := 8) (v := .pointer (some ⟨w2.heap.size, 0, none⟩)) rfl (by kernel_rfl) (fun _ _ _ h => h) (Or.inl ⟨by kernel_rfl, ?y8x30⟩) hHeld ?r8x30
  case y8x30 => (intro wS hSw; (obtain ⟨s1, s2, s3, s4, s5, s6, s7⟩ := hSw; go_simp))
  try simp only [Act.put, List.setIfInBounds_toArray, List.set_cons_zero, List.set_cons_succ]
  refine wpAnyG_take (i := 9) (v := .int .i64 c) rfl (by kernel_rfl) (fun _ _ _ h => h) (Or.inl ⟨by kernel_rfl, ?y9x31⟩) hHeld ?r9x31
  case y9x31 => (intro wS hSw; (obtain ⟨s1, s2, s3, s4, s5, s6, s7⟩ := hSw; go_simp))
  try simp only [Act.put, List.setIfInBounds_toArray, List.set_cons_zero, List.set_cons_succ]
  refine wpAnyG_take (i := 10) (v := .bool true) rfl (by kernel_rfl) (fun _ _ _ h => h) (Or.inl ⟨by kernel_rfl, ?y10x32⟩) hHeld ?r10x32
  case y10x32 => (intro wS hSw; (obtain ⟨s1, s2, s3, s4, s5, s6, s7⟩ := hSw; go_simp; try simp only [hcb]))
  try simp only [Act.put, List.setIfInBounds_toArray, List.set_cons_zero, List.set_cons_succ]
  refine wpAnyG_take (i := 11) (v := .bool true) rfl (by kernel_rfl) (fun _ _ _ h => h) (Or.inl ⟨by kernel_rfl, ?y11x33⟩) hHeld ?r11x33
  case y11x33 => (intro wS hSw; (obtain ⟨s1, s2, s3, s4, s5, s6, s7⟩ := hSw; go_simp))
  try simp only [Act.put, List.setIfInBounds_toArray, List.set_cons_zero, List.set_cons_succ]
  refine wpAnyG_take (i := 12) (v := .agg #[.int .i64 0, .int .i64 0, .bool false]) rfl (by kernel_rfl) (fun _ _ _ h => h) (Or.inl ⟨by kernel_rfl, ?y12x34⟩) hHeld ?r12x34
  case y12x34 => (intro wS hSw; (obtain ⟨s1, s2, s3, s4, s5, s6, s7⟩ := hSw; go_simp))
  try simp only [Act.put, List.setIfInBounds_toArray, List.set_cons_zero, List.set_cons_succ]
  refine wpAnyG_take (i := 13) (v := .agg #[.int .i64 0, .int .i64 0, .bool false]) rfl (by kernel_rfl) (fun _ _ _ h => h) (Or.inl ⟨by kernel_rfl, ?y13x35⟩) hHeld ?r13x35
  case y13x35 => (intro wS hSw; (obtain ⟨s1, s2, s3, s4, s5, s6, s7⟩ := hSw; go_simp))
  try simp only [Act.put, List.setIfInBounds_toArray, List.set_cons_zero, List.set_cons_succ]
  refine wpAnyG_take (i := 14) (v := .bool false) rfl (by kernel_rfl) (fun _ _ _ h => h) (Or.inl ⟨by kernel_rfl, ?y14x36⟩) hHeld ?r14x36
  case y14x36 => (intro wS hSw; (obtain ⟨s1, s2, s3, s4, s5, s6, s7⟩ := hSw; go_simp))
  try simp only [Act.put, List.setIfInBounds_toArray, List.set_cons_zero, List.set_cons_succ]
  refine wpAnyG_take (i := 15) (v := .bool false) rfl (by kernel_rfl) (fun _ _ _ h => h) (Or.inl ⟨by kernel_rfl, ?y15x37⟩) hHeld ?r15x37
  case y15x37 => (intro wS hSw; (obtain ⟨s1, s2, s3, s4, s5, s6, s7⟩ := hSw; go_simp))
  try simp only [Act.put, List.setIfInBounds_toArray, List.set_cons_zero, List.set_cons_succ]
  refine wpAnyG_take (i := 16) (v := .bool false) rfl (by kernel_rfl) (fun _ _ _ h => h) (Or.inl ⟨by kernel_rfl, ?y16x38⟩) hHeld ?r16x38
  case y16x38 => (intro wS hSw; (obtain ⟨s1, s2, s3, s4, s5, s6, s7⟩ := hSw; go_simp))
  try simp only [Act.put, List.setIfInBounds_toArray, List.set_cons_zero, List.set_cons_succ]
  refine wpAnyG_take (i := 17) (v := .bool false) rfl (by kernel_rfl) (fun _ _ _ h => h) (Or.inl ⟨by kernel_rfl, ?y17x39⟩) hHeld ?r17x39
  case y17x39 => (intro wS hSw; (obtain ⟨s1, s2, s3, s4, s5, s6, s7⟩ := hSw; go_simp))
  try simp only [Act.put, List.setIfInBounds_toArray, List.set_cons_zero, List.set_cons_succ]
  refine wpAnyG_take (i := 18) (v := .pointer (some ⟨w2.heap.size, 0, none⟩)) rfl (by kernel_rfl) (fun _ _ _ h => h) (Or.inl ⟨by kernel_rfl, ?y18x40⟩) hHeld ?r18x40
  case y18x40 => (intro wS hSw; (obtain ⟨s1, s2, s3, s4, s5, s6, s7⟩ := hSw; go_simp))
  try simp only [Act.put, List.setIfInBounds_toArray, List.set_cons_zero, List.set_cons_succ]
  refine wpAnyG_take (i := 19) (v := .int .i64 c) rfl (by kernel_rfl) (fun _ _ _ h => h) (Or.inl ⟨by kernel_rfl, ?y19x41⟩) hHeld ?r19x41
  case y19x41 => (intro wS hSw; (obtain ⟨s1, s2, s3, s4, s5, s6, s7⟩ := hSw; go_simp))
  try simp only [Act.put, List.setIfInBounds_toArray, List.set_cons_zero, List.set_cons_succ]
  refine wpAnyG_take (i := 20) (v := .bool false) rfl (by kernel_rfl) (fun _ _ _ h => h) (Or.inl ⟨by kernel_rfl, ?y20x42⟩) hHeld ?r20x42
  case y20x42 => (intro wS hSw; (obtain ⟨s1, s2, s3, s4, s5, s6, s7⟩ := hSw; go_simp; try simp only [hcb2]))
  try simp only [Act.put, List.setIfInBounds_toArray, List.set_cons_zero, List.set_cons_succ]
  refine wpAnyG_take (i := 21) (v := .bool false) rfl (by kernel_rfl) (fun _ _ _ h => h) (Or.inl ⟨by kernel_rfl, ?y21x43⟩) hHeld ?r21x43
  case y21x43 => (intro wS hSw; (obtain ⟨s1, s2, s3, s4, s5, s6, s7⟩ := hSw; go_simp))
  try simp only [Act.put, List.setIfInBounds_toArray, List.set_cons_zero, List.set_cons_succ]
  refine wpAnyG_take (i := 22) (v := undef) rfl (by kernel_rfl) (fun _ _ _ h => h) (Or.inr ⟨by kernel_rfl, rfl⟩) hHeld ?_
  try simp only [Act.put, List.setIfInBounds_toArray, List.set_cons_zero, List.set_cons_succ]
  refine wpAnyG_take (i := 23) (v := undef) rfl (by kernel_rfl) (fun _ _ _ h => h) (Or.inr ⟨by kernel_rfl, rfl⟩) hHeld ?_
  try simp only [Act.put, List.setIfInBounds_toArray, List.set_cons_zero, List.set_cons_succ]
  refine wpAnyG_take (i := 24) (v := undef) rfl (by kernel_rfl) (fun _ _ _ h => h) (Or.inr ⟨by kernel_rfl, rfl⟩) hHeld ?_
  try simp only [Act.put, List.setIfInBounds_toArray, List.set_cons_zero, List.set_cons_succ]
  refine wpAnyG_take (i := 25) (v := undef) rfl (by kernel_rfl) (fun _ _ _ h => h) (Or.inr ⟨by kernel_rfl, rfl⟩) hHeld ?_
  try simp only [Act.put, List.setIfInBounds_toArray, List.set_cons_zero, List.set_cons_succ]
  refine wpAnyG_take (i := 26) (v := undef) rfl (by kernel_rfl) (fun _ _ _ h => h) (Or.inr ⟨by kernel_rfl, rfl⟩) hHeld ?_
  try simp only [Act.put, List.setIfInBounds_toArray, List.set_cons_zero, List.set_cons_succ]
  refine wpAnyG_take (i := 27) (v := undef) rfl (by kernel_rfl) (fun _ _ _ h => h) (Or.inr ⟨by kernel_rfl, rfl⟩) hHeld ?_
  try simp only [Act.put, List.setIfInBounds_toArray, List.set_cons_zero, List.set_cons_succ]
  refine wpAnyG_take (i := 28) (v := undef) rfl (by kernel_rfl) (fun _ _ _ h => h) (Or.inr ⟨by kernel_rfl, rfl⟩) hHeld ?_
  try simp only [Act.put, List.setIfInBounds_toArray, List.set_cons_zero, List.set_cons_succ]
  refine wpAnyG_take (i := 29) (v := .bool false) rfl (by kernel_rfl) (fun _ _ _ h => h) (Or.inl ⟨by kernel_rfl, ?y29x44⟩) hHeld ?r29x44
  case y29x44 => (intro wS hSw; (obtain ⟨s1, s2, s3, s4, s5, s6, s7⟩ := hSw; go_simp))
  try simp only [Act.put, List.setIfInBounds_toArray, List.set_cons_zero, List.set_cons_succ]
  refine wpAnyG_last (i := 30) rfl (by kernel_rfl) (by kernel_rfl) (fun K hK => ?_)
  go_simp
  refine hK.out _ _ ?_
  clear hK K
  try simp only [Act.put, List.setIfInBounds_toArray, List.set_cons_zero, List.set_cons_succ]
  refine wpAnyG_done (by kernel_rfl) ?_ _
  clear hHeld
  have f7 : World.cell? w3 ⟨w.heap.size, 0, none⟩ = some (.int .i64 q.x) := (HM.out.at 5 rfl).cell 0
  have f8 : World.cell? w3 ⟨w.heap.size, 1, none⟩ = some (.int .i64 q.y) := (HM.out.at 5 rfl).cell 1
  have f9 : World.cell? w3 ⟨w.heap.size, 2, none⟩ = some (.bool q.far) := (HM.out.at 5 rfl).cell 2
  go_wp2_with fail
  refine (HTm.out _ (HT.out.below HM.out.k)).mono ?_
  rintro e w5 ⟨rfl, k1⟩
  clear f7 f8 f9
  have HM' : Hid (Mn [(w2.heap.size, [.int .i64 c, .int .i64 d], 23), (w1.heap.size + 2, [.int .i64 q.x, .int .i64 q.y, .bool q.far, .int .i64 r.x, .int .i64 r.y, .bool r.far], 30), (w1.heap.size + 1, [.int .i64 c, .int .i64 d], 23), (w1.heap.size, [.int .i64 0, .int .i64 0, .bool false], 30), (w.heap.size + 1, [.int .i64 r.x, .int .i64 r.y, .bool r.far], 30), (w.heap.size, [.int .i64 q.x, .int .i64 q.y, .bool q.far], 30)] w w5) := HM.out.below k1
  clear HM k1
  have HM : Hid (Mn [(w2.heap.size, [.int .i64 c, .int .i64 d], 23), (w1.heap.size + 2, [.int .i64 q.x, .int .i64 q.y, .bool q.far, .int .i64 r.x, .int .i64 r.y, .bool r.far], 30), (w1.heap.size + 1, [.int .i64 c, .int .i64 d], 23), (w1.heap.size, [.int .i64 0, .int .i64 0, .bool false], 30), (w.heap.size + 1, [.int .i64 r.x, .int .i64 r.y, .bool r.far], 30), (w.heap.size, [.int .i64 q.x, .int .i64 q.y, .bool q.far], 30)] w w5) := HM'
  clear HM'
  have HM' : Hid (Mn [(w5.heap.size, [.int .i64 0, .int .i64 0, .bool false], 30), (w2.heap.size, [.int .i64 c, .int .i64 d], 23), (w1.heap.size + 2, [.int .i64 q.x, .int .i64 q.y, .bool q.far, .int .i64 r.x, .int .i64 r.y, .bool r.far], 30), (w1.heap.size + 1, [.int .i64 c, .int .i64 d], 23), (w1.heap.size, [.int .i64 0, .int .i64 0, .bool false], 30), (w.heap.size + 1, [.int .i64 r.x, .int .i64 r.y, .bool r.far], 30), (w.heap.size, [.int .i64 q.x, .int .i64 q.y, .bool q.far], 30)] w (World.alloc w5 (.cells #[.int .i64 0, .int .i64 0, .bool false] 30))) := HM.out.new [.int .i64 0, .int .i64 0, .bool false] 30 (by simp)
  clear HM
  have HM : Hid (Mn [(w5.heap.size, [.int .i64 0, .int .i64 0, .bool false], 30), (w2.heap.size, [.int .i64 c, .int .i64 d], 23), (w1.heap.size + 2, [.int .i64 q.x, .int .i64 q.y, .bool q.far, .int .i64 r.x, .int .i64 r.y, .bool r.far], 30), (w1.heap.size + 1, [.int .i64 c, .int .i64 d], 23), (w1.heap.size, [.int .i64 0, .int .i64 0, .bool false], 30), (w.heap.size + 1, [.int .i64 r.x, .int .i64 r.y, .bool r.far], 30), (w.heap.size, [.int .i64 q.x, .int .i64 q.y, .bool q.far], 30)] w (World.alloc w5 (.cells #[.int .i64 0, .int .i64 0, .bool false] 30))) := HM'
  clear HM'
  have f10 : World.cell? (World.alloc w5 (.cells #[.int .i64 0, .int .i64 0, .bool false] 30)) ⟨w1.heap.size + 1, 0, none⟩ = some (.int .i64 c) := (HM.out.at 3 rfl).cell 0
  have f11 : World.cell? (World.alloc w5 (.cells #[.int .i64 0, .int .i64 0, .bool false] 30)) ⟨w1.heap.size + 1, 1, none⟩ = some (.int .i64 d) := (HM.out.at 3 rfl).cell 1
  have f12 : World.frozen? (World.alloc w5 (.cells #[.int .i64 0, .int .i64 0, .bool false] 30)) ⟨w1.heap.size + 1, 0, none⟩ = false := (HM.out.at 3 rfl).frozen 0
  have f13 : World.frozen? (World.alloc w5 (.cells #[.int .i64 0, .int .i64 0, .bool false] 30)) ⟨w1.heap.size + 1, 1, none⟩ = false := (HM.out.at 3 rfl).frozen 1
  have HM' : Hid (Mn [(w5.heap.size, [.int .i64 0, .int .i64 0, .bool false], 30), (w2.heap.size, [.int .i64 c, .int .i64 d], 23), (w1.heap.size + 2, [.int .i64 q.x, .int .i64 q.y, .bool q.far, .int .i64 r.x, .int .i64 r.y, .bool r.far], 30), (w1.heap.size + 1, [.int .i64 3, .int .i64 d], 23), (w1.heap.size, [.int .i64 0, .int .i64 0, .bool false], 30), (w.heap.size + 1, [.int .i64 r.x, .int .i64 r.y, .bool r.far], 30), (w.heap.size, [.int .i64 q.x, .int .i64 q.y, .bool q.far], 30)] w (World.setCell (World.alloc w5 (.cells #[.int .i64 0, .int .i64 0, .bool false] 30)) ⟨w1.heap.size + 1, 0, none⟩ (.int .i64 3))) := HM.out.set 3 rfl 0 (.int .i64 3)
  clear HM
  have HM : Hid (Mn [(w5.heap.size, [.int .i64 0, .int .i64 0, .bool false], 30), (w2.heap.size, [.int .i64 c, .int .i64 d], 23), (w1.heap.size + 2, [.int .i64 q.x, .int .i64 q.y, .bool q.far, .int .i64 r.x, .int .i64 r.y, .bool r.far], 30), (w1.heap.size + 1, [.int .i64 3, .int .i64 d], 23), (w1.heap.size, [.int .i64 0, .int .i64 0, .bool false], 30), (w.heap.size + 1, [.int .i64 r.x, .int .i64 r.y, .bool r.far], 30), (w.heap.size, [.int .i64 q.x, .int .i64 q.y, .bool q.far], 30)] w (World.setCell (World.alloc w5 (.cells #[.int .i64 0, .int .i64 0, .bool false] 30)) ⟨w1.heap.size + 1, 0, none⟩ (.int .i64 3))) := HM'
  clear HM'
  have HM' : Hid (Mn [(w5.heap.size, [.int .i64 0, .int .i64 0, .bool false], 30), (w2.heap.size, [.int .i64 c, .int .i64 d], 23), (w1.heap.size + 2, [.int .i64 q.x, .int .i64 q.y, .bool q.far, .int .i64 r.x, .int .i64 r.y, .bool r.far], 30), (w1.heap.size + 1, [.int .i64 3, .int .i64 4], 23), (w1.heap.size, [.int .i64 0, .int .i64 0, .bool false], 30), (w.heap.size + 1, [.int .i64 r.x, .int .i64 r.y, .bool r.far], 30), (w.heap.size, [.int .i64 q.x, .int .i64 q.y, .bool q.far], 30)] w (World.setCell (World.setCell (World.alloc w5 (.cells #[.int .i64 0, .int .i64 0, .bool false] 30)) ⟨w1.heap.size + 1, 0, none⟩ (.int .i64 3)) ⟨w1.heap.size + 1, 1, none⟩ (.int .i64 4))) := HM.out.set 3 rfl 1 (.int .i64 4)
  clear HM
  have HM : Hid (Mn [(w5.heap.size, [.int .i64 0, .int .i64 0, .bool false], 30), (w2.heap.size, [.int .i64 c, .int .i64 d], 23), (w1.heap.size + 2, [.int .i64 q.x, .int .i64 q.y, .bool q.far, .int .i64 r.x, .int .i64 r.y, .bool r.far], 30), (w1.heap.size + 1, [.int .i64 3, .int .i64 4], 23), (w1.heap.size, [.int .i64 0, .int .i64 0, .bool false], 30), (w.heap.size + 1, [.int .i64 r.x, .int .i64 r.y, .bool r.far], 30), (w.heap.size, [.int .i64 q.x, .int .i64 q.y, .bool q.far], 30)] w (World.setCell (World.setCell (World.alloc w5 (.cells #[.int .i64 0, .int .i64 0, .bool false] 30)) ⟨w1.heap.size + 1, 0, none⟩ (.int .i64 3)) ⟨w1.heap.size + 1, 1, none⟩ (.int .i64 4))) := HM'
  clear HM'
  have f14 : World.cell? (World.setCell (World.setCell (World.alloc w5 (.cells #[.int .i64 0, .int .i64 0, .bool false] 30)) ⟨w1.heap.size + 1, 0, none⟩ (.int .i64 3)) ⟨w1.heap.size + 1, 1, none⟩ (.int .i64 4)) ⟨w.heap.size, 0, none⟩ = some (.int .i64 q.x) := (HM.out.at 6 rfl).cell 0
  have f15 : World.cell? (World.setCell (World.setCell (World.alloc w5 (.cells #[.int .i64 0, .int .i64 0, .bool false] 30)) ⟨w1.heap.size + 1, 0, none⟩ (.int .i64 3)) ⟨w1.heap.size + 1, 1, none⟩ (.int .i64 4)) ⟨w.heap.size, 1, none⟩ = some (.int .i64 q.y) := (HM.out.at 6 rfl).cell 1
  have f16 : World.cell? (World.setCell (World.setCell (World.alloc w5 (.cells #[.int .i64 0, .int .i64 0, .bool false] 30)) ⟨w1.heap.size + 1, 0, none⟩ (.int .i64 3)) ⟨w1.heap.size + 1, 1, none⟩ (.int .i64 4)) ⟨w.heap.size, 2, none⟩ = some (.bool q.far) := (HM.out.at 6 rfl).cell 2
  go_wp2_with fail
  refine (HOr.out _ (HT.out.below HM.out.k)).mono ?_
  rintro e w6 ⟨rfl, k1⟩
  clear f10 f11 f12 f13 f14 f15 f16
  have HM' : Hid (Mn [(w5.heap.size, [.int .i64 0, .int .i64 0, .bool false], 30), (w2.heap.size, [.int .i64 c, .int .i64 d], 23), (w1.heap.size + 2, [.int .i64 q.x, .int .i64 q.y, .bool q.far, .int .i64 r.x, .int .i64 r.y, .bool r.far], 30), (w1.heap.size + 1, [.int .i64 3, .int .i64 4], 23), (w1.heap.size, [.int .i64 0, .int .i64 0, .bool false], 30), (w.heap.size + 1, [.int .i64 r.x, .int .i64 r.y, .bool r.far], 30), (w.heap.size, [.int .i64 q.x, .int .i64 q.y, .bool q.far], 30)] w w6) := HM.out.below k1
  clear HM k1
  have HM : Hid (Mn [(w5.heap.size, [.int .i64 0, .int .i64 0, .bool false], 30), (w2.heap.size, [.int .i64 c, .int .i64 d], 23), (w1.heap.size + 2, [.int .i64 q.x, .int .i64 q.y, .bool q.far, .int .i64 r.x, .int .i64 r.y, .bool r.far], 30), (w1.heap.size + 1, [.int .i64 3, .int .i64 4], 23), (w1.heap.size, [.int .i64 0, .int .i64 0, .bool false], 30), (w.heap.size + 1, [.int .i64 r.x, .int .i64 r.y, .bool r.far], 30), (w.heap.size, [.int .i64 q.x, .int .i64 q.y, .bool q.far], 30)] w w6) := HM'
  clear HM'
  have HM' : Hid (Mn [(w6.heap.size, [.int .i64 0, .int .i64 0], 23), (w5.heap.size, [.int .i64 0, .int .i64 0, .bool false], 30), (w2.heap.size, [.int .i64 c, .int .i64 d], 23), (w1.heap.size + 2, [.int .i64 q.x, .int .i64 q.y, .bool q.far, .int .i64 r.x, .int .i64 r.y, .bool r.far], 30), (w1.heap.size + 1, [.int .i64 3, .int .i64 4], 23), (w1.heap.size, [.int .i64 0, .int .i64 0, .bool false], 30), (w.heap.size + 1, [.int .i64 r.x, .int .i64 r.y, .bool r.far], 30), (w.heap.size, [.int .i64 q.x, .int .i64 q.y, .bool q.far], 30)] w (World.alloc w6 (.cells #[.int .i64 0, .int .i64 0] 23))) := HM.out.new [.int .i64 0, .int .i64 0] 23 (by simp)
  clear HM
  have HM : Hid (Mn [(w6.heap.size, [.int .i64 0, .int .i64 0], 23), (w5.heap.size, [.int .i64 0, .int .i64 0, .bool false], 30), (w2.heap.size, [.int .i64 c, .int .i64 d], 23), (w1.heap.size + 2, [.int .i64 q.x, .int .i64 q.y, .bool q.far, .int .i64 r.x, .int .i64 r.y, .bool r.far], 30), (w1.heap.size + 1, [.int .i64 3, .int .i64 4], 23), (w1.heap.size, [.int .i64 0, .int .i64 0, .bool false], 30), (w.heap.size + 1, [.int .i64 r.x, .int .i64 r.y, .bool r.far], 30), (w.heap.size, [.int .i64 q.x, .int .i64 q.y, .bool q.far], 30)] w (World.alloc w6 (.cells #[.int .i64 0, .int .i64 0] 23))) := HM'
  clear HM'
  have f17 : World.cell? (World.alloc w6 (.cells #[.int .i64 0, .int .i64 0] 23)) ⟨w.heap.size, 0, none⟩ = some (.int .i64 q.x) := (HM.out.at 7 rfl).cell 0
  have f18 : World.cell? (World.alloc w6 (.cells #[.int .i64 0, .int .i64 0] 23)) ⟨w.heap.size, 1, none⟩ = some (.int .i64 q.y) := (HM.out.at 7 rfl).cell 1
  have f19 : World.cell? (World.alloc w6 (.cells #[.int .i64 0, .int .i64 0] 23)) ⟨w.heap.size, 2, none⟩ = some (.bool q.far) := (HM.out.at 7 rfl).cell 2
  go_wp2_with fail
  have HM' : Hid (Mn [(w6.heap.size + 1, [.int .i64 q.x, .int .i64 q.y, .bool q.far], 30), (w6.heap.size, [.int .i64 0, .int .i64 0], 23), (w5.heap.size, [.int .i64 0, .int .i64 0, .bool false], 30), (w2.heap.size, [.int .i64 c, .int .i64 d], 23), (w1.heap.size + 2, [.int .i64 q.x, .int .i64 q.y, .bool q.far, .int .i64 r.x, .int .i64 r.y, .bool r.far], 30), (w1.heap.size + 1, [.int .i64 3, .int .i64 4], 23), (w1.heap.size, [.int .i64 0, .int .i64 0, .bool false], 30), (w.heap.size + 1, [.int .i64 r.x, .int .i64 r.y, .bool r.far], 30), (w.heap.size, [.int .i64 q.x, .int .i64 q.y, .bool q.far], 30)] w (World.alloc (World.alloc w6 (.cells #[.int .i64 0, .int .i64 0] 23)) (.cells #[.int .i64 q.x, .int .i64 q.y, .bool q.far] 30))) := HM.out.new [.int .i64 q.x, .int .i64 q.y, .bool q.far] 30 (by simp)
  clear HM
  have HM : Hid (Mn [(w6.heap.size + 1, [.int .i64 q.x, .int .i64 q.y, .bool q.far], 30), (w6.heap.size, [.int .i64 0, .int .i64 0], 23), (w5.heap.size, [.int .i64 0, .int .i64 0, .bool false], 30), (w2.heap.size, [.int .i64 c, .int .i64 d], 23), (w1.heap.size + 2, [.int .i64 q.x, .int .i64 q.y, .bool q.far, .int .i64 r.x, .int .i64 r.y, .bool r.far], 30), (w1.heap.size + 1, [.int .i64 3, .int .i64 4], 23), (w1.heap.size, [.int .i64 0, .int .i64 0, .bool false], 30), (w.heap.size + 1, [.int .i64 r.x, .int .i64 r.y, .bool r.far], 30), (w.heap.size, [.int .i64 q.x, .int .i64 q.y, .bool q.far], 30)] w (World.alloc (World.alloc w6 (.cells #[.int .i64 0, .int .i64 0] 23)) (.cells #[.int .i64 q.x, .int .i64 q.y, .bool q.far] 30))) := HM'
  clear HM'
  refine (HOq.out _ _ (PS.one (q := q) (HM.out.at 0 rfl))).mono ?_
  rintro e w7 ⟨rfl, k1⟩
  clear f17 f18 f19
  have HM' : Hid (Mn [(w6.heap.size + 1, [.int .i64 q.x, .int .i64 q.y, .bool q.far], 30), (w6.heap.size, [.int .i64 0, .int .i64 0], 23), (w5.heap.size, [.int .i64 0, .int .i64 0, .bool false], 30), (w2.heap.size, [.int .i64 c, .int .i64 d], 23), (w1.heap.size + 2, [.int .i64 q.x, .int .i64 q.y, .bool q.far, .int .i64 r.x, .int .i64 r.y, .bool r.far], 30), (w1.heap.size + 1, [.int .i64 3, .int .i64 4], 23), (w1.heap.size, [.int .i64 0, .int .i64 0, .bool false], 30), (w.heap.size + 1, [.int .i64 r.x, .int .i64 r.y, .bool r.far], 30), (w.heap.size, [.int .i64 q.x, .int .i64 q.y, .bool q.far], 30)] w w7) := HM.out.below k1
  clear HM k1
  have HM : Hid (Mn [(w6.heap.size + 1, [.int .i64 q.x, .int .i64 q.y, .bool q.far], 30), (w6.heap.size, [.int .i64 0, .int .i64 0], 23), (w5.heap.size, [.int .i64 0, .int .i64 0, .bool false], 30), (w2.heap.size, [.int .i64 c, .int .i64 d], 23), (w1.heap.size + 2, [.int .i64 q.x, .int .i64 q.y, .bool q.far, .int .i64 r.x, .int .i64 r.y, .bool r.far], 30), (w1.heap.size + 1, [.int .i64 3, .int .i64 4], 23), (w1.heap.size, [.int .i64 0, .int .i64 0, .bool false], 30), (w.heap.size + 1, [.int .i64 r.x, .int .i64 r.y, .bool r.far], 30), (w.heap.size, [.int .i64 q.x, .int .i64 q.y, .bool q.far], 30)] w w7) := HM'
  clear HM'
  have f20 : World.cell? w7 ⟨w2.heap.size, 0, none⟩ = some (.int .i64 c) := (HM.out.at 3 rfl).cell 0
  have f21 : World.cell? w7 ⟨w2.heap.size, 1, none⟩ = some (.int .i64 d) := (HM.out.at 3 rfl).cell 1
  have f22 : World.frozen? w7 ⟨w2.heap.size, 0, none⟩ = false := (HM.out.at 3 rfl).frozen 0
  have f23 : World.frozen? w7 ⟨w2.heap.size, 1, none⟩ = false := (HM.out.at 3 rfl).frozen 1
  have HM' : Hid (Mn [(w6.heap.size + 1, [.int .i64 q.x, .int .i64 q.y, .bool q.far], 30), (w6.heap.size, [.int .i64 0, .int .i64 0], 23), (w5.heap.size, [.int .i64 0, .int .i64 0, .bool false], 30), (w2.heap.size, [.int .i64 0, .int .i64 d], 23), (w1.heap.size + 2, [.int .i64 q.x, .int .i64 q.y, .bool q.far, .int .i64 r.x, .int .i64 r.y, .bool r.far], 30), (w1.heap.size + 1, [.int .i64 3, .int .i64 4], 23), (w1.heap.size, [.int .i64 0, .int .i64 0, .bool false], 30), (w.heap.size + 1, [.int .i64 r.x, .int .i64 r.y, .bool r.far], 30), (w.heap.size, [.int .i64 q.x, .int .i64 q.y, .bool q.far], 30)] w (World.setCell w7 ⟨w2.heap.size, 0, none⟩ (.int .i64 0))) := HM.out.set 3 rfl 0 (.int .i64 0)
  clear HM
  have HM : Hid (Mn [(w6.heap.size + 1, [.int .i64 q.x, .int .i64 q.y, .bool q.far], 30), (w6.heap.size, [.int .i64 0, .int .i64 0], 23), (w5.heap.size, [.int .i64 0, .int .i64 0, .bool false], 30), (w2.heap.size, [.int .i64 0, .int .i64 d], 23), (w1.heap.size + 2, [.int .i64 q.x, .int .i64 q.y, .bool q.far, .int .i64 r.x, .int .i64 r.y, .bool r.far], 30), (w1.heap.size + 1, [.int .i64 3, .int .i64 4], 23), (w1.heap.size, [.int .i64 0, .int .i64 0, .bool false], 30), (w.heap.size + 1, [.int .i64 r.x, .int .i64 r.y, .bool r.far], 30), (w.heap.size, [.int .i64 q.x, .int .i64 q.y, .bool q.far], 30)] w (World.setCell w7 ⟨w2.heap.size, 0, none⟩ (.int .i64 0))) := HM'
  clear HM'
  have HM' : Hid (Mn [(w6.heap.size + 1, [.int .i64 q.x, .int .i64 q.y, .bool q.far], 30), (w6.heap.size, [.int .i64 0, .int .i64 0], 23), (w5.heap.size, [.int .i64 0, .int .i64 0, .bool false], 30), (w2.heap.size, [.int .i64 0, .int .i64 0], 23), (w1.heap.size + 2, [.int .i64 q.x, .int .i64 q.y, .bool q.far, .int .i64 r.x, .int .i64 r.y, .bool r.far], 30), (w1.heap.size + 1, [.int .i64 3, .int .i64 4], 23), (w1.heap.size, [.int .i64 0, .int .i64 0, .bool false], 30), (w.heap.size + 1, [.int .i64 r.x, .int .i64 r.y, .bool r.far], 30), (w.heap.size, [.int .i64 q.x, .int .i64 q.y, .bool q.far], 30)] w (World.setCell (World.setCell w7 ⟨w2.heap.size, 0, none⟩ (.int .i64 0)) ⟨w2.heap.size, 1, none⟩ (.int .i64 0))) := HM.out.set 3 rfl 1 (.int .i64 0)
  clear HM
  have HM : Hid (Mn [(w6.heap.size + 1, [.int .i64 q.x, .int .i64 q.y, .bool q.far], 30), (w6.heap.size, [.int .i64 0, .int .i64 0], 23), (w5.heap.size, [.int .i64 0, .int .i64 0, .bool false], 30), (w2.heap.size, [.int .i64 0, .int .i64 0], 23), (w1.heap.size + 2, [.int .i64 q.x, .int .i64 q.y, .bool q.far, .int .i64 r.x, .int .i64 r.y, .bool r.far], 30), (w1.heap.size + 1, [.int .i64 3, .int .i64 4], 23), (w1.heap.size, [.int .i64 0, .int .i64 0, .bool false], 30), (w.heap.size + 1, [.int .i64 r.x, .int .i64 r.y, .bool r.far], 30), (w.heap.size, [.int .i64 q.x, .int .i64 q.y, .bool q.far], 30)] w (World.setCell (World.setCell w7 ⟨w2.heap.size, 0, none⟩ (.int .i64 0)) ⟨w2.heap.size, 1, none⟩ (.int .i64 0))) := HM'
  clear HM'
  have f24 : World.cell? (World.setCell (World.setCell w7 ⟨w2.heap.size, 0, none⟩ (.int .i64 0)) ⟨w2.heap.size, 1, none⟩ (.int .i64 0)) ⟨w2.heap.size, 0, none⟩ = some (.int .i64 0) := (HM.out.at 3 rfl).cell 0
  have f25 : World.cell? (World.setCell (World.setCell w7 ⟨w2.heap.size, 0, none⟩ (.int .i64 0)) ⟨w2.heap.size, 1, none⟩ (.int .i64 0)) ⟨w2.heap.size, 1, none⟩ = some (.int .i64 0) := (HM.out.at 3 rfl).cell 1
  have HM' : Hid (Mn [(w7.heap.size, [.int .i64 0, .int .i64 0], 23), (w6.heap.size + 1, [.int .i64 q.x, .int .i64 q.y, .bool q.far], 30), (w6.heap.size, [.int .i64 0, .int .i64 0], 23), (w5.heap.size, [.int .i64 0, .int .i64 0, .bool false], 30), (w2.heap.size, [.int .i64 0, .int .i64 0], 23), (w1.heap.size + 2, [.int .i64 q.x, .int .i64 q.y, .bool q.far, .int .i64 r.x, .int .i64 r.y, .bool r.far], 30), (w1.heap.size + 1, [.int .i64 3, .int .i64 4], 23), (w1.heap.size, [.int .i64 0, .int .i64 0, .bool false], 30), (w.heap.size + 1, [.int .i64 r.x, .int .i64 r.y, .bool r.far], 30), (w.heap.size, [.int .i64 q.x, .int .i64 q.y, .bool q.far], 30)] w (World.alloc (World.setCell (World.setCell w7 ⟨w2.heap.size, 0, none⟩ (.int .i64 0)) ⟨w2.heap.size, 1, none⟩ (.int .i64 0)) (.cells #[.int .i64 0, .int .i64 0] 23))) := HM.out.new [.int .i64 0, .int .i64 0] 23 (by simp)
  clear HM
  have HM : Hid (Mn [(w7.heap.size, [.int .i64 0, .int .i64 0], 23), (w6.heap.size + 1, [.int .i64 q.x, .int .i64 q.y, .bool q.far], 30), (w6.heap.size, [.int .i64 0, .int .i64 0], 23), (w5.heap.size, [.int .i64 0, .int .i64 0, .bool false], 30), (w2.heap.size, [.int .i64 0, .int .i64 0], 23), (w1.heap.size + 2, [.int .i64 q.x, .int .i64 q.y, .bool q.far, .int .i64 r.x, .int .i64 r.y, .bool r.far], 30), (w1.heap.size + 1, [.int .i64 3, .int .i64 4], 23), (w1.heap.size, [.int .i64 0, .int .i64 0, .bool false], 30), (w.heap.size + 1, [.int .i64 r.x, .int .i64 r.y, .bool r.far], 30), (w.heap.size, [.int .i64 q.x, .int .i64 q.y, .bool q.far], 30)] w (World.alloc (World.setCell (World.setCell w7 ⟨w2.heap.size, 0, none⟩ (.int .i64 0)) ⟨w2.heap.size, 1, none⟩ (.int .i64 0)) (.cells #[.int .i64 0, .int .i64 0] 23))) := HM'
  clear HM'
  have f26 : World.cell? (World.alloc (World.setCell (World.setCell w7 ⟨w2.heap.size, 0, none⟩ (.int .i64 0)) ⟨w2.heap.size, 1, none⟩ (.int .i64 0)) (.cells #[.int .i64 0, .int .i64 0] 23)) ⟨w2.heap.size, 0, none⟩ = some (.int .i64 0) := (HM.out.at 4 rfl).cell 0
  have f27 : World.cell? (World.alloc (World.setCell (World.setCell w7 ⟨w2.heap.size, 0, none⟩ (.int .i64 0)) ⟨w2.heap.size, 1, none⟩ (.int .i64 0)) (.cells #[.int .i64 0, .int .i64 0] 23)) ⟨w2.heap.size, 1, none⟩ = some (.int .i64 0) := (HM.out.at 4 rfl).cell 1
  go_wp2_with fail
  refine (number_any _ _).mono ?_
  rintro e w8 ⟨rfl, hw8⟩
  rw [hw8, hnum]
  clear hw8 w8
  go_wp2_with fail
  refine (F_any 3 4 _).mono ?_
  rintro e w8 ⟨rfl, k1⟩
  clear f20 f21 f22 f23 f24 f25 f26 f27
  have HM' : Hid (Mn [(w7.heap.size, [.int .i64 0, .int .i64 0], 23), (w6.heap.size + 1, [.int .i64 q.x, .int .i64 q.y, .bool q.far], 30), (w6.heap.size, [.int .i64 0, .int .i64 0], 23), (w5.heap.size, [.int .i64 0, .int .i64 0, .bool false], 30), (w2.heap.size, [.int .i64 0, .int .i64 0], 23), (w1.heap.size + 2, [.int .i64 q.x, .int .i64 q.y, .bool q.far, .int .i64 r.x, .int .i64 r.y, .bool r.far], 30), (w1.heap.size + 1, [.int .i64 3, .int .i64 4], 23), (w1.heap.size, [.int .i64 0, .int .i64 0, .bool false], 30), (w.heap.size + 1, [.int .i64 r.x, .int .i64 r.y, .bool r.far], 30), (w.heap.size, [.int .i64 q.x, .int .i64 q.y, .bool q.far], 30)] w w8) := HM.out.below k1
  clear HM k1
  have HM : Hid (Mn [(w7.heap.size, [.int .i64 0, .int .i64 0], 23), (w6.heap.size + 1, [.int .i64 q.x, .int .i64 q.y, .bool q.far], 30), (w6.heap.size, [.int .i64 0, .int .i64 0], 23), (w5.heap.size, [.int .i64 0, .int .i64 0, .bool false], 30), (w2.heap.size, [.int .i64 0, .int .i64 0], 23), (w1.heap.size + 2, [.int .i64 q.x, .int .i64 q.y, .bool q.far, .int .i64 r.x, .int .i64 r.y, .bool r.far], 30), (w1.heap.size + 1, [.int .i64 3, .int .i64 4], 23), (w1.heap.size, [.int .i64 0, .int .i64 0, .bool false], 30), (w.heap.size + 1, [.int .i64 r.x, .int .i64 r.y, .bool r.far], 30), (w.heap.size, [.int .i64 q.x, .int .i64 q.y, .bool q.far], 30)] w w8) := HM'
  clear HM'
  have f28 : World.cell? w8 ⟨w2.heap.size, 0, none⟩ = some (.int .i64 0) := (HM.out.at 4 rfl).cell 0
  have f29 : World.cell? w8 ⟨w2.heap.size, 1, none⟩ = some (.int .i64 0) := (HM.out.at 4 rfl).cell 1
  have f30 : World.frozen? w8 ⟨w2.heap.size, 0, none⟩ = false := (HM.out.at 4 rfl).frozen 0
  have f31 : World.frozen? w8 ⟨w2.heap.size, 1, none⟩ = false := (HM.out.at 4 rfl).frozen 1
  have HM' : Hid (Mn [(w7.heap.size, [.int .i64 0, .int .i64 0], 23), (w6.heap.size + 1, [.int .i64 q.x, .int .i64 q.y, .bool q.far], 30), (w6.heap.size, [.int .i64 0, .int .i64 0], 23), (w5.heap.size, [.int .i64 0, .int .i64 0, .bool false], 30), (w2.heap.size, [.int .i64 3, .int .i64 0], 23), (w1.heap.size + 2, [.int .i64 q.x, .int .i64 q.y, .bool q.far, .int .i64 r.x, .int .i64 r.y, .bool r.far], 30), (w1.heap.size + 1, [.int .i64 3, .int .i64 4], 23), (w1.heap.size, [.int .i64 0, .int .i64 0, .bool false], 30), (w.heap.size + 1, [.int .i64 r.x, .int .i64 r.y, .bool r.far], 30), (w.heap.size, [.int .i64 q.x, .int .i64 q.y, .bool q.far], 30)] w (World.setCell w8 ⟨w2.heap.size, 0, none⟩ (.int .i64 3))) := HM.out.set 4 rfl 0 (.int .i64 3)
  clear HM
  have HM : Hid (Mn [(w7.heap.size, [.int .i64 0, .int .i64 0], 23), (w6.heap.size + 1, [.int .i64 q.x, .int .i64 q.y, .bool q.far], 30), (w6.heap.size, [.int .i64 0, .int .i64 0], 23), (w5.heap.size, [.int .i64 0, .int .i64 0, .bool false], 30), (w2.heap.size, [.int .i64 3, .int .i64 0], 23), (w1.heap.size + 2, [.int .i64 q.x, .int .i64 q.y, .bool q.far, .int .i64 r.x, .int .i64 r.y, .bool r.far], 30), (w1.heap.size + 1, [.int .i64 3, .int .i64 4], 23), (w1.heap.size, [.int .i64 0, .int .i64 0, .bool false], 30), (w.heap.size + 1, [.int .i64 r.x, .int .i64 r.y, .bool r.far], 30), (w.heap.size, [.int .i64 q.x, .int .i64 q.y, .bool q.far], 30)] w (World.setCell w8 ⟨w2.heap.size, 0, none⟩ (.int .i64 3))) := HM'
  clear HM'
  have HM' : Hid (Mn [(w7.heap.size, [.int .i64 0, .int .i64 0], 23), (w6.heap.size + 1, [.int .i64 q.x, .int .i64 q.y, .bool q.far], 30), (w6.heap.size, [.int .i64 0, .int .i64 0], 23), (w5.heap.size, [.int .i64 0, .int .i64 0, .bool false], 30), (w2.heap.size, [.int .i64 3, .int .i64 4], 23), (w1.heap.size + 2, [.int .i64 q.x, .int .i64 q.y, .bool q.far, .int .i64 r.x, .int .i64 r.y, .bool r.far], 30), (w1.heap.size + 1, [.int .i64 3, .int .i64 4], 23), (w1.heap.size, [.int .i64 0, .int .i64 0, .bool false], 30), (w.heap.size + 1, [.int .i64 r.x, .int .i64 r.y, .bool r.far], 30), (w.heap.size, [.int .i64 q.x, .int .i64 q.y, .bool q.far], 30)] w (World.setCell (World.setCell w8 ⟨w2.heap.size, 0, none⟩ (.int .i64 3)) ⟨w2.heap.size, 1, none⟩ (.int .i64 4))) := HM.out.set 4 rfl 1 (.int .i64 4)
  clear HM
  have HM : Hid (Mn [(w7.heap.size, [.int .i64 0, .int .i64 0], 23), (w6.heap.size + 1, [.int .i64 q.x, .int .i64 q.y, .bool q.far], 30), (w6.heap.size, [.int .i64 0, .int .i64 0], 23), (w5.heap.size, [.int .i64 0, .int .i64 0, .bool false], 30), (w2.heap.size, [.int .i64 3, .int .i64 4], 23), (w1.heap.size + 2, [.int .i64 q.x, .int .i64 q.y, .bool q.far, .int .i64 r.x, .int .i64 r.y, .bool r.far], 30), (w1.heap.size + 1, [.int .i64 3, .int .i64 4], 23), (w1.heap.size, [.int .i64 0, .int .i64 0, .bool false], 30), (w.heap.size + 1, [.int .i64 r.x, .int .i64 r.y, .bool r.far], 30), (w.heap.size, [.int .i64 q.x, .int .i64 q.y, .bool q.far], 30)] w (World.setCell (World.setCell w8 ⟨w2.heap.size, 0, none⟩ (.int .i64 3)) ⟨w2.heap.size, 1, none⟩ (.int .i64 4))) := HM'
  clear HM'
  have f32 : World.cell? (World.setCell (World.setCell w8 ⟨w2.heap.size, 0, none⟩ (.int .i64 3)) ⟨w2.heap.size, 1, none⟩ (.int .i64 4)) ⟨w2.heap.size, 0, none⟩ = some (.int .i64 3) := (HM.out.at 4 rfl).cell 0
  have f33 : World.cell? (World.setCell (World.setCell w8 ⟨w2.heap.size, 0, none⟩ (.int .i64 3)) ⟨w2.heap.size, 1, none⟩ (.int .i64 4)) ⟨w2.heap.size, 1, none⟩ = some (.int .i64 4) := (HM.out.at 4 rfl).cell 1
  have f34 : World.cell? (World.setCell (World.setCell w8 ⟨w2.heap.size, 0, none⟩ (.int .i64 3)) ⟨w2.heap.size, 1, none⟩ (.int .i64 4)) ⟨w1.heap.size + 1, 0, none⟩ = some (.int .i64 3) := (HM.out.at 6 rfl).cell 0
  have f35 : World.cell? (World.setCell (World.setCell w8 ⟨w2.heap.size, 0, none⟩ (.int .i64 3)) ⟨w2.heap.size, 1, none⟩ (.int .i64 4)) ⟨w1.heap.size + 1, 1, none⟩ = some (.int .i64 4) := (HM.out.at 6 rfl).cell 1
  have f36 : World.cell? (World.setCell (World.setCell w8 ⟨w2.heap.size, 0, none⟩ (.int .i64 3)) ⟨w2.heap.size, 1, none⟩ (.int .i64 4)) ⟨w6.heap.size, 0, none⟩ = some (.int .i64 0) := (HM.out.at 2 rfl).cell 0
  have f37 : World.cell? (World.setCell (World.setCell w8 ⟨w2.heap.size, 0, none⟩ (.int .i64 3)) ⟨w2.heap.size, 1, none⟩ (.int .i64 4)) ⟨w6.heap.size, 1, none⟩ = some (.int .i64 0) := (HM.out.at 2 rfl).cell 1
  have f38 : World.cell? (World.setCell (World.setCell w8 ⟨w2.heap.size, 0, none⟩ (.int .i64 3)) ⟨w2.heap.size, 1, none⟩ (.int .i64 4)) ⟨w7.heap.size, 0, none⟩ = some (.int .i64 0) := (HM.out.at 0 rfl).cell 0
  have f39 : World.cell? (World.setCell (World.setCell w8 ⟨w2.heap.size, 0, none⟩ (.int .i64 3)) ⟨w2.heap.size, 1, none⟩ (.int .i64 4)) ⟨w7.heap.size, 1, none⟩ = some (.int .i64 0) := (HM.out.at 0 rfl).cell 1
  have f40 : World.cell? (World.setCell (World.setCell w8 ⟨w2.heap.size, 0, none⟩ (.int .i64 3)) ⟨w2.heap.size, 1, none⟩ (.int .i64 4)) ⟨w5.heap.size, 0, none⟩ = some (.int .i64 0) := (HM.out.at 3 rfl).cell 0
  have f41 : World.cell? (World.setCell (World.setCell w8 ⟨w2.heap.size, 0, none⟩ (.int .i64 3)) ⟨w2.heap.size, 1, none⟩ (.int .i64 4)) ⟨w5.heap.size, 1, none⟩ = some (.int .i64 0) := (HM.out.at 3 rfl).cell 1
  have f42 : World.cell? (World.setCell (World.setCell w8 ⟨w2.heap.size, 0, none⟩ (.int .i64 3)) ⟨w2.heap.size, 1, none⟩ (.int .i64 4)) ⟨w5.heap.size, 2, none⟩ = some (.bool false) := (HM.out.at 3 rfl).cell 2
  have f43 : World.cell? (World.setCell (World.setCell w8 ⟨w2.heap.size, 0, none⟩ (.int .i64 3)) ⟨w2.heap.size, 1, none⟩ (.int .i64 4)) ⟨w.heap.size, 0, none⟩ = some (.int .i64 q.x) := (HM.out.at 9 rfl).cell 0
  have f44 : World.cell? (World.setCell (World.setCell w8 ⟨w2.heap.size, 0, none⟩ (.int .i64 3)) ⟨w2.heap.size, 1, none⟩ (.int .i64 4)) ⟨w.heap.size, 1, none⟩ = some (.int .i64 q.y) := (HM.out.at 9 rfl).cell 1
  have f45 : World.cell? (World.setCell (World.setCell w8 ⟨w2.heap.size, 0, none⟩ (.int .i64 3)) ⟨w2.heap.size, 1, none⟩ (.int .i64 4)) ⟨w.heap.size, 2, none⟩ = some (.bool q.far) := (HM.out.at 9 rfl).cell 2
  go_wp2_with fail
  refine (HCo.out _).mono ?_
  rintro e w9 ⟨rfl, k1⟩
  clear f28 f29 f30 f31 f32 f33 f34 f35 f36 f37 f38 f39 f40 f41 f42 f43 f44 f45
  have HM' : Hid (Mn [(w7.heap.size, [.int .i64 0, .int .i64 0], 23), (w6.heap.size + 1, [.int .i64 q.x, .int .i64 q.y, .bool q.far], 30), (w6.heap.size, [.int .i64 0, .int .i64 0], 23), (w5.heap.size, [.int .i64 0, .int .i64 0, .bool false], 30), (w2.heap.size, [.int .i64 3, .int .i64 4], 23), (w1.heap.size + 2, [.int .i64 q.x, .int .i64 q.y, .bool q.far, .int .i64 r.x, .int .i64 r.y, .bool r.far], 30), (w1.heap.size + 1, [.int .i64 3, .int .i64 4], 23), (w1.heap.size, [.int .i64 0, .int .i64 0, .bool false], 30), (w.heap.size + 1, [.int .i64 r.x, .int .i64 r.y, .bool r.far], 30), (w.heap.size, [.int .i64 q.x, .int .i64 q.y, .bool q.far], 30)] w w9) := HM.out.below k1
  clear HM k1
  have HM : Hid (Mn [(w7.heap.size, [.int .i64 0, .int .i64 0], 23), (w6.heap.size + 1, [.int .i64 q.x, .int .i64 q.y, .bool q.far], 30), (w6.heap.size, [.int .i64 0, .int .i64 0], 23), (w5.heap.size, [.int .i64 0, .int .i64 0, .bool false], 30), (w2.heap.size, [.int .i64 3, .int .i64 4], 23), (w1.heap.size + 2, [.int .i64 q.x, .int .i64 q.y, .bool q.far, .int .i64 r.x, .int .i64 r.y, .bool r.far], 30), (w1.heap.size + 1, [.int .i64 3, .int .i64 4], 23), (w1.heap.size, [.int .i64 0, .int .i64 0, .bool false], 30), (w.heap.size + 1, [.int .i64 r.x, .int .i64 r.y, .bool r.far], 30), (w.heap.size, [.int .i64 q.x, .int .i64 q.y, .bool q.far], 30)] w w9) := HM'
  clear HM'
  have f46 : World.cell? w9 ⟨w2.heap.size, 0, none⟩ = some (.int .i64 3) := (HM.out.at 4 rfl).cell 0
  have f47 : World.cell? w9 ⟨w2.heap.size, 1, none⟩ = some (.int .i64 4) := (HM.out.at 4 rfl).cell 1
  go_wp2
  go_ret
  exact ⟨rfl, HM.out.k⟩

set_option maxHeartbeats 8000000 in
theorem adds_bad_num (P : Nat) (a b c d n : Int) (q r : Pn) (k : Nat) (w : World) (h : Of P a b [q, r] c d) (hc : c ≠ 0) (hv : Cv P a b) (hq : On P a b q) (hk : Od P a q k) (hk2 : k ≤ 4000001) (hnum : numB n = true) (hT : Tb w) :
    Calls Tryd.prog 4 #[.int .i64 P, .int .i64 a, .int .i64 b, .int .i64 n, Pv q, Pv r] w fun e w' => e = .returned (.bool true) ∧ Below w.heap.size w w' := by
  have HBg : Hid (∀ w, Tb w → Calls Tryd.prog 10 #[] w fun e w' => e = .returned (.bool true) ∧ Below w.heap.size w w') := fun w h => curveBegun_any w h
  have HAd : Hid (∀ w, Tb w → Calls Tryd.prog 14 #[.int .i64 P, .int .i64 a, .int .i64 b, Pv q, Pv r] w fun e w' => e = .returned (.tuple #[Pv zP, .agg #[.int .i64 c, .int .i64 d]]) ∧ Below w.heap.size w w') := fun w hT => Add_bad P a b c d q r w h hc hT
  have HOf : Hid (∀ w sl, PS w sl [q, r] → Calls Tryd.prog 15 #[.int .i64 P, .int .i64 a, .int .i64 b, sl] w fun e w' => e = .returned (.agg #[.int .i64 c, .int .i64 d]) ∧ Below w.heap.size w w') := fun w sl hs => offCurve_any P a b c d sl [q, r] w h hs (by simp)
  have hcb : (c != 0) = true := by simp [bne]; exact hc
  have hcb2 : (c == 0) = false := beq_eq_false_iff_ne.2 hc
  have HOr : Hid (∀ w, Tb w → Calls Tryd.prog 18 #[.int .i64 P, .int .i64 a, .int .i64 b, Pv q] w fun e w' => e = .returned (.tuple #[.int .i64 k, .agg #[.int .i64 0, .int .i64 0]]) ∧ Below w.heap.size w w') := fun w hT => Order_ok P a b q k w (of_ok hv (by simp [hq])) hv hq hk hk2 hT
  have HOq : Hid (∀ w sl, PS w sl [q] → Calls Tryd.prog 15 #[.int .i64 P, .int .i64 a, .int .i64 b, sl] w fun e w' => e = .returned (.agg #[.int .i64 0, .int .i64 0]) ∧ Below w.heap.size w w') := fun w sl hs => offCurve_any P a b 0 0 sl [q] w (of_ok hv (by simp [hq])) hs (by simp)
  have HCo : Hid (∀ w, Calls Tryd.prog 21 #[.int .i64 P, .int .i64 a, Pv q] w fun e w' => e = .returned (.int .i64 k) ∧ Below w.heap.size w w') := fun w => CurveOrder_any P a b q k w hv hq hk hk2
  haveI := hv.nz
  have HTm : Hid (∀ w, Tb w → Calls Tryd.prog 17 #[.int .i64 P, .int .i64 a, .int .i64 b, .int .i64 n, Pv q] w fun e w' => e = .returned (.tuple #[Pv (mz P a q n), .agg #[.int .i64 0, .int .i64 0]]) ∧ Below w.heap.size w w') := fun w hT => Times_ok P a b n q w (of_ok hv (by simp [hq])) hv hq hnum hT
  have hk0 := hk.1
  have hr0 := Int.emod_nonneg n (show (k : Int) ≠ 0 by omega)
  have hr1 := Int.emod_lt_of_pos n (show 0 < (k : Int) by omega)
  obtain ⟨R, hR⟩ : ∃ R : Nat, n % (k : Int) = R := ⟨(n % (k : Int)).toNat, by omega⟩
  have HLf : Hid (∀ w, Calls Tryd.prog 22 #[.int .i64 n, .int .i64 k] w fun e w' => e = .returned (.int .i64 (R : Int)) ∧ w' = w) := fun w => by
    have := refLeft_any n k w (by simp [numB] at hnum; omega) hk0 (by omega)
    rw [hR] at this
    exact this
  obtain ⟨t, hte⟩ : ∃ t, mz P a q n = t := ⟨_, rfl⟩
  have HTe : Hid (t = EC.mu P a q R) := by
    show t = _
    rw [← hte, mz_mod hv hq hk n, hR]; simp
  rw [hte] at HTm
  have hRk : R < k := by omega
  have HC : Hid (Cv P a b ∧ On P a b q) := ⟨hv, hq⟩
  clear hr0 hr1 hR hte
  have HT : Hid (Tb w) := hT
  clear hv hq hk hT h hc
  unfold Pv at HAd HTm HOr HCo
  unfold zP at HAd
  unfold Pv
  go_enter Tryd.func4, Tryd.ntmps4
  have HM : Hid (Mn [] w w) := Mn.nil w
  have HM' : Hid (Mn [(w.heap.size, [.int .i64 q.x, .int .i64 q.y, .bool q.far], 30)] w (World.alloc w (.cells #[.int .i64 q.x, .int .i64 q.y, .bool q.far] 30))) := HM.out.new [.int .i64 q.x, .int .i64 q.y, .bool q.far] 30 (by simp)
  clear HM
  have HM : Hid (Mn [(w.heap.size, [.int .i64 q.x, .int .i64 q.y, .bool q.far], 30)] w (World.alloc w (.cells #[.int .i64 q.x, .int .i64 q.y, .bool q.far] 30))) := HM'
  clear HM'
  have HM' : Hid (Mn [(w.heap.size + 1, [.int .i64 r.x, .int .i64 r.y, .bool r.far], 30), (w.heap.size, [.int .i64 q.x, .int .i64 q.y, .bool q.far], 30)] w (World.alloc (World.alloc w (.cells #[.int .i64 q.x, .int .i64 q.y, .bool q.far] 30)) (.cells #[.int .i64 r.x, .int .i64 r.y, .bool r.far] 30))) := HM.out.new [.int .i64 r.x, .int .i64 r.y, .bool r.far] 30 (by simp)
  clear HM
  have HM : Hid (Mn [(w.heap.size + 1, [.int .i64 r.x, .int .i64 r.y, .bool r.far], 30), (w.heap.size, [.int .i64 q.x, .int .i64 q.y, .bool q.far], 30)] w (World.alloc (World.alloc w (.cells #[.int .i64 q.x, .int .i64 q.y, .bool q.far] 30)) (.cells #[.int .i64 r.x, .int .i64 r.y, .bool r.far] 30))) := HM'
  clear HM'
  go_wp2_with fail
  refine (HAd.out _ (HT.out.below HM.out.k)).mono ?_
  rintro e w1 ⟨rfl, k1⟩
  have HM' : Hid (Mn [(w.heap.size + 1, [.int .i64 r.x, .int .i64 r.y, .bool r.far], 30), (w.heap.size, [.int .i64 q.x, .int .i64 q.y, .bool q.far], 30)] w w1) := HM.out.below k1
  clear HM k1
  have HM : Hid (Mn [(w.heap.size + 1, [.int .i64 r.x, .int .i64 r.y, .bool r.far], 30), (w.heap.size, [.int .i64 q.x, .int .i64 q.y, .bool q.far], 30)] w w1) := HM'
  clear HM'
  have HM' : Hid (Mn [(w1.heap.size, [.int .i64 0, .int .i64 0, .bool false], 30), (w.heap.size + 1, [.int .i64 r.x, .int .i64 r.y, .bool r.far], 30), (w.heap.size, [.int .i64 q.x, .int .i64 q.y, .bool q.far], 30)] w (World.alloc w1 (.cells #[.int .i64 0, .int .i64 0, .bool false] 30))) := HM.out.new [.int .i64 0, .int .i64 0, .bool false] 30 (by simp)
  clear HM
  have HM : Hid (Mn [(w1.heap.size, [.int .i64 0, .int .i64 0, .bool false], 30), (w.heap.size + 1, [.int .i64 r.x, .int .i64 r.y, .bool r.far], 30), (w.heap.size, [.int .i64 q.x, .int .i64 q.y, .bool q.far], 30)] w (World.alloc w1 (.cells #[.int .i64 0, .int .i64 0, .bool false] 30))) := HM'
  clear HM'
  have HM' : Hid (Mn [(w1.heap.size + 1, [.int .i64 c, .int .i64 d], 23), (w1.heap.size, [.int .i64 0, .int .i64 0, .bool false], 30), (w.heap.size + 1, [.int .i64 r.x, .int .i64 r.y, .bool r.far], 30), (w.heap.size, [.int .i64 q.x, .int .i64 q.y, .bool q.far], 30)] w (World.alloc (World.alloc w1 (.cells #[.int .i64 0, .int .i64 0, .bool false] 30)) (.cells #[.int .i64 c, .int .i64 d] 23))) := HM.out.new [.int .i64 c, .int .i64 d] 23 (by simp)
  clear HM
  have HM : Hid (Mn [(w1.heap.size + 1, [.int .i64 c, .int .i64 d], 23), (w1.heap.size, [.int .i64 0, .int .i64 0, .bool false], 30), (w.heap.size + 1, [.int .i64 r.x, .int .i64 r.y, .bool r.far], 30), (w.heap.size, [.int .i64 q.x, .int .i64 q.y, .bool q.far], 30)] w (World.alloc (World.alloc w1 (.cells #[.int .i64 0, .int .i64 0, .bool false] 30)) (.cells #[.int .i64 c, .int .i64 d] 23))) := HM'
  clear HM'
  have f1 : World.cell? (World.alloc (World.alloc w1 (.cells #[.int .i64 0, .int .i64 0, .bool false] 30)) (.cells #[.int .i64 c, .int .i64 d] 23)) ⟨w.heap.size, 0, none⟩ = some (.int .i64 q.x) := (HM.out.at 3 rfl).cell 0
  have f2 : World.cell? (World.alloc (World.alloc w1 (.cells #[.int .i64 0, .int .i64 0, .bool false] 30)) (.cells #[.int .i64 c, .int .i64 d] 23)) ⟨w.heap.size, 1, none⟩ = some (.int .i64 q.y) := (HM.out.at 3 rfl).cell 1
  have f3 : World.cell? (World.alloc (World.alloc w1 (.cells #[.int .i64 0, .int .i64 0, .bool false] 30)) (.cells #[.int .i64 c, .int .i64 d] 23)) ⟨w.heap.size, 2, none⟩ = some (.bool q.far) := (HM.out.at 3 rfl).cell 2
  have f4 : World.cell? (World.alloc (World.alloc w1 (.cells #[.int .i64 0, .int .i64 0, .bool false] 30)) (.cells #[.int .i64 c, .int .i64 d] 23)) ⟨w.heap.size + 1, 0, none⟩ = some (.int .i64 r.x) := (HM.out.at 2 rfl).cell 0
  have f5 : World.cell? (World.alloc (World.alloc w1 (.cells #[.int .i64 0, .int .i64 0, .bool false] 30)) (.cells #[.int .i64 c, .int .i64 d] 23)) ⟨w.heap.size + 1, 1, none⟩ = some (.int .i64 r.y) := (HM.out.at 2 rfl).cell 1
  have f6 : World.cell? (World.alloc (World.alloc w1 (.cells #[.int .i64 0, .int .i64 0, .bool false] 30)) (.cells #[.int .i64 c, .int .i64 d] 23)) ⟨w.heap.size + 1, 2, none⟩ = some (.bool r.far) := (HM.out.at 2 rfl).cell 2
  go_wp2_with fail
  have HM' : Hid (Mn [(w1.heap.size + 2, [.int .i64 q.x, .int .i64 q.y, .bool q.far, .int .i64 r.x, .int .i64 r.y, .bool r.far], 30), (w1.heap.size + 1, [.int .i64 c, .int .i64 d], 23), (w1.heap.size, [.int .i64 0, .int .i64 0, .bool false], 30), (w.heap.size + 1, [.int .i64 r.x, .int .i64 r.y, .bool r.far], 30), (w.heap.size, [.int .i64 q.x, .int .i64 q.y, .bool q.far], 30)] w (World.alloc (World.alloc (World.alloc w1 (.cells #[.int .i64 0, .int .i64 0, .bool false] 30)) (.cells #[.int .i64 c, .int .i64 d] 23)) (.cells #[.int .i64 q.x, .int .i64 q.y, .bool q.far, .int .i64 r.x, .int .i64 r.y, .bool r.far] 30))) := HM.out.new [.int .i64 q.x, .int .i64 q.y, .bool q.far, .int .i64 r.x, .int .i64 r.y, .bool r.far] 30 (by simp)
  clear HM
  have HM : Hid (Mn [(w1.heap.size + 2, [.int .i64 q.x, .int .i64 q.y, .bool q.far, .int .i64 r.x, .int .i64 r.y, .bool r.far], 30), (w1.heap.size + 1, [.int .i64 c, .int .i64 d], 23), (w1.heap.size, [.int .i64 0, .int .i64 0, .bool false], 30), (w.heap.size + 1, [.int .i64 r.x, .int .i64 r.y, .bool r.far], 30), (w.heap.size, [.int .i64 q.x, .int .i64 q.y, .bool q.far], 30)] w (World.alloc (World.alloc (World.alloc w1 (.cells #[.int .i64 0, .int .i64 0, .bool false] 30)) (.cells #[.int .i64 c, .int .i64 d] 23)) (.cells #[.int .i64 q.x, .int .i64 q.y, .bool q.far, .int .i64 r.x, .int .i64 r.y, .bool r.far] 30))) := HM'
  clear HM'
  refine (HOf.out _ _ (PS.two (q := q) (r := r) (HM.out.at 0 rfl))).mono ?_
  rintro e w2 ⟨rfl, k1⟩
  clear f1 f2 f3 f4 f5 f6
  have HM' : Hid (Mn [(w1.heap.size + 2, [.int .i64 q.x, .int .i64 q.y, .bool q.far, .int .i64 r.x, .int .i64 r.y, .bool r.far], 30), (w1.heap.size + 1, [.int .i64 c, .int .i64 d], 23), (w1.heap.size, [.int .i64 0, .int .i64 0, .bool false], 30), (w.heap.size + 1, [.int .i64 r.x, .int .i64 r.y, .bool r.far], 30), (w.heap.size, [.int .i64 q.x, .int .i64 q.y, .bool q.far], 30)] w w2) := HM.out.below k1
  clear HM k1
  have HM : Hid (Mn [(w1.heap.size + 2, [.int .i64 q.x, .int .i64 q.y, .bool q.far, .int .i64 r.x, .int .i64 r.y, .bool r.far], 30), (w1.heap.size + 1, [.int .i64 c, .int .i64 d], 23), (w1.heap.size, [.int .i64 0, .int .i64 0, .bool false], 30), (w.heap.size + 1, [.int .i64 r.x, .int .i64 r.y, .bool r.far], 30), (w.heap.size, [.int .i64 q.x, .int .i64 q.y, .bool q.far], 30)] w w2) := HM'
  clear HM'
  have HM' : Hid (Mn [(w2.heap.size, [.int .i64 c, .int .i64 d], 23), (w1.heap.size + 2, [.int .i64 q.x, .int .i64 q.y, .bool q.far, .int .i64 r.x, .int .i64 r.y, .bool r.far], 30), (w1.heap.size + 1, [.int .i64 c, .int .i64 d], 23), (w1.heap.size, [.int .i64 0, .int .i64 0, .bool false], 30), (w.heap.size + 1, [.int .i64 r.x, .int .i64 r.y, .bool r.far], 30), (w.heap.size, [.int .i64 q.x, .int .i64 q.y, .bool q.far], 30)] w (World.alloc w2 (.cells #[.int .i64 c, .int .i64 d] 23))) := HM.out.new [.int .i64 c, .int .i64 d] 23 (by simp)
  clear HM
  have HM : Hid (Mn [(w2.heap.size, [.int .i64 c, .int .i64 d], 23), (w1.heap.size + 2, [.int .i64 q.x, .int .i64 q.y, .bool q.far, .int .i64 r.x, .int .i64 r.y, .bool r.far], 30), (w1.heap.size + 1, [.int .i64 c, .int .i64 d], 23), (w1.heap.size, [.int .i64 0, .int .i64 0, .bool false], 30), (w.heap.size + 1, [.int .i64 r.x, .int .i64 r.y, .bool r.far], 30), (w.heap.size, [.int .i64 q.x, .int .i64 q.y, .bool q.far], 30)] w (World.alloc w2 (.cells #[.int .i64 c, .int .i64 d] 23))) := HM'
  clear HM'
  go_wp2_with fail
  obtain ⟨W3, hW3⟩ : ∃ W3, W3 = (World.alloc w2 (.cells #[.int .i64 c, .int .i64 d] 23)) := ⟨_, rfl⟩
  rw [← hW3] at HM ⊢
  clear hW3
  refine wp_region_G (fun wz => World.cell? wz ⟨w1.heap.size, 0, none⟩ = some (.int .i64 0) ∧ World.cell? wz ⟨w1.heap.size, 1, none⟩ = some (.int .i64 0) ∧ World.cell? wz ⟨w1.heap.size, 2, none⟩ = some (.bool false) ∧ World.cell? wz ⟨w1.heap.size + 1, 0, none⟩ = some (.int .i64 c) ∧ World.cell? wz ⟨w1.heap.size + 1, 1, none⟩ = some (.int .i64 d) ∧ World.cell? wz ⟨w2.heap.size, 0, none⟩ = some (.int .i64 c) ∧ World.cell? wz ⟨w2.heap.size, 1, none⟩ = some (.int .i64 d)) 30 (by kernel_rfl) ⟨(HM.out.at 3 rfl).cell 0, (HM.out.at 3 rfl).cell 1, (HM.out.at 3 rfl).cell 2, (HM.out.at 2 rfl).cell 0, (HM.out.at 2 rfl).cell 1, (HM.out.at 0 rfl).cell 0, (HM.out.at 0 rfl).cell 1⟩ (fun hHeld => ?_)
  refine wpAnyG_one (i := 0) rfl (by kernel_rfl) (fun K hK => ?_)
  go_simp
  refine (HBg.out _ (HT.out.below (HM.out.k.drew))).mono ?_
  rintro e w3 ⟨rfl, k1⟩
  have HM' : Hid (Mn [(w2.heap.size, [.int .i64 c, .int .i64 d], 23), (w1.heap.size + 2, [.int .i64 q.x, .int .i64 q.y, .bool q.far, .int .i64 r.x, .int .i64 r.y, .bool r.far], 30), (w1.heap.size + 1, [.int .i64 c, .int .i64 d], 23), (w1.heap.size, [.int .i64 0, .int .i64 0, .bool false], 30), (w.heap.size + 1, [.int .i64 r.x, .int .i64 r.y, .bool r.far], 30), (w.heap.size, [.int .i64 q.x, .int .i64 q.y, .bool q.far], 30)] w w3) := HM.out.below ((Below.refl _ _).drew.trans k1)
  clear HM k1
  have HM : Hid (Mn [(w2.heap.size, [.int .i64 c, .int .i64 d], 23), (w1.heap.size + 2, [.int .i64 q.x, .int .i64 q.y, .bool q.far, .int .i64 r.x, .int .i64 r.y, .bool r.far], 30), (w1.heap.size + 1, [.int .i64 c, .int .i64 d], 23), (w1.heap.size, [.int .i64 0, .int .i64 0, .bool false], 30), (w.heap.size + 1, [.int .i64 r.x, .int .i64 r.y, .bool r.far], 30), (w.heap.size, [.int .i64 q.x, .int .i64 q.y, .bool q.far], 30)] w w3) := HM'
  clear HM'
  refine hK.out _ _ ⟨(HM.out.at 3 rfl).cell 0, (HM.out.at 3 rfl).cell 1, (HM.out.at 3 rfl).cell 2, (HM.out.at 2 rfl).cell 0, (HM.out.at 2 rfl).cell 1, (HM.out.at 0 rfl).cell 0, (HM.out.at 0 rfl).cell 1⟩ ?_
  clear hK K
  try simp only [Act.put, List.setIfInBounds_toArray, List.set_cons_zero, List.set_cons_succ]
  clear hHeld
  have hHeld : (fun wz => World.cell? wz ⟨w1.heap.size, 0, none⟩ = some (.int .i64 0) ∧ World.cell? wz ⟨w1.heap.size, 1, none⟩ = some (.int .i64 0) ∧ World.cell? wz ⟨w1.heap.size, 2, none⟩ = some (.bool false) ∧ World.cell? wz ⟨w1.heap.size + 1, 0, none⟩ = some (.int .i64 c) ∧ World.cell? wz ⟨w1.heap.size + 1, 1, none⟩ = some (.int .i64 d) ∧ World.cell? wz ⟨w2.heap.size, 0, none⟩ = some (.int .i64 c) ∧ World.cell? wz ⟨w2.heap.size, 1, none⟩ = some (.int .i64 d)) w3 := ⟨(HM.out.at 3 rfl).cell 0, (HM.out.at 3 rfl).cell 1, (HM.out.at 3 rfl).cell 2, (HM.out.at 2 rfl).cell 0, (HM.out.at 2 rfl).cell 1, (HM.out.at 0 rfl).cell 0, (HM.out.at 0 rfl).cell 1⟩
  refine wpAnyG_take (i := 1) (v := .bool false) rfl (by kernel_rfl) (fun _ _ _ h => h) (Or.inl ⟨by kernel_rfl, ?y1x45⟩) hHeld ?r1x45
  case y1x45 => (intro wS hSw; (obtain ⟨s1, s2, s3, s4, s5, s6, s7⟩ := hSw; go_simp))
  try simp only [Act.put, List.setIfInBounds_toArray, List.set_cons_zero, List.set_cons_succ]
  refine wpAnyG_take (i := 2) (v := .bool false) rfl (by kernel_rfl) (fun _ _ _ h => h) (Or.inl ⟨by kernel_rfl, ?y2x46⟩) hHeld ?r2x46
  case y2x46 => (intro wS hSw; (obtain ⟨s1, s2, s3, s4, s5, s6, s7⟩ := hSw; go_simp))
  try simp only [Act.put, List.setIfInBounds_toArray, List.set_cons_zero, List.set_cons_succ]
  refine wpAnyG_take (i := 3) (v := .agg #[.int .i64 c, .int .i64 d]) rfl (by kernel_rfl) (fun _ _ _ h => h) (Or.inl ⟨by kernel_rfl, ?y3x47⟩) hHeld ?r3x47
  case y3x47 => (intro wS hSw; (obtain ⟨s1, s2, s3, s4, s5, s6, s7⟩ := hSw; go_simp))
  try simp only [Act.put, List.setIfInBounds_toArray, List.set_cons_zero, List.set_cons_succ]
  refine wpAnyG_take (i := 4) (v := .agg #[.int .i64 c, .int .i64 d]) rfl (by kernel_rfl) (fun _ _ _ h => h) (Or.inl ⟨by kernel_rfl, ?y4x48⟩) hHeld ?r4x48
  case y4x48 => (intro wS hSw; (obtain ⟨s1, s2, s3, s4, s5, s6, s7⟩ := hSw; go_simp))
  try simp only [Act.put, List.setIfInBounds_toArray, List.set_cons_zero, List.set_cons_succ]
  refine wpAnyG_take (i := 5) (v := .bool false) rfl (by kernel_rfl) (fun _ _ _ h => h) (Or.inl ⟨by kernel_rfl, ?y5x49⟩) hHeld ?r5x49
  case y5x49 => (intro wS hSw; (obtain ⟨s1, s2, s3, s4, s5, s6, s7⟩ := hSw; go_simp; try simp))
  try simp only [Act.put, List.setIfInBounds_toArray, List.set_cons_zero, List.set_cons_succ]
  refine wpAnyG_take (i := 6) (v := .bool false) rfl (by kernel_rfl) (fun _ _ _ h => h) (Or.inl ⟨by kernel_rfl, ?y6x50⟩) hHeld ?r6x50
  case y6x50 => (intro wS hSw; (obtain ⟨s1, s2, s3, s4, s5, s6, s7⟩ := hSw; go_simp))
  try simp only [Act.put, List.setIfInBounds_toArray, List.set_cons_zero, List.set_cons_succ]
  refine wpAnyG_take (i := 7) (v := .bool false) rfl (by kernel_rfl) (fun _ _ _ h => h) (Or.inl ⟨by kernel_rfl, ?y7x51⟩) hHeld ?r7x51
  case y7x51 => (intro wS hSw; (obtain ⟨s1, s2, s3, s4, s5, s6, s7⟩ := hSw; go_simp))
  try simp only [Act.put, List.setIfInBounds_toArray, List.set_cons_zero, List.set_cons_succ]
  refine wpAnyG_take (i := 8) (v := .pointer (some ⟨w2.heap.size, 0, none⟩)) rfl (by kernel_rfl) (fun _ _ _ h => h) (Or.inl ⟨by kernel_rfl, ?y8x52⟩) hHeld ?r8x52
  case y8x52 => (intro wS hSw; (obtain ⟨s1, s2, s3, s4, s5, s6, s7⟩ := hSw; go_simp))
  try simp only [Act.put, List.setIfInBounds_toArray, List.set_cons_zero, List.set_cons_succ]
  refine wpAnyG_take (i := 9) (v := .int .i64 c) rfl (by kernel_rfl) (fun _ _ _ h => h) (Or.inl ⟨by kernel_rfl, ?y9x53⟩) hHeld ?r9x53
  case y9x53 => (intro wS hSw; (obtain ⟨s1, s2, s3, s4, s5, s6, s7⟩ := hSw; go_simp))
  try simp only [Act.put, List.setIfInBounds_toArray, List.set_cons_zero, List.set_cons_succ]
  refine wpAnyG_take (i := 10) (v := .bool true) rfl (by kernel_rfl) (fun _ _ _ h => h) (Or.inl ⟨by kernel_rfl, ?y10x54⟩) hHeld ?r10x54
  case y10x54 => (intro wS hSw; (obtain ⟨s1, s2, s3, s4, s5, s6, s7⟩ := hSw; go_simp; try simp only [hcb]))
  try simp only [Act.put, List.setIfInBounds_toArray, List.set_cons_zero, List.set_cons_succ]
  refine wpAnyG_take (i := 11) (v := .bool true) rfl (by kernel_rfl) (fun _ _ _ h => h) (Or.inl ⟨by kernel_rfl, ?y11x55⟩) hHeld ?r11x55
  case y11x55 => (intro wS hSw; (obtain ⟨s1, s2, s3, s4, s5, s6, s7⟩ := hSw; go_simp))
  try simp only [Act.put, List.setIfInBounds_toArray, List.set_cons_zero, List.set_cons_succ]
  refine wpAnyG_take (i := 12) (v := .agg #[.int .i64 0, .int .i64 0, .bool false]) rfl (by kernel_rfl) (fun _ _ _ h => h) (Or.inl ⟨by kernel_rfl, ?y12x56⟩) hHeld ?r12x56
  case y12x56 => (intro wS hSw; (obtain ⟨s1, s2, s3, s4, s5, s6, s7⟩ := hSw; go_simp))
  try simp only [Act.put, List.setIfInBounds_toArray, List.set_cons_zero, List.set_cons_succ]
  refine wpAnyG_take (i := 13) (v := .agg #[.int .i64 0, .int .i64 0, .bool false]) rfl (by kernel_rfl) (fun _ _ _ h => h) (Or.inl ⟨by kernel_rfl, ?y13x57⟩) hHeld ?r13x57
  case y13x57 => (intro wS hSw; (obtain ⟨s1, s2, s3, s4, s5, s6, s7⟩ := hSw; go_simp))
  try simp only [Act.put, List.setIfInBounds_toArray, List.set_cons_zero, List.set_cons_succ]
  refine wpAnyG_take (i := 14) (v := .bool false) rfl (by kernel_rfl) (fun _ _ _ h => h) (Or.inl ⟨by kernel_rfl, ?y14x58⟩) hHeld ?r14x58
  case y14x58 => (intro wS hSw; (obtain ⟨s1, s2, s3, s4, s5, s6, s7⟩ := hSw; go_simp))
  try simp only [Act.put, List.setIfInBounds_toArray, List.set_cons_zero, List.set_cons_succ]
  refine wpAnyG_take (i := 15) (v := .bool false) rfl (by kernel_rfl) (fun _ _ _ h => h) (Or.inl ⟨by kernel_rfl, ?y15x59⟩) hHeld ?r15x59
  case y15x59 => (intro wS hSw; (obtain ⟨s1, s2, s3, s4, s5, s6, s7⟩ := hSw; go_simp))
  try simp only [Act.put, List.setIfInBounds_toArray, List.set_cons_zero, List.set_cons_succ]
  refine wpAnyG_take (i := 16) (v := .bool false) rfl (by kernel_rfl) (fun _ _ _ h => h) (Or.inl ⟨by kernel_rfl, ?y16x60⟩) hHeld ?r16x60
  case y16x60 => (intro wS hSw; (obtain ⟨s1, s2, s3, s4, s5, s6, s7⟩ := hSw; go_simp))
  try simp only [Act.put, List.setIfInBounds_toArray, List.set_cons_zero, List.set_cons_succ]
  refine wpAnyG_take (i := 17) (v := .bool false) rfl (by kernel_rfl) (fun _ _ _ h => h) (Or.inl ⟨by kernel_rfl, ?y17x61⟩) hHeld ?r17x61
  case y17x61 => (intro wS hSw; (obtain ⟨s1, s2, s3, s4, s5, s6, s7⟩ := hSw; go_simp))
  try simp only [Act.put, List.setIfInBounds_toArray, List.set_cons_zero, List.set_cons_succ]
  refine wpAnyG_take (i := 18) (v := .pointer (some ⟨w2.heap.size, 0, none⟩)) rfl (by kernel_rfl) (fun _ _ _ h => h) (Or.inl ⟨by kernel_rfl, ?y18x62⟩) hHeld ?r18x62
  case y18x62 => (intro wS hSw; (obtain ⟨s1, s2, s3, s4, s5, s6, s7⟩ := hSw; go_simp))
  try simp only [Act.put, List.setIfInBounds_toArray, List.set_cons_zero, List.set_cons_succ]
  refine wpAnyG_take (i := 19) (v := .int .i64 c) rfl (by kernel_rfl) (fun _ _ _ h => h) (Or.inl ⟨by kernel_rfl, ?y19x63⟩) hHeld ?r19x63
  case y19x63 => (intro wS hSw; (obtain ⟨s1, s2, s3, s4, s5, s6, s7⟩ := hSw; go_simp))
  try simp only [Act.put, List.setIfInBounds_toArray, List.set_cons_zero, List.set_cons_succ]
  refine wpAnyG_take (i := 20) (v := .bool false) rfl (by kernel_rfl) (fun _ _ _ h => h) (Or.inl ⟨by kernel_rfl, ?y20x64⟩) hHeld ?r20x64
  case y20x64 => (intro wS hSw; (obtain ⟨s1, s2, s3, s4, s5, s6, s7⟩ := hSw; go_simp; try simp only [hcb2]))
  try simp only [Act.put, List.setIfInBounds_toArray, List.set_cons_zero, List.set_cons_succ]
  refine wpAnyG_take (i := 21) (v := .bool false) rfl (by kernel_rfl) (fun _ _ _ h => h) (Or.inl ⟨by kernel_rfl, ?y21x65⟩) hHeld ?r21x65
  case y21x65 => (intro wS hSw; (obtain ⟨s1, s2, s3, s4, s5, s6, s7⟩ := hSw; go_simp))
  try simp only [Act.put, List.setIfInBounds_toArray, List.set_cons_zero, List.set_cons_succ]
  refine wpAnyG_take (i := 22) (v := undef) rfl (by kernel_rfl) (fun _ _ _ h => h) (Or.inr ⟨by kernel_rfl, rfl⟩) hHeld ?_
  try simp only [Act.put, List.setIfInBounds_toArray, List.set_cons_zero, List.set_cons_succ]
  refine wpAnyG_take (i := 23) (v := undef) rfl (by kernel_rfl) (fun _ _ _ h => h) (Or.inr ⟨by kernel_rfl, rfl⟩) hHeld ?_
  try simp only [Act.put, List.setIfInBounds_toArray, List.set_cons_zero, List.set_cons_succ]
  refine wpAnyG_take (i := 24) (v := undef) rfl (by kernel_rfl) (fun _ _ _ h => h) (Or.inr ⟨by kernel_rfl, rfl⟩) hHeld ?_
  try simp only [Act.put, List.setIfInBounds_toArray, List.set_cons_zero, List.set_cons_succ]
  refine wpAnyG_take (i := 25) (v := undef) rfl (by kernel_rfl) (fun _ _ _ h => h) (Or.inr ⟨by kernel_rfl, rfl⟩) hHeld ?_
  try simp only [Act.put, List.setIfInBounds_toArray, List.set_cons_zero, List.set_cons_succ]
  refine wpAnyG_take (i := 26) (v := undef) rfl (by kernel_rfl) (fun _ _ _ h => h) (Or.inr ⟨by kernel_rfl, rfl⟩) hHeld ?_
  try simp only [Act.put, List.setIfInBounds_toArray, List.set_cons_zero, List.set_cons_succ]
  refine wpAnyG_take (i := 27) (v := undef) rfl (by kernel_rfl) (fun _ _ _ h => h) (Or.inr ⟨by kernel_rfl, rfl⟩) hHeld ?_
  try simp only [Act.put, List.setIfInBounds_toArray, List.set_cons_zero, List.set_cons_succ]
  refine wpAnyG_take (i := 28) (v := undef) rfl (by kernel_rfl) (fun _ _ _ h => h) (Or.inr ⟨by kernel_rfl, rfl⟩) hHeld ?_
  try simp only [Act.put, List.setIfInBounds_toArray, List.set_cons_zero, List.set_cons_succ]
  refine wpAnyG_take (i := 29) (v := .bool false) rfl (by kernel_rfl) (fun _ _ _ h => h) (Or.inl ⟨by kernel_rfl, ?y29x66⟩) hHeld ?r29x66
  case y29x66 => (intro wS hSw; (obtain ⟨s1, s2, s3, s4, s5, s6, s7⟩ := hSw; go_simp))
  try simp only [Act.put, List.setIfInBounds_toArray, List.set_cons_zero, List.set_cons_succ]
  refine wpAnyG_last (i := 30) rfl (by kernel_rfl) (by kernel_rfl) (fun K hK => ?_)
  go_simp
  refine hK.out _ _ ?_
  clear hK K
  try simp only [Act.put, List.setIfInBounds_toArray, List.set_cons_zero, List.set_cons_succ]
  refine wpAnyG_done (by kernel_rfl) ?_ _
  clear hHeld
  have f7 : World.cell? w3 ⟨w.heap.size, 0, none⟩ = some (.int .i64 q.x) := (HM.out.at 5 rfl).cell 0
  have f8 : World.cell? w3 ⟨w.heap.size, 1, none⟩ = some (.int .i64 q.y) := (HM.out.at 5 rfl).cell 1
  have f9 : World.cell? w3 ⟨w.heap.size, 2, none⟩ = some (.bool q.far) := (HM.out.at 5 rfl).cell 2
  go_wp2_with fail
  refine (HTm.out _ (HT.out.below HM.out.k)).mono ?_
  rintro e w5 ⟨rfl, k1⟩
  clear f7 f8 f9
  have HM' : Hid (Mn [(w2.heap.size, [.int .i64 c, .int .i64 d], 23), (w1.heap.size + 2, [.int .i64 q.x, .int .i64 q.y, .bool q.far, .int .i64 r.x, .int .i64 r.y, .bool r.far], 30), (w1.heap.size + 1, [.int .i64 c, .int .i64 d], 23), (w1.heap.size, [.int .i64 0, .int .i64 0, .bool false], 30), (w.heap.size + 1, [.int .i64 r.x, .int .i64 r.y, .bool r.far], 30), (w.heap.size, [.int .i64 q.x, .int .i64 q.y, .bool q.far], 30)] w w5) := HM.out.below k1
  clear HM k1
  have HM : Hid (Mn [(w2.heap.size, [.int .i64 c, .int .i64 d], 23), (w1.heap.size + 2, [.int .i64 q.x, .int .i64 q.y, .bool q.far, .int .i64 r.x, .int .i64 r.y, .bool r.far], 30), (w1.heap.size + 1, [.int .i64 c, .int .i64 d], 23), (w1.heap.size, [.int .i64 0, .int .i64 0, .bool false], 30), (w.heap.size + 1, [.int .i64 r.x, .int .i64 r.y, .bool r.far], 30), (w.heap.size, [.int .i64 q.x, .int .i64 q.y, .bool q.far], 30)] w w5) := HM'
  clear HM'
  have HM' : Hid (Mn [(w5.heap.size, [.int .i64 t.x, .int .i64 t.y, .bool t.far], 30), (w2.heap.size, [.int .i64 c, .int .i64 d], 23), (w1.heap.size + 2, [.int .i64 q.x, .int .i64 q.y, .bool q.far, .int .i64 r.x, .int .i64 r.y, .bool r.far], 30), (w1.heap.size + 1, [.int .i64 c, .int .i64 d], 23), (w1.heap.size, [.int .i64 0, .int .i64 0, .bool false], 30), (w.heap.size + 1, [.int .i64 r.x, .int .i64 r.y, .bool r.far], 30), (w.heap.size, [.int .i64 q.x, .int .i64 q.y, .bool q.far], 30)] w (World.alloc w5 (.cells #[.int .i64 t.x, .int .i64 t.y, .bool t.far] 30))) := HM.out.new [.int .i64 t.x, .int .i64 t.y, .bool t.far] 30 (by simp)
  clear HM
  have HM : Hid (Mn [(w5.heap.size, [.int .i64 t.x, .int .i64 t.y, .bool t.far], 30), (w2.heap.size, [.int .i64 c, .int .i64 d], 23), (w1.heap.size + 2, [.int .i64 q.x, .int .i64 q.y, .bool q.far, .int .i64 r.x, .int .i64 r.y, .bool r.far], 30), (w1.heap.size + 1, [.int .i64 c, .int .i64 d], 23), (w1.heap.size, [.int .i64 0, .int .i64 0, .bool false], 30), (w.heap.size + 1, [.int .i64 r.x, .int .i64 r.y, .bool r.far], 30), (w.heap.size, [.int .i64 q.x, .int .i64 q.y, .bool q.far], 30)] w (World.alloc w5 (.cells #[.int .i64 t.x, .int .i64 t.y, .bool t.far] 30))) := HM'
  clear HM'
  have f10 : World.cell? (World.alloc w5 (.cells #[.int .i64 t.x, .int .i64 t.y, .bool t.far] 30)) ⟨w1.heap.size + 1, 0, none⟩ = some (.int .i64 c) := (HM.out.at 3 rfl).cell 0
  have f11 : World.cell? (World.alloc w5 (.cells #[.int .i64 t.x, .int .i64 t.y, .bool t.far] 30)) ⟨w1.heap.size + 1, 1, none⟩ = some (.int .i64 d) := (HM.out.at 3 rfl).cell 1
  have f12 : World.frozen? (World.alloc w5 (.cells #[.int .i64 t.x, .int .i64 t.y, .bool t.far] 30)) ⟨w1.heap.size + 1, 0, none⟩ = false := (HM.out.at 3 rfl).frozen 0
  have f13 : World.frozen? (World.alloc w5 (.cells #[.int .i64 t.x, .int .i64 t.y, .bool t.far] 30)) ⟨w1.heap.size + 1, 1, none⟩ = false := (HM.out.at 3 rfl).frozen 1
  have HM' : Hid (Mn [(w5.heap.size, [.int .i64 t.x, .int .i64 t.y, .bool t.far], 30), (w2.heap.size, [.int .i64 c, .int .i64 d], 23), (w1.heap.size + 2, [.int .i64 q.x, .int .i64 q.y, .bool q.far, .int .i64 r.x, .int .i64 r.y, .bool r.far], 30), (w1.heap.size + 1, [.int .i64 0, .int .i64 d], 23), (w1.heap.size, [.int .i64 0, .int .i64 0, .bool false], 30), (w.heap.size + 1, [.int .i64 r.x, .int .i64 r.y, .bool r.far], 30), (w.heap.size, [.int .i64 q.x, .int .i64 q.y, .bool q.far], 30)] w (World.setCell (World.alloc w5 (.cells #[.int .i64 t.x, .int .i64 t.y, .bool t.far] 30)) ⟨w1.heap.size + 1, 0, none⟩ (.int .i64 0))) := HM.out.set 3 rfl 0 (.int .i64 0)
  clear HM
  have HM : Hid (Mn [(w5.heap.size, [.int .i64 t.x, .int .i64 t.y, .bool t.far], 30), (w2.heap.size, [.int .i64 c, .int .i64 d], 23), (w1.heap.size + 2, [.int .i64 q.x, .int .i64 q.y, .bool q.far, .int .i64 r.x, .int .i64 r.y, .bool r.far], 30), (w1.heap.size + 1, [.int .i64 0, .int .i64 d], 23), (w1.heap.size, [.int .i64 0, .int .i64 0, .bool false], 30), (w.heap.size + 1, [.int .i64 r.x, .int .i64 r.y, .bool r.far], 30), (w.heap.size, [.int .i64 q.x, .int .i64 q.y, .bool q.far], 30)] w (World.setCell (World.alloc w5 (.cells #[.int .i64 t.x, .int .i64 t.y, .bool t.far] 30)) ⟨w1.heap.size + 1, 0, none⟩ (.int .i64 0))) := HM'
  clear HM'
  have HM' : Hid (Mn [(w5.heap.size, [.int .i64 t.x, .int .i64 t.y, .bool t.far], 30), (w2.heap.size, [.int .i64 c, .int .i64 d], 23), (w1.heap.size + 2, [.int .i64 q.x, .int .i64 q.y, .bool q.far, .int .i64 r.x, .int .i64 r.y, .bool r.far], 30), (w1.heap.size + 1, [.int .i64 0, .int .i64 0], 23), (w1.heap.size, [.int .i64 0, .int .i64 0, .bool false], 30), (w.heap.size + 1, [.int .i64 r.x, .int .i64 r.y, .bool r.far], 30), (w.heap.size, [.int .i64 q.x, .int .i64 q.y, .bool q.far], 30)] w (World.setCell (World.setCell (World.alloc w5 (.cells #[.int .i64 t.x, .int .i64 t.y, .bool t.far] 30)) ⟨w1.heap.size + 1, 0, none⟩ (.int .i64 0)) ⟨w1.heap.size + 1, 1, none⟩ (.int .i64 0))) := HM.out.set 3 rfl 1 (.int .i64 0)
  clear HM
  have HM : Hid (Mn [(w5.heap.size, [.int .i64 t.x, .int .i64 t.y, .bool t.far], 30), (w2.heap.size, [.int .i64 c, .int .i64 d], 23), (w1.heap.size + 2, [.int .i64 q.x, .int .i64 q.y, .bool q.far, .int .i64 r.x, .int .i64 r.y, .bool r.far], 30), (w1.heap.size + 1, [.int .i64 0, .int .i64 0], 23), (w1.heap.size, [.int .i64 0, .int .i64 0, .bool false], 30), (w.heap.size + 1, [.int .i64 r.x, .int .i64 r.y, .bool r.far], 30), (w.heap.size, [.int .i64 q.x, .int .i64 q.y, .bool q.far], 30)] w (World.setCell (World.setCell (World.alloc w5 (.cells #[.int .i64 t.x, .int .i64 t.y, .bool t.far] 30)) ⟨w1.heap.size + 1, 0, none⟩ (.int .i64 0)) ⟨w1.heap.size + 1, 1, none⟩ (.int .i64 0))) := HM'
  clear HM'
  have f14 : World.cell? (World.setCell (World.setCell (World.alloc w5 (.cells #[.int .i64 t.x, .int .i64 t.y, .bool t.far] 30)) ⟨w1.heap.size + 1, 0, none⟩ (.int .i64 0)) ⟨w1.heap.size + 1, 1, none⟩ (.int .i64 0)) ⟨w.heap.size, 0, none⟩ = some (.int .i64 q.x) := (HM.out.at 6 rfl).cell 0
  have f15 : World.cell? (World.setCell (World.setCell (World.alloc w5 (.cells #[.int .i64 t.x, .int .i64 t.y, .bool t.far] 30)) ⟨w1.heap.size + 1, 0, none⟩ (.int .i64 0)) ⟨w1.heap.size + 1, 1, none⟩ (.int .i64 0)) ⟨w.heap.size, 1, none⟩ = some (.int .i64 q.y) := (HM.out.at 6 rfl).cell 1
  have f16 : World.cell? (World.setCell (World.setCell (World.alloc w5 (.cells #[.int .i64 t.x, .int .i64 t.y, .bool t.far] 30)) ⟨w1.heap.size + 1, 0, none⟩ (.int .i64 0)) ⟨w1.heap.size + 1, 1, none⟩ (.int .i64 0)) ⟨w.heap.size, 2, none⟩ = some (.bool q.far) := (HM.out.at 6 rfl).cell 2
  go_wp2_with fail
  refine (HOr.out _ (HT.out.below HM.out.k)).mono ?_
  rintro e w6 ⟨rfl, k1⟩
  clear f10 f11 f12 f13 f14 f15 f16
  have HM' : Hid (Mn [(w5.heap.size, [.int .i64 t.x, .int .i64 t.y, .bool t.far], 30), (w2.heap.size, [.int .i64 c, .int .i64 d], 23), (w1.heap.size + 2, [.int .i64 q.x, .int .i64 q.y, .bool q.far, .int .i64 r.x, .int .i64 r.y, .bool r.far], 30), (w1.heap.size + 1, [.int .i64 0, .int .i64 0], 23), (w1.heap.size, [.int .i64 0, .int .i64 0, .bool false], 30), (w.heap.size + 1, [.int .i64 r.x, .int .i64 r.y, .bool r.far], 30), (w.heap.size, [.int .i64 q.x, .int .i64 q.y, .bool q.far], 30)] w w6) := HM.out.below k1
  clear HM k1
  have HM : Hid (Mn [(w5.heap.size, [.int .i64 t.x, .int .i64 t.y, .bool t.far], 30), (w2.heap.size, [.int .i64 c, .int .i64 d], 23), (w1.heap.size + 2, [.int .i64 q.x, .int .i64 q.y, .bool q.far, .int .i64 r.x, .int .i64 r.y, .bool r.far], 30), (w1.heap.size + 1, [.int .i64 0, .int .i64 0], 23), (w1.heap.size, [.int .i64 0, .int .i64 0, .bool false], 30), (w.heap.size + 1, [.int .i64 r.x, .int .i64 r.y, .bool r.far], 30), (w.heap.size, [.int .i64 q.x, .int .i64 q.y, .bool q.far], 30)] w w6) := HM'
  clear HM'
  have HM' : Hid (Mn [(w6.heap.size, [.int .i64 0, .int .i64 0], 23), (w5.heap.size, [.int .i64 t.x, .int .i64 t.y, .bool t.far], 30), (w2.heap.size, [.int .i64 c, .int .i64 d], 23), (w1.heap.size + 2, [.int .i64 q.x, .int .i64 q.y, .bool q.far, .int .i64 r.x, .int .i64 r.y, .bool r.far], 30), (w1.heap.size + 1, [.int .i64 0, .int .i64 0], 23), (w1.heap.size, [.int .i64 0, .int .i64 0, .bool false], 30), (w.heap.size + 1, [.int .i64 r.x, .int .i64 r.y, .bool r.far], 30), (w.heap.size, [.int .i64 q.x, .int .i64 q.y, .bool q.far], 30)] w (World.alloc w6 (.cells #[.int .i64 0, .int .i64 0] 23))) := HM.out.new [.int .i64 0, .int .i64 0] 23 (by simp)
  clear HM
  have HM : Hid (Mn [(w6.heap.size, [.int .i64 0, .int .i64 0], 23), (w5.heap.size, [.int .i64 t.x, .int .i64 t.y, .bool t.far], 30), (w2.heap.size, [.int .i64 c, .int .i64 d], 23), (w1.heap.size + 2, [.int .i64 q.x, .int .i64 q.y, .bool q.far, .int .i64 r.x, .int .i64 r.y, .bool r.far], 30), (w1.heap.size + 1, [.int .i64 0, .int .i64 0], 23), (w1.heap.size, [.int .i64 0, .int .i64 0, .bool false], 30), (w.heap.size + 1, [.int .i64 r.x, .int .i64 r.y, .bool r.far], 30), (w.heap.size, [.int .i64 q.x, .int .i64 q.y, .bool q.far], 30)] w (World.alloc w6 (.cells #[.int .i64 0, .int .i64 0] 23))) := HM'
  clear HM'
  have f17 : World.cell? (World.alloc w6 (.cells #[.int .i64 0, .int .i64 0] 23)) ⟨w.heap.size, 0, none⟩ = some (.int .i64 q.x) := (HM.out.at 7 rfl).cell 0
  have f18 : World.cell? (World.alloc w6 (.cells #[.int .i64 0, .int .i64 0] 23)) ⟨w.heap.size, 1, none⟩ = some (.int .i64 q.y) := (HM.out.at 7 rfl).cell 1
  have f19 : World.cell? (World.alloc w6 (.cells #[.int .i64 0, .int .i64 0] 23)) ⟨w.heap.size, 2, none⟩ = some (.bool q.far) := (HM.out.at 7 rfl).cell 2
  go_wp2_with fail
  have HM' : Hid (Mn [(w6.heap.size + 1, [.int .i64 q.x, .int .i64 q.y, .bool q.far], 30), (w6.heap.size, [.int .i64 0, .int .i64 0], 23), (w5.heap.size, [.int .i64 t.x, .int .i64 t.y, .bool t.far], 30), (w2.heap.size, [.int .i64 c, .int .i64 d], 23), (w1.heap.size + 2, [.int .i64 q.x, .int .i64 q.y, .bool q.far, .int .i64 r.x, .int .i64 r.y, .bool r.far], 30), (w1.heap.size + 1, [.int .i64 0, .int .i64 0], 23), (w1.heap.size, [.int .i64 0, .int .i64 0, .bool false], 30), (w.heap.size + 1, [.int .i64 r.x, .int .i64 r.y, .bool r.far], 30), (w.heap.size, [.int .i64 q.x, .int .i64 q.y, .bool q.far], 30)] w (World.alloc (World.alloc w6 (.cells #[.int .i64 0, .int .i64 0] 23)) (.cells #[.int .i64 q.x, .int .i64 q.y, .bool q.far] 30))) := HM.out.new [.int .i64 q.x, .int .i64 q.y, .bool q.far] 30 (by simp)
  clear HM
  have HM : Hid (Mn [(w6.heap.size + 1, [.int .i64 q.x, .int .i64 q.y, .bool q.far], 30), (w6.heap.size, [.int .i64 0, .int .i64 0], 23), (w5.heap.size, [.int .i64 t.x, .int .i64 t.y, .bool t.far], 30), (w2.heap.size, [.int .i64 c, .int .i64 d], 23), (w1.heap.size + 2, [.int .i64 q.x, .int .i64 q.y, .bool q.far, .int .i64 r.x, .int .i64 r.y, .bool r.far], 30), (w1.heap.size + 1, [.int .i64 0, .int .i64 0], 23), (w1.heap.size, [.int .i64 0, .int .i64 0, .bool false], 30), (w.heap.size + 1, [.int .i64 r.x, .int .i64 r.y, .bool r.far], 30), (w.heap.size, [.int .i64 q.x, .int .i64 q.y, .bool q.far], 30)] w (World.alloc (World.alloc w6 (.cells #[.int .i64 0, .int .i64 0] 23)) (.cells #[.int .i64 q.x, .int .i64 q.y, .bool q.far] 30))) := HM'
  clear HM'
  refine (HOq.out _ _ (PS.one (q := q) (HM.out.at 0 rfl))).mono ?_
  rintro e w7 ⟨rfl, k1⟩
  clear f17 f18 f19
  have HM' : Hid (Mn [(w6.heap.size + 1, [.int .i64 q.x, .int .i64 q.y, .bool q.far], 30), (w6.heap.size, [.int .i64 0, .int .i64 0], 23), (w5.heap.size, [.int .i64 t.x, .int .i64 t.y, .bool t.far], 30), (w2.heap.size, [.int .i64 c, .int .i64 d], 23), (w1.heap.size + 2, [.int .i64 q.x, .int .i64 q.y, .bool q.far, .int .i64 r.x, .int .i64 r.y, .bool r.far], 30), (w1.heap.size + 1, [.int .i64 0, .int .i64 0], 23), (w1.heap.size, [.int .i64 0, .int .i64 0, .bool false], 30), (w.heap.size + 1, [.int .i64 r.x, .int .i64 r.y, .bool r.far], 30), (w.heap.size, [.int .i64 q.x, .int .i64 q.y, .bool q.far], 30)] w w7) := HM.out.below k1
  clear HM k1
  have HM : Hid (Mn [(w6.heap.size + 1, [.int .i64 q.x, .int .i64 q.y, .bool q.far], 30), (w6.heap.size, [.int .i64 0, .int .i64 0], 23), (w5.heap.size, [.int .i64 t.x, .int .i64 t.y, .bool t.far], 30), (w2.heap.size, [.int .i64 c, .int .i64 d], 23), (w1.heap.size + 2, [.int .i64 q.x, .int .i64 q.y, .bool q.far, .int .i64 r.x, .int .i64 r.y, .bool r.far], 30), (w1.heap.size + 1, [.int .i64 0, .int .i64 0], 23), (w1.heap.size, [.int .i64 0, .int .i64 0, .bool false], 30), (w.heap.size + 1, [.int .i64 r.x, .int .i64 r.y, .bool r.far], 30), (w.heap.size, [.int .i64 q.x, .int .i64 q.y, .bool q.far], 30)] w w7) := HM'
  clear HM'
  have f20 : World.cell? w7 ⟨w2.heap.size, 0, none⟩ = some (.int .i64 c) := (HM.out.at 3 rfl).cell 0
  have f21 : World.cell? w7 ⟨w2.heap.size, 1, none⟩ = some (.int .i64 d) := (HM.out.at 3 rfl).cell 1
  have f22 : World.frozen? w7 ⟨w2.heap.size, 0, none⟩ = false := (HM.out.at 3 rfl).frozen 0
  have f23 : World.frozen? w7 ⟨w2.heap.size, 1, none⟩ = false := (HM.out.at 3 rfl).frozen 1
  have HM' : Hid (Mn [(w6.heap.size + 1, [.int .i64 q.x, .int .i64 q.y, .bool q.far], 30), (w6.heap.size, [.int .i64 0, .int .i64 0], 23), (w5.heap.size, [.int .i64 t.x, .int .i64 t.y, .bool t.far], 30), (w2.heap.size, [.int .i64 0, .int .i64 d], 23), (w1.heap.size + 2, [.int .i64 q.x, .int .i64 q.y, .bool q.far, .int .i64 r.x, .int .i64 r.y, .bool r.far], 30), (w1.heap.size + 1, [.int .i64 0, .int .i64 0], 23), (w1.heap.size, [.int .i64 0, .int .i64 0, .bool false], 30), (w.heap.size + 1, [.int .i64 r.x, .int .i64 r.y, .bool r.far], 30), (w.heap.size, [.int .i64 q.x, .int .i64 q.y, .bool q.far], 30)] w (World.setCell w7 ⟨w2.heap.size, 0, none⟩ (.int .i64 0))) := HM.out.set 3 rfl 0 (.int .i64 0)
  clear HM
  have HM : Hid (Mn [(w6.heap.size + 1, [.int .i64 q.x, .int .i64 q.y, .bool q.far], 30), (w6.heap.size, [.int .i64 0, .int .i64 0], 23), (w5.heap.size, [.int .i64 t.x, .int .i64 t.y, .bool t.far], 30), (w2.heap.size, [.int .i64 0, .int .i64 d], 23), (w1.heap.size + 2, [.int .i64 q.x, .int .i64 q.y, .bool q.far, .int .i64 r.x, .int .i64 r.y, .bool r.far], 30), (w1.heap.size + 1, [.int .i64 0, .int .i64 0], 23), (w1.heap.size, [.int .i64 0, .int .i64 0, .bool false], 30), (w.heap.size + 1, [.int .i64 r.x, .int .i64 r.y, .bool r.far], 30), (w.heap.size, [.int .i64 q.x, .int .i64 q.y, .bool q.far], 30)] w (World.setCell w7 ⟨w2.heap.size, 0, none⟩ (.int .i64 0))) := HM'
  clear HM'
  have HM' : Hid (Mn [(w6.heap.size + 1, [.int .i64 q.x, .int .i64 q.y, .bool q.far], 30), (w6.heap.size, [.int .i64 0, .int .i64 0], 23), (w5.heap.size, [.int .i64 t.x, .int .i64 t.y, .bool t.far], 30), (w2.heap.size, [.int .i64 0, .int .i64 0], 23), (w1.heap.size + 2, [.int .i64 q.x, .int .i64 q.y, .bool q.far, .int .i64 r.x, .int .i64 r.y, .bool r.far], 30), (w1.heap.size + 1, [.int .i64 0, .int .i64 0], 23), (w1.heap.size, [.int .i64 0, .int .i64 0, .bool false], 30), (w.heap.size + 1, [.int .i64 r.x, .int .i64 r.y, .bool r.far], 30), (w.heap.size, [.int .i64 q.x, .int .i64 q.y, .bool q.far], 30)] w (World.setCell (World.setCell w7 ⟨w2.heap.size, 0, none⟩ (.int .i64 0)) ⟨w2.heap.size, 1, none⟩ (.int .i64 0))) := HM.out.set 3 rfl 1 (.int .i64 0)
  clear HM
  have HM : Hid (Mn [(w6.heap.size + 1, [.int .i64 q.x, .int .i64 q.y, .bool q.far], 30), (w6.heap.size, [.int .i64 0, .int .i64 0], 23), (w5.heap.size, [.int .i64 t.x, .int .i64 t.y, .bool t.far], 30), (w2.heap.size, [.int .i64 0, .int .i64 0], 23), (w1.heap.size + 2, [.int .i64 q.x, .int .i64 q.y, .bool q.far, .int .i64 r.x, .int .i64 r.y, .bool r.far], 30), (w1.heap.size + 1, [.int .i64 0, .int .i64 0], 23), (w1.heap.size, [.int .i64 0, .int .i64 0, .bool false], 30), (w.heap.size + 1, [.int .i64 r.x, .int .i64 r.y, .bool r.far], 30), (w.heap.size, [.int .i64 q.x, .int .i64 q.y, .bool q.far], 30)] w (World.setCell (World.setCell w7 ⟨w2.heap.size, 0, none⟩ (.int .i64 0)) ⟨w2.heap.size, 1, none⟩ (.int .i64 0))) := HM'
  clear HM'
  have f24 : World.cell? (World.setCell (World.setCell w7 ⟨w2.heap.size, 0, none⟩ (.int .i64 0)) ⟨w2.heap.size, 1, none⟩ (.int .i64 0)) ⟨w2.heap.size, 0, none⟩ = some (.int .i64 0) := (HM.out.at 3 rfl).cell 0
  have f25 : World.cell? (World.setCell (World.setCell w7 ⟨w2.heap.size, 0, none⟩ (.int .i64 0)) ⟨w2.heap.size, 1, none⟩ (.int .i64 0)) ⟨w2.heap.size, 1, none⟩ = some (.int .i64 0) := (HM.out.at 3 rfl).cell 1
  have HM' : Hid (Mn [(w7.heap.size, [.int .i64 0, .int .i64 0], 23), (w6.heap.size + 1, [.int .i64 q.x, .int .i64 q.y, .bool q.far], 30), (w6.heap.size, [.int .i64 0, .int .i64 0], 23), (w5.heap.size, [.int .i64 t.x, .int .i64 t.y, .bool t.far], 30), (w2.heap.size, [.int .i64 0, .int .i64 0], 23), (w1.heap.size + 2, [.int .i64 q.x, .int .i64 q.y, .bool q.far, .int .i64 r.x, .int .i64 r.y, .bool r.far], 30), (w1.heap.size + 1, [.int .i64 0, .int .i64 0], 23), (w1.heap.size, [.int .i64 0, .int .i64 0, .bool false], 30), (w.heap.size + 1, [.int .i64 r.x, .int .i64 r.y, .bool r.far], 30), (w.heap.size, [.int .i64 q.x, .int .i64 q.y, .bool q.far], 30)] w (World.alloc (World.setCell (World.setCell w7 ⟨w2.heap.size, 0, none⟩ (.int .i64 0)) ⟨w2.heap.size, 1, none⟩ (.int .i64 0)) (.cells #[.int .i64 0, .int .i64 0] 23))) := HM.out.new [.int .i64 0, .int .i64 0] 23 (by simp)
  clear HM
  have HM : Hid (Mn [(w7.heap.size, [.int .i64 0, .int .i64 0], 23), (w6.heap.size + 1, [.int .i64 q.x, .int .i64 q.y, .bool q.far], 30), (w6.heap.size, [.int .i64 0, .int .i64 0], 23), (w5.heap.size, [.int .i64 t.x, .int .i64 t.y, .bool t.far], 30), (w2.heap.size, [.int .i64 0, .int .i64 0], 23), (w1.heap.size + 2, [.int .i64 q.x, .int .i64 q.y, .bool q.far, .int .i64 r.x, .int .i64 r.y, .bool r.far], 30), (w1.heap.size + 1, [.int .i64 0, .int .i64 0], 23), (w1.heap.size, [.int .i64 0, .int .i64 0, .bool false], 30), (w.heap.size + 1, [.int .i64 r.x, .int .i64 r.y, .bool r.far], 30), (w.heap.size, [.int .i64 q.x, .int .i64 q.y, .bool q.far], 30)] w (World.alloc (World.setCell (World.setCell w7 ⟨w2.heap.size, 0, none⟩ (.int .i64 0)) ⟨w2.heap.size, 1, none⟩ (.int .i64 0)) (.cells #[.int .i64 0, .int .i64 0] 23))) := HM'
  clear HM'
  have f26 : World.cell? (World.alloc (World.setCell (World.setCell w7 ⟨w2.heap.size, 0, none⟩ (.int .i64 0)) ⟨w2.heap.size, 1, none⟩ (.int .i64 0)) (.cells #[.int .i64 0, .int .i64 0] 23)) ⟨w2.heap.size, 0, none⟩ = some (.int .i64 0) := (HM.out.at 4 rfl).cell 0
  have f27 : World.cell? (World.alloc (World.setCell (World.setCell w7 ⟨w2.heap.size, 0, none⟩ (.int .i64 0)) ⟨w2.heap.size, 1, none⟩ (.int .i64 0)) (.cells #[.int .i64 0, .int .i64 0] 23)) ⟨w2.heap.size, 1, none⟩ = some (.int .i64 0) := (HM.out.at 4 rfl).cell 1
  go_wp2_with fail
  refine (number_any _ _).mono ?_
  rintro e w8 ⟨rfl, hw8⟩
  rw [hw8, hnum]
  clear hw8 w8
  have f28 : World.cell? (World.alloc (World.setCell (World.setCell w7 ⟨w2.heap.size, 0, none⟩ (.int .i64 0)) ⟨w2.heap.size, 1, none⟩ (.int .i64 0)) (.cells #[.int .i64 0, .int .i64 0] 23)) ⟨w2.heap.size, 0, none⟩ = some (.int .i64 0) := (HM.out.at 4 rfl).cell 0
  have f29 : World.cell? (World.alloc (World.setCell (World.setCell w7 ⟨w2.heap.size, 0, none⟩ (.int .i64 0)) ⟨w2.heap.size, 1, none⟩ (.int .i64 0)) (.cells #[.int .i64 0, .int .i64 0] 23)) ⟨w2.heap.size, 1, none⟩ = some (.int .i64 0) := (HM.out.at 4 rfl).cell 1
  have f30 : World.cell? (World.alloc (World.setCell (World.setCell w7 ⟨w2.heap.size, 0, none⟩ (.int .i64 0)) ⟨w2.heap.size, 1, none⟩ (.int .i64 0)) (.cells #[.int .i64 0, .int .i64 0] 23)) ⟨w1.heap.size + 1, 0, none⟩ = some (.int .i64 0) := (HM.out.at 6 rfl).cell 0
  have f31 : World.cell? (World.alloc (World.setCell (World.setCell w7 ⟨w2.heap.size, 0, none⟩ (.int .i64 0)) ⟨w2.heap.size, 1, none⟩ (.int .i64 0)) (.cells #[.int .i64 0, .int .i64 0] 23)) ⟨w1.heap.size + 1, 1, none⟩ = some (.int .i64 0) := (HM.out.at 6 rfl).cell 1
  have f32 : World.cell? (World.alloc (World.setCell (World.setCell w7 ⟨w2.heap.size, 0, none⟩ (.int .i64 0)) ⟨w2.heap.size, 1, none⟩ (.int .i64 0)) (.cells #[.int .i64 0, .int .i64 0] 23)) ⟨w6.heap.size, 0, none⟩ = some (.int .i64 0) := (HM.out.at 2 rfl).cell 0
  have f33 : World.cell? (World.alloc (World.setCell (World.setCell w7 ⟨w2.heap.size, 0, none⟩ (.int .i64 0)) ⟨w2.heap.size, 1, none⟩ (.int .i64 0)) (.cells #[.int .i64 0, .int .i64 0] 23)) ⟨w6.heap.size, 1, none⟩ = some (.int .i64 0) := (HM.out.at 2 rfl).cell 1
  have f34 : World.cell? (World.alloc (World.setCell (World.setCell w7 ⟨w2.heap.size, 0, none⟩ (.int .i64 0)) ⟨w2.heap.size, 1, none⟩ (.int .i64 0)) (.cells #[.int .i64 0, .int .i64 0] 23)) ⟨w7.heap.size, 0, none⟩ = some (.int .i64 0) := (HM.out.at 0 rfl).cell 0
  have f35 : World.cell? (World.alloc (World.setCell (World.setCell w7 ⟨w2.heap.size, 0, none⟩ (.int .i64 0)) ⟨w2.heap.size, 1, none⟩ (.int .i64 0)) (.cells #[.int .i64 0, .int .i64 0] 23)) ⟨w7.heap.size, 1, none⟩ = some (.int .i64 0) := (HM.out.at 0 rfl).cell 1
  have f36 : World.cell? (World.alloc (World.setCell (World.setCell w7 ⟨w2.heap.size, 0, none⟩ (.int .i64 0)) ⟨w2.heap.size, 1, none⟩ (.int .i64 0)) (.cells #[.int .i64 0, .int .i64 0] 23)) ⟨w5.heap.size, 0, none⟩ = some (.int .i64 t.x) := (HM.out.at 3 rfl).cell 0
  have f37 : World.cell? (World.alloc (World.setCell (World.setCell w7 ⟨w2.heap.size, 0, none⟩ (.int .i64 0)) ⟨w2.heap.size, 1, none⟩ (.int .i64 0)) (.cells #[.int .i64 0, .int .i64 0] 23)) ⟨w5.heap.size, 1, none⟩ = some (.int .i64 t.y) := (HM.out.at 3 rfl).cell 1
  have f38 : World.cell? (World.alloc (World.setCell (World.setCell w7 ⟨w2.heap.size, 0, none⟩ (.int .i64 0)) ⟨w2.heap.size, 1, none⟩ (.int .i64 0)) (.cells #[.int .i64 0, .int .i64 0] 23)) ⟨w5.heap.size, 2, none⟩ = some (.bool t.far) := (HM.out.at 3 rfl).cell 2
  have f39 : World.cell? (World.alloc (World.setCell (World.setCell w7 ⟨w2.heap.size, 0, none⟩ (.int .i64 0)) ⟨w2.heap.size, 1, none⟩ (.int .i64 0)) (.cells #[.int .i64 0, .int .i64 0] 23)) ⟨w.heap.size, 0, none⟩ = some (.int .i64 q.x) := (HM.out.at 9 rfl).cell 0
  have f40 : World.cell? (World.alloc (World.setCell (World.setCell w7 ⟨w2.heap.size, 0, none⟩ (.int .i64 0)) ⟨w2.heap.size, 1, none⟩ (.int .i64 0)) (.cells #[.int .i64 0, .int .i64 0] 23)) ⟨w.heap.size, 1, none⟩ = some (.int .i64 q.y) := (HM.out.at 9 rfl).cell 1
  have f41 : World.cell? (World.alloc (World.setCell (World.setCell w7 ⟨w2.heap.size, 0, none⟩ (.int .i64 0)) ⟨w2.heap.size, 1, none⟩ (.int .i64 0)) (.cells #[.int .i64 0, .int .i64 0] 23)) ⟨w.heap.size, 2, none⟩ = some (.bool q.far) := (HM.out.at 9 rfl).cell 2
  go_wp2_with fail
  refine (HCo.out _).mono ?_
  rintro e w9 ⟨rfl, k1⟩
  clear f20 f21 f22 f23 f24 f25 f26 f27 f28 f29 f30 f31 f32 f33 f34 f35 f36 f37 f38 f39 f40 f41
  have HM' : Hid (Mn [(w7.heap.size, [.int .i64 0, .int .i64 0], 23), (w6.heap.size + 1, [.int .i64 q.x, .int .i64 q.y, .bool q.far], 30), (w6.heap.size, [.int .i64 0, .int .i64 0], 23), (w5.heap.size, [.int .i64 t.x, .int .i64 t.y, .bool t.far], 30), (w2.heap.size, [.int .i64 0, .int .i64 0], 23), (w1.heap.size + 2, [.int .i64 q.x, .int .i64 q.y, .bool q.far, .int .i64 r.x, .int .i64 r.y, .bool r.far], 30), (w1.heap.size + 1, [.int .i64 0, .int .i64 0], 23), (w1.heap.size, [.int .i64 0, .int .i64 0, .bool false], 30), (w.heap.size + 1, [.int .i64 r.x, .int .i64 r.y, .bool r.far], 30), (w.heap.size, [.int .i64 q.x, .int .i64 q.y, .bool q.far], 30)] w w9) := HM.out.below k1
  clear HM k1
  have HM : Hid (Mn [(w7.heap.size, [.int .i64 0, .int .i64 0], 23), (w6.heap.size + 1, [.int .i64 q.x, .int .i64 q.y, .bool q.far], 30), (w6.heap.size, [.int .i64 0, .int .i64 0], 23), (w5.heap.size, [.int .i64 t.x, .int .i64 t.y, .bool t.far], 30), (w2.heap.size, [.int .i64 0, .int .i64 0], 23), (w1.heap.size + 2, [.int .i64 q.x, .int .i64 q.y, .bool q.far, .int .i64 r.x, .int .i64 r.y, .bool r.far], 30), (w1.heap.size + 1, [.int .i64 0, .int .i64 0], 23), (w1.heap.size, [.int .i64 0, .int .i64 0, .bool false], 30), (w.heap.size + 1, [.int .i64 r.x, .int .i64 r.y, .bool r.far], 30), (w.heap.size, [.int .i64 q.x, .int .i64 q.y, .bool q.far], 30)] w w9) := HM'
  clear HM'
  have f42 : World.cell? w9 ⟨w2.heap.size, 0, none⟩ = some (.int .i64 0) := (HM.out.at 4 rfl).cell 0
  have f43 : World.cell? w9 ⟨w2.heap.size, 1, none⟩ = some (.int .i64 0) := (HM.out.at 4 rfl).cell 1
  have HM' : Hid (Mn [(w9.heap.size, [.int .i64 0, .int .i64 0, .bool true], 30), (w7.heap.size, [.int .i64 0, .int .i64 0], 23), (w6.heap.size + 1, [.int .i64 q.x, .int .i64 q.y, .bool q.far], 30), (w6.heap.size, [.int .i64 0, .int .i64 0], 23), (w5.heap.size, [.int .i64 t.x, .int .i64 t.y, .bool t.far], 30), (w2.heap.size, [.int .i64 0, .int .i64 0], 23), (w1.heap.size + 2, [.int .i64 q.x, .int .i64 q.y, .bool q.far, .int .i64 r.x, .int .i64 r.y, .bool r.far], 30), (w1.heap.size + 1, [.int .i64 0, .int .i64 0], 23), (w1.heap.size, [.int .i64 0, .int .i64 0, .bool false], 30), (w.heap.size + 1, [.int .i64 r.x, .int .i64 r.y, .bool r.far], 30), (w.heap.size, [.int .i64 q.x, .int .i64 q.y, .bool q.far], 30)] w (World.alloc w9 (.cells #[.int .i64 0, .int .i64 0, .bool true] 30))) := HM.out.new [.int .i64 0, .int .i64 0, .bool true] 30 (by simp)
  clear HM
  have HM : Hid (Mn [(w9.heap.size, [.int .i64 0, .int .i64 0, .bool true], 30), (w7.heap.size, [.int .i64 0, .int .i64 0], 23), (w6.heap.size + 1, [.int .i64 q.x, .int .i64 q.y, .bool q.far], 30), (w6.heap.size, [.int .i64 0, .int .i64 0], 23), (w5.heap.size, [.int .i64 t.x, .int .i64 t.y, .bool t.far], 30), (w2.heap.size, [.int .i64 0, .int .i64 0], 23), (w1.heap.size + 2, [.int .i64 q.x, .int .i64 q.y, .bool q.far, .int .i64 r.x, .int .i64 r.y, .bool r.far], 30), (w1.heap.size + 1, [.int .i64 0, .int .i64 0], 23), (w1.heap.size, [.int .i64 0, .int .i64 0, .bool false], 30), (w.heap.size + 1, [.int .i64 r.x, .int .i64 r.y, .bool r.far], 30), (w.heap.size, [.int .i64 q.x, .int .i64 q.y, .bool q.far], 30)] w (World.alloc w9 (.cells #[.int .i64 0, .int .i64 0, .bool true] 30))) := HM'
  clear HM'
  obtain ⟨W9, hW9⟩ : ∃ W9, W9 = (World.alloc w9 (.cells #[.int .i64 0, .int .i64 0, .bool true] 30)) := ⟨_, rfl⟩
  rw [← hW9] at HM
  go_wp2
  rw [← hW9]
  clear hW9
  go_loopw [22] (fun iv wx => ∃ i : Nat, i ≤ R ∧ iv = .int .i64 i ∧ Hid (Mn [(w9.heap.size, Pl (EC.mu P a q i), 30), (w7.heap.size, [.int .i64 0, .int .i64 0], 23), (w6.heap.size + 1, [.int .i64 q.x, .int .i64 q.y, .bool q.far], 30), (w6.heap.size, [.int .i64 0, .int .i64 0], 23), (w5.heap.size, [.int .i64 t.x, .int .i64 t.y, .bool t.far], 30), (w2.heap.size, [.int .i64 0, .int .i64 0], 23), (w1.heap.size + 2, [.int .i64 q.x, .int .i64 q.y, .bool q.far, .int .i64 r.x, .int .i64 r.y, .bool r.far], 30), (w1.heap.size + 1, [.int .i64 0, .int .i64 0], 23), (w1.heap.size, [.int .i64 0, .int .i64 0, .bool false], 30), (w.heap.size + 1, [.int .i64 r.x, .int .i64 r.y, .bool r.far], 30), (w.heap.size, [.int .i64 q.x, .int .i64 q.y, .bool q.far], 30)] w wx)) (fun iv _ => R - (intOf iv).toNat)
  case atStart => exact ⟨0, by omega, rfl, HM.out⟩
  case round =>
    clear f42 f43
    obtain ⟨i, hi, rfl, HM'⟩ := hrel
    clear HM
    have HM : Hid (Mn [(w9.heap.size, Pl (EC.mu P a q i), 30), (w7.heap.size, [.int .i64 0, .int .i64 0], 23), (w6.heap.size + 1, [.int .i64 q.x, .int .i64 q.y, .bool q.far], 30), (w6.heap.size, [.int .i64 0, .int .i64 0], 23), (w5.heap.size, [.int .i64 t.x, .int .i64 t.y, .bool t.far], 30), (w2.heap.size, [.int .i64 0, .int .i64 0], 23), (w1.heap.size + 2, [.int .i64 q.x, .int .i64 q.y, .bool q.far, .int .i64 r.x, .int .i64 r.y, .bool r.far], 30), (w1.heap.size + 1, [.int .i64 0, .int .i64 0], 23), (w1.heap.size, [.int .i64 0, .int .i64 0, .bool false], 30), (w.heap.size + 1, [.int .i64 r.x, .int .i64 r.y, .bool r.far], 30), (w.heap.size, [.int .i64 q.x, .int .i64 q.y, .bool q.far], 30)] w wr) := HM'
    clear HM'
    by_cases hlt : i < R
    · have HAs : Hid (∀ w, Calls Tryd.prog 16 #[.int .i64 P, .int .i64 a, Pv (EC.mu P a q i), Pv q] w fun e w' => e = .returned (Pv (EC.mu P a q (i + 1))) ∧ Below w.heap.size w w') := fun w => Added_any P a b _ q w HC.out.1 (mu_on HC.out.1 HC.out.2 i) HC.out.2
      obtain ⟨u, hu⟩ : ∃ u, EC.mu P a q i = u := ⟨_, rfl⟩
      obtain ⟨v, hv⟩ : ∃ u, EC.mu P a q (i + 1) = u := ⟨_, rfl⟩
      have HV : Hid (EC.mu P a q (i + 1) = v) := hv
      rw [hu] at HM HAs
      rw [hv] at HAs
      clear hu hv
      unfold Pl at HM
      unfold Pv at HAs
      go_wp2_with fail
      refine (HLf.out _).mono ?_
      rintro e w10 ⟨rfl, hw10⟩
      rw [hw10]
      clear hw10 w10
      have f44 : World.cell? wr ⟨w9.heap.size, 0, none⟩ = some (.int .i64 u.x) := (HM.out.at 0 rfl).cell 0
      have f45 : World.cell? wr ⟨w9.heap.size, 1, none⟩ = some (.int .i64 u.y) := (HM.out.at 0 rfl).cell 1
      have f46 : World.cell? wr ⟨w9.heap.size, 2, none⟩ = some (.bool u.far) := (HM.out.at 0 rfl).cell 2
      have f47 : World.cell? wr ⟨w.heap.size, 0, none⟩ = some (.int .i64 q.x) := (HM.out.at 10 rfl).cell 0
      have f48 : World.cell? wr ⟨w.heap.size, 1, none⟩ = some (.int .i64 q.y) := (HM.out.at 10 rfl).cell 1
      have f49 : World.cell? wr ⟨w.heap.size, 2, none⟩ = some (.bool q.far) := (HM.out.at 10 rfl).cell 2
      go_wp2_with fail
      refine (HAs.out _).mono ?_
      rintro e w11 ⟨rfl, k1⟩
      clear f44 f45 f46 f47 f48 f49
      have HM' : Hid (Mn [(w9.heap.size, [.int .i64 u.x, .int .i64 u.y, .bool u.far], 30), (w7.heap.size, [.int .i64 0, .int .i64 0], 23), (w6.heap.size + 1, [.int .i64 q.x, .int .i64 q.y, .bool q.far], 30), (w6.heap.size, [.int .i64 0, .int .i64 0], 23), (w5.heap.size, [.int .i64 t.x, .int .i64 t.y, .bool t.far], 30), (w2.heap.size, [.int .i64 0, .int .i64 0], 23), (w1.heap.size + 2, [.int .i64 q.x, .int .i64 q.y, .bool q.far, .int .i64 r.x, .int .i64 r.y, .bool r.far], 30), (w1.heap.size + 1, [.int .i64 0, .int .i64 0], 23), (w1.heap.size, [.int .i64 0, .int .i64 0, .bool false], 30), (w.heap.size + 1, [.int .i64 r.x, .int .i64 r.y, .bool r.far], 30), (w.heap.size, [.int .i64 q.x, .int .i64 q.y, .bool q.far], 30)] w w11) := HM.out.below k1
      clear HM k1
      have HM : Hid (Mn [(w9.heap.size, [.int .i64 u.x, .int .i64 u.y, .bool u.far], 30), (w7.heap.size, [.int .i64 0, .int .i64 0], 23), (w6.heap.size + 1, [.int .i64 q.x, .int .i64 q.y, .bool q.far], 30), (w6.heap.size, [.int .i64 0, .int .i64 0], 23), (w5.heap.size, [.int .i64 t.x, .int .i64 t.y, .bool t.far], 30), (w2.heap.size, [.int .i64 0, .int .i64 0], 23), (w1.heap.size + 2, [.int .i64 q.x, .int .i64 q.y, .bool q.far, .int .i64 r.x, .int .i64 r.y, .bool r.far], 30), (w1.heap.size + 1, [.int .i64 0, .int .i64 0], 23), (w1.heap.size, [.int .i64 0, .int .i64 0, .bool false], 30), (w.heap.size + 1, [.int .i64 r.x, .int .i64 r.y, .bool r.far], 30), (w.heap.size, [.int .i64 q.x, .int .i64 q.y, .bool q.far], 30)] w w11) := HM'
      clear HM'
      have f50 : World.cell? w11 ⟨w9.heap.size, 0, none⟩ = some (.int .i64 u.x) := (HM.out.at 0 rfl).cell 0
      have f51 : World.cell? w11 ⟨w9.heap.size, 1, none⟩ = some (.int .i64 u.y) := (HM.out.at 0 rfl).cell 1
      have f52 : World.cell? w11 ⟨w9.heap.size, 2, none⟩ = some (.bool u.far) := (HM.out.at 0 rfl).cell 2
      have f53 : World.frozen? w11 ⟨w9.heap.size, 0, none⟩ = false := (HM.out.at 0 rfl).frozen 0
      have f54 : World.frozen? w11 ⟨w9.heap.size, 1, none⟩ = false := (HM.out.at 0 rfl).frozen 1
      have f55 : World.frozen? w11 ⟨w9.heap.size, 2, none⟩ = false := (HM.out.at 0 rfl).frozen 2
      have HM' : Hid (Mn [(w9.heap.size, [.int .i64 v.x, .int .i64 u.y, .bool u.far], 30), (w7.heap.size, [.int .i64 0, .int .i64 0], 23), (w6.heap.size + 1, [.int .i64 q.x, .int .i64 q.y, .bool q.far], 30), (w6.heap.size, [.int .i64 0, .int .i64 0], 23), (w5.heap.size, [.int .i64 t.x, .int .i64 t.y, .bool t.far], 30), (w2.heap.size, [.int .i64 0, .int .i64 0], 23), (w1.heap.size + 2, [.int .i64 q.x, .int .i64 q.y, .bool q.far, .int .i64 r.x, .int .i64 r.y, .bool r.far], 30), (w1.heap.size + 1, [.int .i64 0, .int .i64 0], 23), (w1.heap.size, [.int .i64 0, .int .i64 0, .bool false], 30), (w.heap.size + 1, [.int .i64 r.x, .int .i64 r.y, .bool r.far], 30), (w.heap.size, [.int .i64 q.x, .int .i64 q.y, .bool q.far], 30)] w (World.setCell w11 ⟨w9.heap.size, 0, none⟩ (.int .i64 v.x))) := HM.out.set 0 rfl 0 (.int .i64 v.x)
      clear HM
      have HM : Hid (Mn [(w9.heap.size, [.int .i64 v.x, .int .i64 u.y, .bool u.far], 30), (w7.heap.size, [.int .i64 0, .int .i64 0], 23), (w6.heap.size + 1, [.int .i64 q.x, .int .i64 q.y, .bool q.far], 30), (w6.heap.size, [.int .i64 0, .int .i64 0], 23), (w5.heap.size, [.int .i64 t.x, .int .i64 t.y, .bool t.far], 30), (w2.heap.size, [.int .i64 0, .int .i64 0], 23), (w1.heap.size + 2, [.int .i64 q.x, .int .i64 q.y, .bool q.far, .int .i64 r.x, .int .i64 r.y, .bool r.far], 30), (w1.heap.size + 1, [.int .i64 0, .int .i64 0], 23), (w1.heap.size, [.int .i64 0, .int .i64 0, .bool false], 30), (w.heap.size + 1, [.int .i64 r.x, .int .i64 r.y, .bool r.far], 30), (w.heap.size, [.int .i64 q.x, .int .i64 q.y, .bool q.far], 30)] w (World.setCell w11 ⟨w9.heap.size, 0, none⟩ (.int .i64 v.x))) := HM'
      clear HM'
      have HM' : Hid (Mn [(w9.heap.size, [.int .i64 v.x, .int .i64 v.y, .bool u.far], 30), (w7.heap.size, [.int .i64 0, .int .i64 0], 23), (w6.heap.size + 1, [.int .i64 q.x, .int .i64 q.y, .bool q.far], 30), (w6.heap.size, [.int .i64 0, .int .i64 0], 23), (w5.heap.size, [.int .i64 t.x, .int .i64 t.y, .bool t.far], 30), (w2.heap.size, [.int .i64 0, .int .i64 0], 23), (w1.heap.size + 2, [.int .i64 q.x, .int .i64 q.y, .bool q.far, .int .i64 r.x, .int .i64 r.y, .bool r.far], 30), (w1.heap.size + 1, [.int .i64 0, .int .i64 0], 23), (w1.heap.size, [.int .i64 0, .int .i64 0, .bool false], 30), (w.heap.size + 1, [.int .i64 r.x, .int .i64 r.y, .bool r.far], 30), (w.heap.size, [.int .i64 q.x, .int .i64 q.y, .bool q.far], 30)] w (World.setCell (World.setCell w11 ⟨w9.heap.size, 0, none⟩ (.int .i64 v.x)) ⟨w9.heap.size, 1, none⟩ (.int .i64 v.y))) := HM.out.set 0 rfl 1 (.int .i64 v.y)
      clear HM
      have HM : Hid (Mn [(w9.heap.size, [.int .i64 v.x, .int .i64 v.y, .bool u.far], 30), (w7.heap.size, [.int .i64 0, .int .i64 0], 23), (w6.heap.size + 1, [.int .i64 q.x, .int .i64 q.y, .bool q.far], 30), (w6.heap.size, [.int .i64 0, .int .i64 0], 23), (w5.heap.size, [.int .i64 t.x, .int .i64 t.y, .bool t.far], 30), (w2.heap.size, [.int .i64 0, .int .i64 0], 23), (w1.heap.size + 2, [.int .i64 q.x, .int .i64 q.y, .bool q.far, .int .i64 r.x, .int .i64 r.y, .bool r.far], 30), (w1.heap.size + 1, [.int .i64 0, .int .i64 0], 23), (w1.heap.size, [.int .i64 0, .int .i64 0, .bool false], 30), (w.heap.size + 1, [.int .i64 r.x, .int .i64 r.y, .bool r.far], 30), (w.heap.size, [.int .i64 q.x, .int .i64 q.y, .bool q.far], 30)] w (World.setCell (World.setCell w11 ⟨w9.heap.size, 0, none⟩ (.int .i64 v.x)) ⟨w9.heap.size, 1, none⟩ (.int .i64 v.y))) := HM'
      clear HM'
      have HM' : Hid (Mn [(w9.heap.size, [.int .i64 v.x, .int .i64 v.y, .bool v.far], 30), (w7.heap.size, [.int .i64 0, .int .i64 0], 23), (w6.heap.size + 1, [.int .i64 q.x, .int .i64 q.y, .bool q.far], 30), (w6.heap.size, [.int .i64 0, .int .i64 0], 23), (w5.heap.size, [.int .i64 t.x, .int .i64 t.y, .bool t.far], 30), (w2.heap.size, [.int .i64 0, .int .i64 0], 23), (w1.heap.size + 2, [.int .i64 q.x, .int .i64 q.y, .bool q.far, .int .i64 r.x, .int .i64 r.y, .bool r.far], 30), (w1.heap.size + 1, [.int .i64 0, .int .i64 0], 23), (w1.heap.size, [.int .i64 0, .int .i64 0, .bool false], 30), (w.heap.size + 1, [.int .i64 r.x, .int .i64 r.y, .bool r.far], 30), (w.heap.size, [.int .i64 q.x, .int .i64 q.y, .bool q.far], 30)] w (World.setCell (World.setCell (World.setCell w11 ⟨w9.heap.size, 0, none⟩ (.int .i64 v.x)) ⟨w9.heap.size, 1, none⟩ (.int .i64 v.y)) ⟨w9.heap.size, 2, none⟩ (.bool v.far))) := HM.out.set 0 rfl 2 (.bool v.far)
      clear HM
      have HM : Hid (Mn [(w9.heap.size, [.int .i64 v.x, .int .i64 v.y, .bool v.far], 30), (w7.heap.size, [.int .i64 0, .int .i64 0], 23), (w6.heap.size + 1, [.int .i64 q.x, .int .i64 q.y, .bool q.far], 30), (w6.heap.size, [.int .i64 0, .int .i64 0], 23), (w5.heap.size, [.int .i64 t.x, .int .i64 t.y, .bool t.far], 30), (w2.heap.size, [.int .i64 0, .int .i64 0], 23), (w1.heap.size + 2, [.int .i64 q.x, .int .i64 q.y, .bool q.far, .int .i64 r.x, .int .i64 r.y, .bool r.far], 30), (w1.heap.size + 1, [.int .i64 0, .int .i64 0], 23), (w1.heap.size, [.int .i64 0, .int .i64 0, .bool false], 30), (w.heap.size + 1, [.int .i64 r.x, .int .i64 r.y, .bool r.far], 30), (w.heap.size, [.int .i64 q.x, .int .i64 q.y, .bool q.far], 30)] w (World.setCell (World.setCell (World.setCell w11 ⟨w9.heap.size, 0, none⟩ (.int .i64 v.x)) ⟨w9.heap.size, 1, none⟩ (.int .i64 v.y)) ⟨w9.heap.size, 2, none⟩ (.bool v.far))) := HM'
      clear HM'
      go_wp2
      clear f50 f51 f52 f53 f54 f55
      go_roundw
      case rel => exact ⟨i + 1, by omega, by go_num, by rw [HV.out]; exact HM.out⟩
      case measure => simp [intOf]; omega
    · obtain rfl : R = i := by omega
      obtain ⟨u, hu⟩ : ∃ u, EC.mu P a q R = u := ⟨_, rfl⟩
      rw [hu] at HM
      have htu : t = u := by rw [← hu]; exact HTe.out
      subst htu
      clear hu
      unfold Pl at HM
      go_wp2_with fail
      refine (HLf.out _).mono ?_
      rintro e w10 ⟨rfl, hw10⟩
      rw [hw10]
      clear hw10 w10
      have f56 : World.cell? wr ⟨w9.heap.size, 0, none⟩ = some (.int .i64 t.x) := (HM.out.at 0 rfl).cell 0
      have f57 : World.cell? wr ⟨w9.heap.size, 1, none⟩ = some (.int .i64 t.y) := (HM.out.at 0 rfl).cell 1
      have f58 : World.cell? wr ⟨w9.heap.size, 2, none⟩ = some (.bool t.far) := (HM.out.at 0 rfl).cell 2
      have f59 : World.cell? wr ⟨w5.heap.size, 0, none⟩ = some (.int .i64 t.x) := (HM.out.at 4 rfl).cell 0
      have f60 : World.cell? wr ⟨w5.heap.size, 1, none⟩ = some (.int .i64 t.y) := (HM.out.at 4 rfl).cell 1
      have f61 : World.cell? wr ⟨w5.heap.size, 2, none⟩ = some (.bool t.far) := (HM.out.at 4 rfl).cell 2
      go_wp2
      go_ret
      exact ⟨rfl, HM.out.k⟩

set_option maxHeartbeats 8000000 in
theorem adds_ok_far (P : Nat) (a b n : Int) (q r : Pn) (k : Nat) (w : World) (hv : Cv P a b) (hq : On P a b q) (hr : On P a b r) (hk : Od P a q k) (hk2 : k ≤ 4000001) (hnum : numB n = false) (hT : Tb w) :
    Calls Tryd.prog 4 #[.int .i64 P, .int .i64 a, .int .i64 b, .int .i64 n, Pv q, Pv r] w fun e w' => e = .returned (.bool true) ∧ Below w.heap.size w w' := by
  have HBg : Hid (∀ w, Tb w → Calls Tryd.prog 10 #[] w fun e w' => e = .returned (.bool true) ∧ Below w.heap.size w w') := fun w h => curveBegun_any w h
  have HAd : Hid (∀ w, Tb w → Calls Tryd.prog 14 #[.int .i64 P, .int .i64 a, .int .i64 b, Pv q, Pv r] w fun e w' => e = .returned (.tuple #[Pv (padd P a q r), .agg #[.int .i64 0, .int .i64 0]]) ∧ Below w.heap.size w w') := fun w hT => Add_ok P a b q r w (of_ok hv (by simp [hq, hr])) hv hq hr hT
  have HOf : Hid (∀ w sl, PS w sl [q, r] → Calls Tryd.prog 15 #[.int .i64 P, .int .i64 a, .int .i64 b, sl] w fun e w' => e = .returned (.agg #[.int .i64 0, .int .i64 0]) ∧ Below w.heap.size w w') := fun w sl hs => offCurve_any P a b 0 0 sl [q, r] w (of_ok hv (by simp [hq, hr])) hs (by simp)
  have HAa : Hid (∀ w, Calls Tryd.prog 16 #[.int .i64 P, .int .i64 a, Pv q, Pv r] w fun e w' => e = .returned (Pv (padd P a q r)) ∧ Below w.heap.size w w') := fun w => Added_any P a b q r w hv hq hr
  obtain ⟨s, hse⟩ : ∃ s, padd P a q r = s := ⟨_, rfl⟩
  rw [hse] at HAd HAa
  clear hse
  have hcb : (0 != (0 : Int)) = false := rfl
  have hcb2 : (0 == (0 : Int)) = true := rfl
  have HOr : Hid (∀ w, Tb w → Calls Tryd.prog 18 #[.int .i64 P, .int .i64 a, .int .i64 b, Pv q] w fun e w' => e = .returned (.tuple #[.int .i64 k, .agg #[.int .i64 0, .int .i64 0]]) ∧ Below w.heap.size w w') := fun w hT => Order_ok P a b q k w (of_ok hv (by simp [hq])) hv hq hk hk2 hT
  have HOq : Hid (∀ w sl, PS w sl [q] → Calls Tryd.prog 15 #[.int .i64 P, .int .i64 a, .int .i64 b, sl] w fun e w' => e = .returned (.agg #[.int .i64 0, .int .i64 0]) ∧ Below w.heap.size w w') := fun w sl hs => offCurve_any P a b 0 0 sl [q] w (of_ok hv (by simp [hq])) hs (by simp)
  have HCo : Hid (∀ w, Calls Tryd.prog 21 #[.int .i64 P, .int .i64 a, Pv q] w fun e w' => e = .returned (.int .i64 k) ∧ Below w.heap.size w w') := fun w => CurveOrder_any P a b q k w hv hq hk hk2
  have HTm : Hid (∀ w, Tb w → Calls Tryd.prog 17 #[.int .i64 P, .int .i64 a, .int .i64 b, .int .i64 n, Pv q] w fun e w' => e = .returned (.tuple #[Pv zP, .agg #[.int .i64 3, .int .i64 4]]) ∧ Below w.heap.size w w') := fun w hT => Times_far P a b n q w (of_ok hv (by simp [hq])) hnum hT
  have HT : Hid (Tb w) := hT
  clear hv hq hk hT hr
  unfold Pv at HAd HTm HOr HAa HCo
  unfold zP at HTm
  unfold Pv
  go_enter Tryd.func4, Tryd.ntmps4
  have HM : Hid (Mn [] w w) := Mn.nil w
  have HM' : Hid (Mn [(w.heap.size, [.int .i64 q.x, .int .i64 q.y, .bool q.far], 30)] w (World.alloc w (.cells #[.int .i64 q.x, .int .i64 q.y, .bool q.far] 30))) := HM.out.new [.int .i64 q.x, .int .i64 q.y, .bool q.far] 30 (by simp)
  clear HM
  have HM : Hid (Mn [(w.heap.size, [.int .i64 q.x, .int .i64 q.y, .bool q.far], 30)] w (World.alloc w (.cells #[.int .i64 q.x, .int .i64 q.y, .bool q.far] 30))) := HM'
  clear HM'
  have HM' : Hid (Mn [(w.heap.size + 1, [.int .i64 r.x, .int .i64 r.y, .bool r.far], 30), (w.heap.size, [.int .i64 q.x, .int .i64 q.y, .bool q.far], 30)] w (World.alloc (World.alloc w (.cells #[.int .i64 q.x, .int .i64 q.y, .bool q.far] 30)) (.cells #[.int .i64 r.x, .int .i64 r.y, .bool r.far] 30))) := HM.out.new [.int .i64 r.x, .int .i64 r.y, .bool r.far] 30 (by simp)
  clear HM
  have HM : Hid (Mn [(w.heap.size + 1, [.int .i64 r.x, .int .i64 r.y, .bool r.far], 30), (w.heap.size, [.int .i64 q.x, .int .i64 q.y, .bool q.far], 30)] w (World.alloc (World.alloc w (.cells #[.int .i64 q.x, .int .i64 q.y, .bool q.far] 30)) (.cells #[.int .i64 r.x, .int .i64 r.y, .bool r.far] 30))) := HM'
  clear HM'
  go_wp2_with fail
  refine (HAd.out _ (HT.out.below HM.out.k)).mono ?_
  rintro e w1 ⟨rfl, k1⟩
  have HM' : Hid (Mn [(w.heap.size + 1, [.int .i64 r.x, .int .i64 r.y, .bool r.far], 30), (w.heap.size, [.int .i64 q.x, .int .i64 q.y, .bool q.far], 30)] w w1) := HM.out.below k1
  clear HM k1
  have HM : Hid (Mn [(w.heap.size + 1, [.int .i64 r.x, .int .i64 r.y, .bool r.far], 30), (w.heap.size, [.int .i64 q.x, .int .i64 q.y, .bool q.far], 30)] w w1) := HM'
  clear HM'
  have HM' : Hid (Mn [(w1.heap.size, [.int .i64 s.x, .int .i64 s.y, .bool s.far], 30), (w.heap.size + 1, [.int .i64 r.x, .int .i64 r.y, .bool r.far], 30), (w.heap.size, [.int .i64 q.x, .int .i64 q.y, .bool q.far], 30)] w (World.alloc w1 (.cells #[.int .i64 s.x, .int .i64 s.y, .bool s.far] 30))) := HM.out.new [.int .i64 s.x, .int .i64 s.y, .bool s.far] 30 (by simp)
  clear HM
  have HM : Hid (Mn [(w1.heap.size, [.int .i64 s.x, .int .i64 s.y, .bool s.far], 30), (w.heap.size + 1, [.int .i64 r.x, .int .i64 r.y, .bool r.far], 30), (w.heap.size, [.int .i64 q.x, .int .i64 q.y, .bool q.far], 30)] w (World.alloc w1 (.cells #[.int .i64 s.x, .int .i64 s.y, .bool s.far] 30))) := HM'
  clear HM'
  have HM' : Hid (Mn [(w1.heap.size + 1, [.int .i64 0, .int .i64 0], 23), (w1.heap.size, [.int .i64 s.x, .int .i64 s.y, .bool s.far], 30), (w.heap.size + 1, [.int .i64 r.x, .int .i64 r.y, .bool r.far], 30), (w.heap.size, [.int .i64 q.x, .int .i64 q.y, .bool q.far], 30)] w (World.alloc (World.alloc w1 (.cells #[.int .i64 s.x, .int .i64 s.y, .bool s.far] 30)) (.cells #[.int .i64 0, .int .i64 0] 23))) := HM.out.new [.int .i64 0, .int .i64 0] 23 (by simp)
  clear HM
  have HM : Hid (Mn [(w1.heap.size + 1, [.int .i64 0, .int .i64 0], 23), (w1.heap.size, [.int .i64 s.x, .int .i64 s.y, .bool s.far], 30), (w.heap.size + 1, [.int .i64 r.x, .int .i64 r.y, .bool r.far], 30), (w.heap.size, [.int .i64 q.x, .int .i64 q.y, .bool q.far], 30)] w (World.alloc (World.alloc w1 (.cells #[.int .i64 s.x, .int .i64 s.y, .bool s.far] 30)) (.cells #[.int .i64 0, .int .i64 0] 23))) := HM'
  clear HM'
  have f1 : World.cell? (World.alloc (World.alloc w1 (.cells #[.int .i64 s.x, .int .i64 s.y, .bool s.far] 30)) (.cells #[.int .i64 0, .int .i64 0] 23)) ⟨w.heap.size, 0, none⟩ = some (.int .i64 q.x) := (HM.out.at 3 rfl).cell 0
  have f2 : World.cell? (World.alloc (World.alloc w1 (.cells #[.int .i64 s.x, .int .i64 s.y, .bool s.far] 30)) (.cells #[.int .i64 0, .int .i64 0] 23)) ⟨w.heap.size, 1, none⟩ = some (.int .i64 q.y) := (HM.out.at 3 rfl).cell 1
  have f3 : World.cell? (World.alloc (World.alloc w1 (.cells #[.int .i64 s.x, .int .i64 s.y, .bool s.far] 30)) (.cells #[.int .i64 0, .int .i64 0] 23)) ⟨w.heap.size, 2, none⟩ = some (.bool q.far) := (HM.out.at 3 rfl).cell 2
  have f4 : World.cell? (World.alloc (World.alloc w1 (.cells #[.int .i64 s.x, .int .i64 s.y, .bool s.far] 30)) (.cells #[.int .i64 0, .int .i64 0] 23)) ⟨w.heap.size + 1, 0, none⟩ = some (.int .i64 r.x) := (HM.out.at 2 rfl).cell 0
  have f5 : World.cell? (World.alloc (World.alloc w1 (.cells #[.int .i64 s.x, .int .i64 s.y, .bool s.far] 30)) (.cells #[.int .i64 0, .int .i64 0] 23)) ⟨w.heap.size + 1, 1, none⟩ = some (.int .i64 r.y) := (HM.out.at 2 rfl).cell 1
  have f6 : World.cell? (World.alloc (World.alloc w1 (.cells #[.int .i64 s.x, .int .i64 s.y, .bool s.far] 30)) (.cells #[.int .i64 0, .int .i64 0] 23)) ⟨w.heap.size + 1, 2, none⟩ = some (.bool r.far) := (HM.out.at 2 rfl).cell 2
  go_wp2_with fail
  have HM' : Hid (Mn [(w1.heap.size + 2, [.int .i64 q.x, .int .i64 q.y, .bool q.far, .int .i64 r.x, .int .i64 r.y, .bool r.far], 30), (w1.heap.size + 1, [.int .i64 0, .int .i64 0], 23), (w1.heap.size, [.int .i64 s.x, .int .i64 s.y, .bool s.far], 30), (w.heap.size + 1, [.int .i64 r.x, .int .i64 r.y, .bool r.far], 30), (w.heap.size, [.int .i64 q.x, .int .i64 q.y, .bool q.far], 30)] w (World.alloc (World.alloc (World.alloc w1 (.cells #[.int .i64 s.x, .int .i64 s.y, .bool s.far] 30)) (.cells #[.int .i64 0, .int .i64 0] 23)) (.cells #[.int .i64 q.x, .int .i64 q.y, .bool q.far, .int .i64 r.x, .int .i64 r.y, .bool r.far] 30))) := HM.out.new [.int .i64 q.x, .int .i64 q.y, .bool q.far, .int .i64 r.x, .int .i64 r.y, .bool r.far] 30 (by simp)
  clear HM
  have HM : Hid (Mn [(w1.heap.size + 2, [.int .i64 q.x, .int .i64 q.y, .bool q.far, .int .i64 r.x, .int .i64 r.y, .bool r.far], 30), (w1.heap.size + 1, [.int .i64 0, .int .i64 0], 23), (w1.heap.size, [.int .i64 s.x, .int .i64 s.y, .bool s.far], 30), (w.heap.size + 1, [.int .i64 r.x, .int .i64 r.y, .bool r.far], 30), (w.heap.size, [.int .i64 q.x, .int .i64 q.y, .bool q.far], 30)] w (World.alloc (World.alloc (World.alloc w1 (.cells #[.int .i64 s.x, .int .i64 s.y, .bool s.far] 30)) (.cells #[.int .i64 0, .int .i64 0] 23)) (.cells #[.int .i64 q.x, .int .i64 q.y, .bool q.far, .int .i64 r.x, .int .i64 r.y, .bool r.far] 30))) := HM'
  clear HM'
  refine (HOf.out _ _ (PS.two (q := q) (r := r) (HM.out.at 0 rfl))).mono ?_
  rintro e w2 ⟨rfl, k1⟩
  clear f1 f2 f3 f4 f5 f6
  have HM' : Hid (Mn [(w1.heap.size + 2, [.int .i64 q.x, .int .i64 q.y, .bool q.far, .int .i64 r.x, .int .i64 r.y, .bool r.far], 30), (w1.heap.size + 1, [.int .i64 0, .int .i64 0], 23), (w1.heap.size, [.int .i64 s.x, .int .i64 s.y, .bool s.far], 30), (w.heap.size + 1, [.int .i64 r.x, .int .i64 r.y, .bool r.far], 30), (w.heap.size, [.int .i64 q.x, .int .i64 q.y, .bool q.far], 30)] w w2) := HM.out.below k1
  clear HM k1
  have HM : Hid (Mn [(w1.heap.size + 2, [.int .i64 q.x, .int .i64 q.y, .bool q.far, .int .i64 r.x, .int .i64 r.y, .bool r.far], 30), (w1.heap.size + 1, [.int .i64 0, .int .i64 0], 23), (w1.heap.size, [.int .i64 s.x, .int .i64 s.y, .bool s.far], 30), (w.heap.size + 1, [.int .i64 r.x, .int .i64 r.y, .bool r.far], 30), (w.heap.size, [.int .i64 q.x, .int .i64 q.y, .bool q.far], 30)] w w2) := HM'
  clear HM'
  have HM' : Hid (Mn [(w2.heap.size, [.int .i64 0, .int .i64 0], 23), (w1.heap.size + 2, [.int .i64 q.x, .int .i64 q.y, .bool q.far, .int .i64 r.x, .int .i64 r.y, .bool r.far], 30), (w1.heap.size + 1, [.int .i64 0, .int .i64 0], 23), (w1.heap.size, [.int .i64 s.x, .int .i64 s.y, .bool s.far], 30), (w.heap.size + 1, [.int .i64 r.x, .int .i64 r.y, .bool r.far], 30), (w.heap.size, [.int .i64 q.x, .int .i64 q.y, .bool q.far], 30)] w (World.alloc w2 (.cells #[.int .i64 0, .int .i64 0] 23))) := HM.out.new [.int .i64 0, .int .i64 0] 23 (by simp)
  clear HM
  have HM : Hid (Mn [(w2.heap.size, [.int .i64 0, .int .i64 0], 23), (w1.heap.size + 2, [.int .i64 q.x, .int .i64 q.y, .bool q.far, .int .i64 r.x, .int .i64 r.y, .bool r.far], 30), (w1.heap.size + 1, [.int .i64 0, .int .i64 0], 23), (w1.heap.size, [.int .i64 s.x, .int .i64 s.y, .bool s.far], 30), (w.heap.size + 1, [.int .i64 r.x, .int .i64 r.y, .bool r.far], 30), (w.heap.size, [.int .i64 q.x, .int .i64 q.y, .bool q.far], 30)] w (World.alloc w2 (.cells #[.int .i64 0, .int .i64 0] 23))) := HM'
  clear HM'
  go_wp2_with fail
  obtain ⟨W3, hW3⟩ : ∃ W3, W3 = (World.alloc w2 (.cells #[.int .i64 0, .int .i64 0] 23)) := ⟨_, rfl⟩
  rw [← hW3] at HM ⊢
  clear hW3
  refine wp_region_G (fun wz => World.cell? wz ⟨w1.heap.size, 0, none⟩ = some (.int .i64 s.x) ∧ World.cell? wz ⟨w1.heap.size, 1, none⟩ = some (.int .i64 s.y) ∧ World.cell? wz ⟨w1.heap.size, 2, none⟩ = some (.bool s.far) ∧ World.cell? wz ⟨w1.heap.size + 1, 0, none⟩ = some (.int .i64 0) ∧ World.cell? wz ⟨w1.heap.size + 1, 1, none⟩ = some (.int .i64 0) ∧ World.cell? wz ⟨w2.heap.size, 0, none⟩ = some (.int .i64 0) ∧ World.cell? wz ⟨w2.heap.size, 1, none⟩ = some (.int .i64 0) ∧ World.cell? wz ⟨w.heap.size, 0, none⟩ = some (.int .i64 q.x) ∧ World.cell? wz ⟨w.heap.size, 1, none⟩ = some (.int .i64 q.y) ∧ World.cell? wz ⟨w.heap.size, 2, none⟩ = some (.bool q.far) ∧ World.cell? wz ⟨w.heap.size + 1, 0, none⟩ = some (.int .i64 r.x) ∧ World.cell? wz ⟨w.heap.size + 1, 1, none⟩ = some (.int .i64 r.y) ∧ World.cell? wz ⟨w.heap.size + 1, 2, none⟩ = some (.bool r.far)) 30 (by kernel_rfl) ⟨(HM.out.at 3 rfl).cell 0, (HM.out.at 3 rfl).cell 1, (HM.out.at 3 rfl).cell 2, (HM.out.at 2 rfl).cell 0, (HM.out.at 2 rfl).cell 1, (HM.out.at 0 rfl).cell 0, (HM.out.at 0 rfl).cell 1, (HM.out.at 5 rfl).cell 0, (HM.out.at 5 rfl).cell 1, (HM.out.at 5 rfl).cell 2, (HM.out.at 4 rfl).cell 0, (HM.out.at 4 rfl).cell 1, (HM.out.at 4 rfl).cell 2⟩ (fun hHeld => ?_)
  refine wpAnyG_one (i := 0) rfl (by kernel_rfl) (fun K hK => ?_)
  go_simp
  refine (HBg.out _ (HT.out.below (HM.out.k.drew))).mono ?_
  rintro e w3 ⟨rfl, k1⟩
  have HM' : Hid (Mn [(w2.heap.size, [.int .i64 0, .int .i64 0], 23), (w1.heap.size + 2, [.int .i64 q.x, .int .i64 q.y, .bool q.far, .int .i64 r.x, .int .i64 r.y, .bool r.far], 30), (w1.heap.size + 1, [.int .i64 0, .int .i64 0], 23), (w1.heap.size, [.int .i64 s.x, .int .i64 s.y, .bool s.far], 30), (w.heap.size + 1, [.int .i64 r.x, .int .i64 r.y, .bool r.far], 30), (w.heap.size, [.int .i64 q.x, .int .i64 q.y, .bool q.far], 30)] w w3) := HM.out.below ((Below.refl _ _).drew.trans k1)
  clear HM k1
  have HM : Hid (Mn [(w2.heap.size, [.int .i64 0, .int .i64 0], 23), (w1.heap.size + 2, [.int .i64 q.x, .int .i64 q.y, .bool q.far, .int .i64 r.x, .int .i64 r.y, .bool r.far], 30), (w1.heap.size + 1, [.int .i64 0, .int .i64 0], 23), (w1.heap.size, [.int .i64 s.x, .int .i64 s.y, .bool s.far], 30), (w.heap.size + 1, [.int .i64 r.x, .int .i64 r.y, .bool r.far], 30), (w.heap.size, [.int .i64 q.x, .int .i64 q.y, .bool q.far], 30)] w w3) := HM'
  clear HM'
  refine hK.out _ _ ⟨(HM.out.at 3 rfl).cell 0, (HM.out.at 3 rfl).cell 1, (HM.out.at 3 rfl).cell 2, (HM.out.at 2 rfl).cell 0, (HM.out.at 2 rfl).cell 1, (HM.out.at 0 rfl).cell 0, (HM.out.at 0 rfl).cell 1, (HM.out.at 5 rfl).cell 0, (HM.out.at 5 rfl).cell 1, (HM.out.at 5 rfl).cell 2, (HM.out.at 4 rfl).cell 0, (HM.out.at 4 rfl).cell 1, (HM.out.at 4 rfl).cell 2⟩ ?_
  clear hK K
  try simp only [Act.put, List.setIfInBounds_toArray, List.set_cons_zero, List.set_cons_succ]
  clear hHeld
  have hHeld : (fun wz => World.cell? wz ⟨w1.heap.size, 0, none⟩ = some (.int .i64 s.x) ∧ World.cell? wz ⟨w1.heap.size, 1, none⟩ = some (.int .i64 s.y) ∧ World.cell? wz ⟨w1.heap.size, 2, none⟩ = some (.bool s.far) ∧ World.cell? wz ⟨w1.heap.size + 1, 0, none⟩ = some (.int .i64 0) ∧ World.cell? wz ⟨w1.heap.size + 1, 1, none⟩ = some (.int .i64 0) ∧ World.cell? wz ⟨w2.heap.size, 0, none⟩ = some (.int .i64 0) ∧ World.cell? wz ⟨w2.heap.size, 1, none⟩ = some (.int .i64 0) ∧ World.cell? wz ⟨w.heap.size, 0, none⟩ = some (.int .i64 q.x) ∧ World.cell? wz ⟨w.heap.size, 1, none⟩ = some (.int .i64 q.y) ∧ World.cell? wz ⟨w.heap.size, 2, none⟩ = some (.bool q.far) ∧ World.cell? wz ⟨w.heap.size + 1, 0, none⟩ = some (.int .i64 r.x) ∧ World.cell? wz ⟨w.heap.size + 1, 1, none⟩ = some (.int .i64 r.y) ∧ World.cell? wz ⟨w.heap.size + 1, 2, none⟩ = some (.bool r.far)) w3 := ⟨(HM.out.at 3 rfl).cell 0, (HM.out.at 3 rfl).cell 1, (HM.out.at 3 rfl).cell 2, (HM.out.at 2 rfl).cell 0, (HM.out.at 2 rfl).cell 1, (HM.out.at 0 rfl).cell 0, (HM.out.at 0 rfl).cell 1, (HM.out.at 5 rfl).cell 0, (HM.out.at 5 rfl).cell 1, (HM.out.at 5 rfl).cell 2, (HM.out.at 4 rfl).cell 0, (HM.out.at 4 rfl).cell 1, (HM.out.at 4 rfl).cell 2⟩
  refine wpAnyG_take (i := 1) (v := .bool false) rfl (by kernel_rfl) (fun _ _ _ h => h) (Or.inl ⟨by kernel_rfl, ?y1x67⟩) hHeld ?r1x67
  case y1x67 => (intro wS hSw; (obtain ⟨s1, s2, s3, s4, s5, s6, s7, s8, s9, s10, s11, s12, s13⟩ := hSw; go_simp))
  try simp only [Act.put, List.setIfInBounds_toArray, List.set_cons_zero, List.set_cons_succ]
  refine wpAnyG_take (i := 2) (v := .bool false) rfl (by kernel_rfl) (fun _ _ _ h => h) (Or.inl ⟨by kernel_rfl, ?y2x68⟩) hHeld ?r2x68
  case y2x68 => (intro wS hSw; (obtain ⟨s1, s2, s3, s4, s5, s6, s7, s8, s9, s10, s11, s12, s13⟩ := hSw; go_simp))
  try simp only [Act.put, List.setIfInBounds_toArray, List.set_cons_zero, List.set_cons_succ]
  refine wpAnyG_take (i := 3) (v := .agg #[.int .i64 0, .int .i64 0]) rfl (by kernel_rfl) (fun _ _ _ h => h) (Or.inl ⟨by kernel_rfl, ?y3x69⟩) hHeld ?r3x69
  case y3x69 => (intro wS hSw; (obtain ⟨s1, s2, s3, s4, s5, s6, s7, s8, s9, s10, s11, s12, s13⟩ := hSw; go_simp))
  try simp only [Act.put, List.setIfInBounds_toArray, List.set_cons_zero, List.set_cons_succ]
  refine wpAnyG_take (i := 4) (v := .agg #[.int .i64 0, .int .i64 0]) rfl (by kernel_rfl) (fun _ _ _ h => h) (Or.inl ⟨by kernel_rfl, ?y4x70⟩) hHeld ?r4x70
  case y4x70 => (intro wS hSw; (obtain ⟨s1, s2, s3, s4, s5, s6, s7, s8, s9, s10, s11, s12, s13⟩ := hSw; go_simp))
  try simp only [Act.put, List.setIfInBounds_toArray, List.set_cons_zero, List.set_cons_succ]
  refine wpAnyG_take (i := 5) (v := .bool false) rfl (by kernel_rfl) (fun _ _ _ h => h) (Or.inl ⟨by kernel_rfl, ?y5x71⟩) hHeld ?r5x71
  case y5x71 => (intro wS hSw; (obtain ⟨s1, s2, s3, s4, s5, s6, s7, s8, s9, s10, s11, s12, s13⟩ := hSw; go_simp; try simp))
  try simp only [Act.put, List.setIfInBounds_toArray, List.set_cons_zero, List.set_cons_succ]
  refine wpAnyG_take (i := 6) (v := .bool false) rfl (by kernel_rfl) (fun _ _ _ h => h) (Or.inl ⟨by kernel_rfl, ?y6x72⟩) hHeld ?r6x72
  case y6x72 => (intro wS hSw; (obtain ⟨s1, s2, s3, s4, s5, s6, s7, s8, s9, s10, s11, s12, s13⟩ := hSw; go_simp))
  try simp only [Act.put, List.setIfInBounds_toArray, List.set_cons_zero, List.set_cons_succ]
  refine wpAnyG_take (i := 7) (v := .bool false) rfl (by kernel_rfl) (fun _ _ _ h => h) (Or.inl ⟨by kernel_rfl, ?y7x73⟩) hHeld ?r7x73
  case y7x73 => (intro wS hSw; (obtain ⟨s1, s2, s3, s4, s5, s6, s7, s8, s9, s10, s11, s12, s13⟩ := hSw; go_simp))
  try simp only [Act.put, List.setIfInBounds_toArray, List.set_cons_zero, List.set_cons_succ]
  refine wpAnyG_take (i := 8) (v := .pointer (some ⟨w2.heap.size, 0, none⟩)) rfl (by kernel_rfl) (fun _ _ _ h => h) (Or.inl ⟨by kernel_rfl, ?y8x74⟩) hHeld ?r8x74
  case y8x74 => (intro wS hSw; (obtain ⟨s1, s2, s3, s4, s5, s6, s7, s8, s9, s10, s11, s12, s13⟩ := hSw; go_simp))
  try simp only [Act.put, List.setIfInBounds_toArray, List.set_cons_zero, List.set_cons_succ]
  refine wpAnyG_take (i := 9) (v := .int .i64 0) rfl (by kernel_rfl) (fun _ _ _ h => h) (Or.inl ⟨by kernel_rfl, ?y9x75⟩) hHeld ?r9x75
  case y9x75 => (intro wS hSw; (obtain ⟨s1, s2, s3, s4, s5, s6, s7, s8, s9, s10, s11, s12, s13⟩ := hSw; go_simp))
  try simp only [Act.put, List.setIfInBounds_toArray, List.set_cons_zero, List.set_cons_succ]
  refine wpAnyG_take (i := 10) (v := .bool false) rfl (by kernel_rfl) (fun _ _ _ h => h) (Or.inl ⟨by kernel_rfl, ?y10x76⟩) hHeld ?r10x76
  case y10x76 => (intro wS hSw; (obtain ⟨s1, s2, s3, s4, s5, s6, s7, s8, s9, s10, s11, s12, s13⟩ := hSw; go_simp; try simp only [hcb]))
  try simp only [Act.put, List.setIfInBounds_toArray, List.set_cons_zero, List.set_cons_succ]
  refine wpAnyG_take (i := 11) (v := .bool false) rfl (by kernel_rfl) (fun _ _ _ h => h) (Or.inl ⟨by kernel_rfl, ?y11x77⟩) hHeld ?r11x77
  case y11x77 => (intro wS hSw; (obtain ⟨s1, s2, s3, s4, s5, s6, s7, s8, s9, s10, s11, s12, s13⟩ := hSw; go_simp))
  try simp only [Act.put, List.setIfInBounds_toArray, List.set_cons_zero, List.set_cons_succ]
  refine wpAnyG_take (i := 12) (v := undef) rfl (by kernel_rfl) (fun _ _ _ h => h) (Or.inr ⟨by kernel_rfl, rfl⟩) hHeld ?_
  try simp only [Act.put, List.setIfInBounds_toArray, List.set_cons_zero, List.set_cons_succ]
  refine wpAnyG_take (i := 13) (v := undef) rfl (by kernel_rfl) (fun _ _ _ h => h) (Or.inr ⟨by kernel_rfl, rfl⟩) hHeld ?_
  try simp only [Act.put, List.setIfInBounds_toArray, List.set_cons_zero, List.set_cons_succ]
  refine wpAnyG_take (i := 14) (v := undef) rfl (by kernel_rfl) (fun _ _ _ h => h) (Or.inr ⟨by kernel_rfl, rfl⟩) hHeld ?_
  try simp only [Act.put, List.setIfInBounds_toArray, List.set_cons_zero, List.set_cons_succ]
  refine wpAnyG_take (i := 15) (v := .bool false) rfl (by kernel_rfl) (fun _ _ _ h => h) (Or.inl ⟨by kernel_rfl, ?y15x78⟩) hHeld ?r15x78
  case y15x78 => (intro wS hSw; (obtain ⟨s1, s2, s3, s4, s5, s6, s7, s8, s9, s10, s11, s12, s13⟩ := hSw; go_simp))
  try simp only [Act.put, List.setIfInBounds_toArray, List.set_cons_zero, List.set_cons_succ]
  refine wpAnyG_take (i := 16) (v := .bool false) rfl (by kernel_rfl) (fun _ _ _ h => h) (Or.inl ⟨by kernel_rfl, ?y16x79⟩) hHeld ?r16x79
  case y16x79 => (intro wS hSw; (obtain ⟨s1, s2, s3, s4, s5, s6, s7, s8, s9, s10, s11, s12, s13⟩ := hSw; go_simp))
  try simp only [Act.put, List.setIfInBounds_toArray, List.set_cons_zero, List.set_cons_succ]
  refine wpAnyG_take (i := 17) (v := .bool false) rfl (by kernel_rfl) (fun _ _ _ h => h) (Or.inl ⟨by kernel_rfl, ?y17x80⟩) hHeld ?r17x80
  case y17x80 => (intro wS hSw; (obtain ⟨s1, s2, s3, s4, s5, s6, s7, s8, s9, s10, s11, s12, s13⟩ := hSw; go_simp))
  try simp only [Act.put, List.setIfInBounds_toArray, List.set_cons_zero, List.set_cons_succ]
  refine wpAnyG_take (i := 18) (v := .pointer (some ⟨w2.heap.size, 0, none⟩)) rfl (by kernel_rfl) (fun _ _ _ h => h) (Or.inl ⟨by kernel_rfl, ?y18x81⟩) hHeld ?r18x81
  case y18x81 => (intro wS hSw; (obtain ⟨s1, s2, s3, s4, s5, s6, s7, s8, s9, s10, s11, s12, s13⟩ := hSw; go_simp))
  try simp only [Act.put, List.setIfInBounds_toArray, List.set_cons_zero, List.set_cons_succ]
  refine wpAnyG_take (i := 19) (v := .int .i64 0) rfl (by kernel_rfl) (fun _ _ _ h => h) (Or.inl ⟨by kernel_rfl, ?y19x82⟩) hHeld ?r19x82
  case y19x82 => (intro wS hSw; (obtain ⟨s1, s2, s3, s4, s5, s6, s7, s8, s9, s10, s11, s12, s13⟩ := hSw; go_simp))
  try simp only [Act.put, List.setIfInBounds_toArray, List.set_cons_zero, List.set_cons_succ]
  refine wpAnyG_take (i := 20) (v := .bool true) rfl (by kernel_rfl) (fun _ _ _ h => h) (Or.inl ⟨by kernel_rfl, ?y20x83⟩) hHeld ?r20x83
  case y20x83 => (intro wS hSw; (obtain ⟨s1, s2, s3, s4, s5, s6, s7, s8, s9, s10, s11, s12, s13⟩ := hSw; go_simp; try simp only [hcb2]))
  try simp only [Act.put, List.setIfInBounds_toArray, List.set_cons_zero, List.set_cons_succ]
  refine wpAnyG_take (i := 21) (v := .bool true) rfl (by kernel_rfl) (fun _ _ _ h => h) (Or.inl ⟨by kernel_rfl, ?y21x84⟩) hHeld ?r21x84
  case y21x84 => (intro wS hSw; (obtain ⟨s1, s2, s3, s4, s5, s6, s7, s8, s9, s10, s11, s12, s13⟩ := hSw; go_simp))
  try simp only [Act.put, List.setIfInBounds_toArray, List.set_cons_zero, List.set_cons_succ]
  refine wpAnyG_take (i := 22) (v := .agg #[.int .i64 s.x, .int .i64 s.y, .bool s.far]) rfl (by kernel_rfl) (fun _ _ _ h => h) (Or.inl ⟨by kernel_rfl, ?y22x85⟩) hHeld ?r22x85
  case y22x85 => (intro wS hSw; (obtain ⟨s1, s2, s3, s4, s5, s6, s7, s8, s9, s10, s11, s12, s13⟩ := hSw; go_simp))
  try simp only [Act.put, List.setIfInBounds_toArray, List.set_cons_zero, List.set_cons_succ]
  refine wpAnyG_take (i := 23) (v := .int .i64 P) rfl (by kernel_rfl) (fun _ _ _ h => h) (Or.inl ⟨by kernel_rfl, ?y23x86⟩) hHeld ?r23x86
  case y23x86 => (intro wS hSw; (obtain ⟨s1, s2, s3, s4, s5, s6, s7, s8, s9, s10, s11, s12, s13⟩ := hSw; go_simp))
  try simp only [Act.put, List.setIfInBounds_toArray, List.set_cons_zero, List.set_cons_succ]
  refine wpAnyG_take (i := 24) (v := .int .i64 a) rfl (by kernel_rfl) (fun _ _ _ h => h) (Or.inl ⟨by kernel_rfl, ?y24x87⟩) hHeld ?r24x87
  case y24x87 => (intro wS hSw; (obtain ⟨s1, s2, s3, s4, s5, s6, s7, s8, s9, s10, s11, s12, s13⟩ := hSw; go_simp))
  try simp only [Act.put, List.setIfInBounds_toArray, List.set_cons_zero, List.set_cons_succ]
  refine wpAnyG_take (i := 25) (v := .agg #[.int .i64 q.x, .int .i64 q.y, .bool q.far]) rfl (by kernel_rfl) (fun _ _ _ h => h) (Or.inl ⟨by kernel_rfl, ?y25x88⟩) hHeld ?r25x88
  case y25x88 => (intro wS hSw; (obtain ⟨s1, s2, s3, s4, s5, s6, s7, s8, s9, s10, s11, s12, s13⟩ := hSw; go_simp))
  try simp only [Act.put, List.setIfInBounds_toArray, List.set_cons_zero, List.set_cons_succ]
  refine wpAnyG_take (i := 26) (v := .agg #[.int .i64 r.x, .int .i64 r.y, .bool r.far]) rfl (by kernel_rfl) (fun _ _ _ h => h) (Or.inl ⟨by kernel_rfl, ?y26x89⟩) hHeld ?r26x89
  case y26x89 => (intro wS hSw; (obtain ⟨s1, s2, s3, s4, s5, s6, s7, s8, s9, s10, s11, s12, s13⟩ := hSw; go_simp))
  try simp only [Act.put, List.setIfInBounds_toArray, List.set_cons_zero, List.set_cons_succ]
  refine wpAnyG_one (i := 27) rfl (by kernel_rfl) (fun K hK => ?_)
  rw [if_pos (by kernel_rfl)]
  go_simp
  refine (HAa.out _).mono ?_
  rintro e w4 ⟨rfl, k1⟩
  have HM' : Hid (Mn [(w2.heap.size, [.int .i64 0, .int .i64 0], 23), (w1.heap.size + 2, [.int .i64 q.x, .int .i64 q.y, .bool q.far, .int .i64 r.x, .int .i64 r.y, .bool r.far], 30), (w1.heap.size + 1, [.int .i64 0, .int .i64 0], 23), (w1.heap.size, [.int .i64 s.x, .int .i64 s.y, .bool s.far], 30), (w.heap.size + 1, [.int .i64 r.x, .int .i64 r.y, .bool r.far], 30), (w.heap.size, [.int .i64 q.x, .int .i64 q.y, .bool q.far], 30)] w w4) := HM.out.below k1
  clear HM k1
  have HM : Hid (Mn [(w2.heap.size, [.int .i64 0, .int .i64 0], 23), (w1.heap.size + 2, [.int .i64 q.x, .int .i64 q.y, .bool q.far, .int .i64 r.x, .int .i64 r.y, .bool r.far], 30), (w1.heap.size + 1, [.int .i64 0, .int .i64 0], 23), (w1.heap.size, [.int .i64 s.x, .int .i64 s.y, .bool s.far], 30), (w.heap.size + 1, [.int .i64 r.x, .int .i64 r.y, .bool r.far], 30), (w.heap.size, [.int .i64 q.x, .int .i64 q.y, .bool q.far], 30)] w w4) := HM'
  clear HM'
  refine hK.out _ _ ⟨(HM.out.at 3 rfl).cell 0, (HM.out.at 3 rfl).cell 1, (HM.out.at 3 rfl).cell 2, (HM.out.at 2 rfl).cell 0, (HM.out.at 2 rfl).cell 1, (HM.out.at 0 rfl).cell 0, (HM.out.at 0 rfl).cell 1, (HM.out.at 5 rfl).cell 0, (HM.out.at 5 rfl).cell 1, (HM.out.at 5 rfl).cell 2, (HM.out.at 4 rfl).cell 0, (HM.out.at 4 rfl).cell 1, (HM.out.at 4 rfl).cell 2⟩ ?_
  clear hK K
  try simp only [Act.put, List.setIfInBounds_toArray, List.set_cons_zero, List.set_cons_succ]
  clear hHeld
  have hHeld : (fun wz => World.cell? wz ⟨w1.heap.size, 0, none⟩ = some (.int .i64 s.x) ∧ World.cell? wz ⟨w1.heap.size, 1, none⟩ = some (.int .i64 s.y) ∧ World.cell? wz ⟨w1.heap.size, 2, none⟩ = some (.bool s.far) ∧ World.cell? wz ⟨w1.heap.size + 1, 0, none⟩ = some (.int .i64 0) ∧ World.cell? wz ⟨w1.heap.size + 1, 1, none⟩ = some (.int .i64 0) ∧ World.cell? wz ⟨w2.heap.size, 0, none⟩ = some (.int .i64 0) ∧ World.cell? wz ⟨w2.heap.size, 1, none⟩ = some (.int .i64 0) ∧ World.cell? wz ⟨w.heap.size, 0, none⟩ = some (.int .i64 q.x) ∧ World.cell? wz ⟨w.heap.size, 1, none⟩ = some (.int .i64 q.y) ∧ World.cell? wz ⟨w.heap.size, 2, none⟩ = some (.bool q.far) ∧ World.cell? wz ⟨w.heap.size + 1, 0, none⟩ = some (.int .i64 r.x) ∧ World.cell? wz ⟨w.heap.size + 1, 1, none⟩ = some (.int .i64 r.y) ∧ World.cell? wz ⟨w.heap.size + 1, 2, none⟩ = some (.bool r.far)) w4 := ⟨(HM.out.at 3 rfl).cell 0, (HM.out.at 3 rfl).cell 1, (HM.out.at 3 rfl).cell 2, (HM.out.at 2 rfl).cell 0, (HM.out.at 2 rfl).cell 1, (HM.out.at 0 rfl).cell 0, (HM.out.at 0 rfl).cell 1, (HM.out.at 5 rfl).cell 0, (HM.out.at 5 rfl).cell 1, (HM.out.at 5 rfl).cell 2, (HM.out.at 4 rfl).cell 0, (HM.out.at 4 rfl).cell 1, (HM.out.at 4 rfl).cell 2⟩
  refine wpAnyG_take (i := 28) (v := .bool false) rfl (by kernel_rfl) (fun _ _ _ h => h) (Or.inl ⟨by kernel_rfl, ?y28x90⟩) hHeld ?r28x90
  case y28x90 => (intro wS hSw; (obtain ⟨s1, s2, s3, s4, s5, s6, s7, s8, s9, s10, s11, s12, s13⟩ := hSw; go_simp; try simp))
  try simp only [Act.put, List.setIfInBounds_toArray, List.set_cons_zero, List.set_cons_succ]
  refine wpAnyG_take (i := 29) (v := .bool false) rfl (by kernel_rfl) (fun _ _ _ h => h) (Or.inl ⟨by kernel_rfl, ?y29x91⟩) hHeld ?r29x91
  case y29x91 => (intro wS hSw; (obtain ⟨s1, s2, s3, s4, s5, s6, s7, s8, s9, s10, s11, s12, s13⟩ := hSw; go_simp))
  try simp only [Act.put, List.setIfInBounds_toArray, List.set_cons_zero, List.set_cons_succ]
  refine wpAnyG_last (i := 30) rfl (by kernel_rfl) (by kernel_rfl) (fun K hK => ?_)
  go_simp
  refine hK.out _ _ ?_
  clear hK K
  try simp only [Act.put, List.setIfInBounds_toArray, List.set_cons_zero, List.set_cons_succ]
  refine wpAnyG_done (by kernel_rfl) ?_ _
  clear hHeld
  have f7 : World.cell? w4 ⟨w.heap.size, 0, none⟩ = some (.int .i64 q.x) := (HM.out.at 5 rfl).cell 0
  have f8 : World.cell? w4 ⟨w.heap.size, 1, none⟩ = some (.int .i64 q.y) := (HM.out.at 5 rfl).cell 1
  have f9 : World.cell? w4 ⟨w.heap.size, 2, none⟩ = some (.bool q.far) := (HM.out.at 5 rfl).cell 2
  go_wp2_with fail
  refine (HTm.out _ (HT.out.below HM.out.k)).mono ?_
  rintro e w5 ⟨rfl, k1⟩
  clear f7 f8 f9
  have HM' : Hid (Mn [(w2.heap.size, [.int .i64 0, .int .i64 0], 23), (w1.heap.size + 2, [.int .i64 q.x, .int .i64 q.y, .bool q.far, .int .i64 r.x, .int .i64 r.y, .bool r.far], 30), (w1.heap.size + 1, [.int .i64 0, .int .i64 0], 23), (w1.heap.size, [.int .i64 s.x, .int .i64 s.y, .bool s.far], 30), (w.heap.size + 1, [.int .i64 r.x, .int .i64 r.y, .bool r.far], 30), (w.heap.size, [.int .i64 q.x, .int .i64 q.y, .bool q.far], 30)] w w5) := HM.out.below k1
  clear HM k1
  have HM : Hid (Mn [(w2.heap.size, [.int .i64 0, .int .i64 0], 23), (w1.heap.size + 2, [.int .i64 q.x, .int .i64 q.y, .bool q.far, .int .i64 r.x, .int .i64 r.y, .bool r.far], 30), (w1.heap.size + 1, [.int .i64 0, .int .i64 0], 23), (w1.heap.size, [.int .i64 s.x, .int .i64 s.y, .bool s.far], 30), (w.heap.size + 1, [.int .i64 r.x, .int .i64 r.y, .bool r.far], 30), (w.heap.size, [.int .i64 q.x, .int .i64 q.y, .bool q.far], 30)] w w5) := HM'
  clear HM'
  have HM' : Hid (Mn [(w5.heap.size, [.int .i64 0, .int .i64 0, .bool false], 30), (w2.heap.size, [.int .i64 0, .int .i64 0], 23), (w1.heap.size + 2, [.int .i64 q.x, .int .i64 q.y, .bool q.far, .int .i64 r.x, .int .i64 r.y, .bool r.far], 30), (w1.heap.size + 1, [.int .i64 0, .int .i64 0], 23), (w1.heap.size, [.int .i64 s.x, .int .i64 s.y, .bool s.far], 30), (w.heap.size + 1, [.int .i64 r.x, .int .i64 r.y, .bool r.far], 30), (w.heap.size, [.int .i64 q.x, .int .i64 q.y, .bool q.far], 30)] w (World.alloc w5 (.cells #[.int .i64 0, .int .i64 0, .bool false] 30))) := HM.out.new [.int .i64 0, .int .i64 0, .bool false] 30 (by simp)
  clear HM
  have HM : Hid (Mn [(w5.heap.size, [.int .i64 0, .int .i64 0, .bool false], 30), (w2.heap.size, [.int .i64 0, .int .i64 0], 23), (w1.heap.size + 2, [.int .i64 q.x, .int .i64 q.y, .bool q.far, .int .i64 r.x, .int .i64 r.y, .bool r.far], 30), (w1.heap.size + 1, [.int .i64 0, .int .i64 0], 23), (w1.heap.size, [.int .i64 s.x, .int .i64 s.y, .bool s.far], 30), (w.heap.size + 1, [.int .i64 r.x, .int .i64 r.y, .bool r.far], 30), (w.heap.size, [.int .i64 q.x, .int .i64 q.y, .bool q.far], 30)] w (World.alloc w5 (.cells #[.int .i64 0, .int .i64 0, .bool false] 30))) := HM'
  clear HM'
  have f10 : World.cell? (World.alloc w5 (.cells #[.int .i64 0, .int .i64 0, .bool false] 30)) ⟨w1.heap.size + 1, 0, none⟩ = some (.int .i64 0) := (HM.out.at 3 rfl).cell 0
  have f11 : World.cell? (World.alloc w5 (.cells #[.int .i64 0, .int .i64 0, .bool false] 30)) ⟨w1.heap.size + 1, 1, none⟩ = some (.int .i64 0) := (HM.out.at 3 rfl).cell 1
  have f12 : World.frozen? (World.alloc w5 (.cells #[.int .i64 0, .int .i64 0, .bool false] 30)) ⟨w1.heap.size + 1, 0, none⟩ = false := (HM.out.at 3 rfl).frozen 0
  have f13 : World.frozen? (World.alloc w5 (.cells #[.int .i64 0, .int .i64 0, .bool false] 30)) ⟨w1.heap.size + 1, 1, none⟩ = false := (HM.out.at 3 rfl).frozen 1
  have HM' : Hid (Mn [(w5.heap.size, [.int .i64 0, .int .i64 0, .bool false], 30), (w2.heap.size, [.int .i64 0, .int .i64 0], 23), (w1.heap.size + 2, [.int .i64 q.x, .int .i64 q.y, .bool q.far, .int .i64 r.x, .int .i64 r.y, .bool r.far], 30), (w1.heap.size + 1, [.int .i64 3, .int .i64 0], 23), (w1.heap.size, [.int .i64 s.x, .int .i64 s.y, .bool s.far], 30), (w.heap.size + 1, [.int .i64 r.x, .int .i64 r.y, .bool r.far], 30), (w.heap.size, [.int .i64 q.x, .int .i64 q.y, .bool q.far], 30)] w (World.setCell (World.alloc w5 (.cells #[.int .i64 0, .int .i64 0, .bool false] 30)) ⟨w1.heap.size + 1, 0, none⟩ (.int .i64 3))) := HM.out.set 3 rfl 0 (.int .i64 3)
  clear HM
  have HM : Hid (Mn [(w5.heap.size, [.int .i64 0, .int .i64 0, .bool false], 30), (w2.heap.size, [.int .i64 0, .int .i64 0], 23), (w1.heap.size + 2, [.int .i64 q.x, .int .i64 q.y, .bool q.far, .int .i64 r.x, .int .i64 r.y, .bool r.far], 30), (w1.heap.size + 1, [.int .i64 3, .int .i64 0], 23), (w1.heap.size, [.int .i64 s.x, .int .i64 s.y, .bool s.far], 30), (w.heap.size + 1, [.int .i64 r.x, .int .i64 r.y, .bool r.far], 30), (w.heap.size, [.int .i64 q.x, .int .i64 q.y, .bool q.far], 30)] w (World.setCell (World.alloc w5 (.cells #[.int .i64 0, .int .i64 0, .bool false] 30)) ⟨w1.heap.size + 1, 0, none⟩ (.int .i64 3))) := HM'
  clear HM'
  have HM' : Hid (Mn [(w5.heap.size, [.int .i64 0, .int .i64 0, .bool false], 30), (w2.heap.size, [.int .i64 0, .int .i64 0], 23), (w1.heap.size + 2, [.int .i64 q.x, .int .i64 q.y, .bool q.far, .int .i64 r.x, .int .i64 r.y, .bool r.far], 30), (w1.heap.size + 1, [.int .i64 3, .int .i64 4], 23), (w1.heap.size, [.int .i64 s.x, .int .i64 s.y, .bool s.far], 30), (w.heap.size + 1, [.int .i64 r.x, .int .i64 r.y, .bool r.far], 30), (w.heap.size, [.int .i64 q.x, .int .i64 q.y, .bool q.far], 30)] w (World.setCell (World.setCell (World.alloc w5 (.cells #[.int .i64 0, .int .i64 0, .bool false] 30)) ⟨w1.heap.size + 1, 0, none⟩ (.int .i64 3)) ⟨w1.heap.size + 1, 1, none⟩ (.int .i64 4))) := HM.out.set 3 rfl 1 (.int .i64 4)
  clear HM
  have HM : Hid (Mn [(w5.heap.size, [.int .i64 0, .int .i64 0, .bool false], 30), (w2.heap.size, [.int .i64 0, .int .i64 0], 23), (w1.heap.size + 2, [.int .i64 q.x, .int .i64 q.y, .bool q.far, .int .i64 r.x, .int .i64 r.y, .bool r.far], 30), (w1.heap.size + 1, [.int .i64 3, .int .i64 4], 23), (w1.heap.size, [.int .i64 s.x, .int .i64 s.y, .bool s.far], 30), (w.heap.size + 1, [.int .i64 r.x, .int .i64 r.y, .bool r.far], 30), (w.heap.size, [.int .i64 q.x, .int .i64 q.y, .bool q.far], 30)] w (World.setCell (World.setCell (World.alloc w5 (.cells #[.int .i64 0, .int .i64 0, .bool false] 30)) ⟨w1.heap.size + 1, 0, none⟩ (.int .i64 3)) ⟨w1.heap.size + 1, 1, none⟩ (.int .i64 4))) := HM'
  clear HM'
  have f14 : World.cell? (World.setCell (World.setCell (World.alloc w5 (.cells #[.int .i64 0, .int .i64 0, .bool false] 30)) ⟨w1.heap.size + 1, 0, none⟩ (.int .i64 3)) ⟨w1.heap.size + 1, 1, none⟩ (.int .i64 4)) ⟨w.heap.size, 0, none⟩ = some (.int .i64 q.x) := (HM.out.at 6 rfl).cell 0
  have f15 : World.cell? (World.setCell (World.setCell (World.alloc w5 (.cells #[.int .i64 0, .int .i64 0, .bool false] 30)) ⟨w1.heap.size + 1, 0, none⟩ (.int .i64 3)) ⟨w1.heap.size + 1, 1, none⟩ (.int .i64 4)) ⟨w.heap.size, 1, none⟩ = some (.int .i64 q.y) := (HM.out.at 6 rfl).cell 1
  have f16 : World.cell? (World.setCell (World.setCell (World.alloc w5 (.cells #[.int .i64 0, .int .i64 0, .bool false] 30)) ⟨w1.heap.size + 1, 0, none⟩ (.int .i64 3)) ⟨w1.heap.size + 1, 1, none⟩ (.int .i64 4)) ⟨w.heap.size, 2, none⟩ = some (.bool q.far) := (HM.out.at 6 rfl).cell 2
  go_wp2_with fail
  refine (HOr.out _ (HT.out.below HM.out.k)).mono ?_
  rintro e w6 ⟨rfl, k1⟩
  clear f10 f11 f12 f13 f14 f15 f16
  have HM' : Hid (Mn [(w5.heap.size, [.int .i64 0, .int .i64 0, .bool false], 30), (w2.heap.size, [.int .i64 0, .int .i64 0], 23), (w1.heap.size + 2, [.int .i64 q.x, .int .i64 q.y, .bool q.far, .int .i64 r.x, .int .i64 r.y, .bool r.far], 30), (w1.heap.size + 1, [.int .i64 3, .int .i64 4], 23), (w1.heap.size, [.int .i64 s.x, .int .i64 s.y, .bool s.far], 30), (w.heap.size + 1, [.int .i64 r.x, .int .i64 r.y, .bool r.far], 30), (w.heap.size, [.int .i64 q.x, .int .i64 q.y, .bool q.far], 30)] w w6) := HM.out.below k1
  clear HM k1
  have HM : Hid (Mn [(w5.heap.size, [.int .i64 0, .int .i64 0, .bool false], 30), (w2.heap.size, [.int .i64 0, .int .i64 0], 23), (w1.heap.size + 2, [.int .i64 q.x, .int .i64 q.y, .bool q.far, .int .i64 r.x, .int .i64 r.y, .bool r.far], 30), (w1.heap.size + 1, [.int .i64 3, .int .i64 4], 23), (w1.heap.size, [.int .i64 s.x, .int .i64 s.y, .bool s.far], 30), (w.heap.size + 1, [.int .i64 r.x, .int .i64 r.y, .bool r.far], 30), (w.heap.size, [.int .i64 q.x, .int .i64 q.y, .bool q.far], 30)] w w6) := HM'
  clear HM'
  have HM' : Hid (Mn [(w6.heap.size, [.int .i64 0, .int .i64 0], 23), (w5.heap.size, [.int .i64 0, .int .i64 0, .bool false], 30), (w2.heap.size, [.int .i64 0, .int .i64 0], 23), (w1.heap.size + 2, [.int .i64 q.x, .int .i64 q.y, .bool q.far, .int .i64 r.x, .int .i64 r.y, .bool r.far], 30), (w1.heap.size + 1, [.int .i64 3, .int .i64 4], 23), (w1.heap.size, [.int .i64 s.x, .int .i64 s.y, .bool s.far], 30), (w.heap.size + 1, [.int .i64 r.x, .int .i64 r.y, .bool r.far], 30), (w.heap.size, [.int .i64 q.x, .int .i64 q.y, .bool q.far], 30)] w (World.alloc w6 (.cells #[.int .i64 0, .int .i64 0] 23))) := HM.out.new [.int .i64 0, .int .i64 0] 23 (by simp)
  clear HM
  have HM : Hid (Mn [(w6.heap.size, [.int .i64 0, .int .i64 0], 23), (w5.heap.size, [.int .i64 0, .int .i64 0, .bool false], 30), (w2.heap.size, [.int .i64 0, .int .i64 0], 23), (w1.heap.size + 2, [.int .i64 q.x, .int .i64 q.y, .bool q.far, .int .i64 r.x, .int .i64 r.y, .bool r.far], 30), (w1.heap.size + 1, [.int .i64 3, .int .i64 4], 23), (w1.heap.size, [.int .i64 s.x, .int .i64 s.y, .bool s.far], 30), (w.heap.size + 1, [.int .i64 r.x, .int .i64 r.y, .bool r.far], 30), (w.heap.size, [.int .i64 q.x, .int .i64 q.y, .bool q.far], 30)] w (World.alloc w6 (.cells #[.int .i64 0, .int .i64 0] 23))) := HM'
  clear HM'
  have f17 : World.cell? (World.alloc w6 (.cells #[.int .i64 0, .int .i64 0] 23)) ⟨w.heap.size, 0, none⟩ = some (.int .i64 q.x) := (HM.out.at 7 rfl).cell 0
  have f18 : World.cell? (World.alloc w6 (.cells #[.int .i64 0, .int .i64 0] 23)) ⟨w.heap.size, 1, none⟩ = some (.int .i64 q.y) := (HM.out.at 7 rfl).cell 1
  have f19 : World.cell? (World.alloc w6 (.cells #[.int .i64 0, .int .i64 0] 23)) ⟨w.heap.size, 2, none⟩ = some (.bool q.far) := (HM.out.at 7 rfl).cell 2
  go_wp2_with fail
  have HM' : Hid (Mn [(w6.heap.size + 1, [.int .i64 q.x, .int .i64 q.y, .bool q.far], 30), (w6.heap.size, [.int .i64 0, .int .i64 0], 23), (w5.heap.size, [.int .i64 0, .int .i64 0, .bool false], 30), (w2.heap.size, [.int .i64 0, .int .i64 0], 23), (w1.heap.size + 2, [.int .i64 q.x, .int .i64 q.y, .bool q.far, .int .i64 r.x, .int .i64 r.y, .bool r.far], 30), (w1.heap.size + 1, [.int .i64 3, .int .i64 4], 23), (w1.heap.size, [.int .i64 s.x, .int .i64 s.y, .bool s.far], 30), (w.heap.size + 1, [.int .i64 r.x, .int .i64 r.y, .bool r.far], 30), (w.heap.size, [.int .i64 q.x, .int .i64 q.y, .bool q.far], 30)] w (World.alloc (World.alloc w6 (.cells #[.int .i64 0, .int .i64 0] 23)) (.cells #[.int .i64 q.x, .int .i64 q.y, .bool q.far] 30))) := HM.out.new [.int .i64 q.x, .int .i64 q.y, .bool q.far] 30 (by simp)
  clear HM
  have HM : Hid (Mn [(w6.heap.size + 1, [.int .i64 q.x, .int .i64 q.y, .bool q.far], 30), (w6.heap.size, [.int .i64 0, .int .i64 0], 23), (w5.heap.size, [.int .i64 0, .int .i64 0, .bool false], 30), (w2.heap.size, [.int .i64 0, .int .i64 0], 23), (w1.heap.size + 2, [.int .i64 q.x, .int .i64 q.y, .bool q.far, .int .i64 r.x, .int .i64 r.y, .bool r.far], 30), (w1.heap.size + 1, [.int .i64 3, .int .i64 4], 23), (w1.heap.size, [.int .i64 s.x, .int .i64 s.y, .bool s.far], 30), (w.heap.size + 1, [.int .i64 r.x, .int .i64 r.y, .bool r.far], 30), (w.heap.size, [.int .i64 q.x, .int .i64 q.y, .bool q.far], 30)] w (World.alloc (World.alloc w6 (.cells #[.int .i64 0, .int .i64 0] 23)) (.cells #[.int .i64 q.x, .int .i64 q.y, .bool q.far] 30))) := HM'
  clear HM'
  refine (HOq.out _ _ (PS.one (q := q) (HM.out.at 0 rfl))).mono ?_
  rintro e w7 ⟨rfl, k1⟩
  clear f17 f18 f19
  have HM' : Hid (Mn [(w6.heap.size + 1, [.int .i64 q.x, .int .i64 q.y, .bool q.far], 30), (w6.heap.size, [.int .i64 0, .int .i64 0], 23), (w5.heap.size, [.int .i64 0, .int .i64 0, .bool false], 30), (w2.heap.size, [.int .i64 0, .int .i64 0], 23), (w1.heap.size + 2, [.int .i64 q.x, .int .i64 q.y, .bool q.far, .int .i64 r.x, .int .i64 r.y, .bool r.far], 30), (w1.heap.size + 1, [.int .i64 3, .int .i64 4], 23), (w1.heap.size, [.int .i64 s.x, .int .i64 s.y, .bool s.far], 30), (w.heap.size + 1, [.int .i64 r.x, .int .i64 r.y, .bool r.far], 30), (w.heap.size, [.int .i64 q.x, .int .i64 q.y, .bool q.far], 30)] w w7) := HM.out.below k1
  clear HM k1
  have HM : Hid (Mn [(w6.heap.size + 1, [.int .i64 q.x, .int .i64 q.y, .bool q.far], 30), (w6.heap.size, [.int .i64 0, .int .i64 0], 23), (w5.heap.size, [.int .i64 0, .int .i64 0, .bool false], 30), (w2.heap.size, [.int .i64 0, .int .i64 0], 23), (w1.heap.size + 2, [.int .i64 q.x, .int .i64 q.y, .bool q.far, .int .i64 r.x, .int .i64 r.y, .bool r.far], 30), (w1.heap.size + 1, [.int .i64 3, .int .i64 4], 23), (w1.heap.size, [.int .i64 s.x, .int .i64 s.y, .bool s.far], 30), (w.heap.size + 1, [.int .i64 r.x, .int .i64 r.y, .bool r.far], 30), (w.heap.size, [.int .i64 q.x, .int .i64 q.y, .bool q.far], 30)] w w7) := HM'
  clear HM'
  have f20 : World.cell? w7 ⟨w2.heap.size, 0, none⟩ = some (.int .i64 0) := (HM.out.at 3 rfl).cell 0
  have f21 : World.cell? w7 ⟨w2.heap.size, 1, none⟩ = some (.int .i64 0) := (HM.out.at 3 rfl).cell 1
  have f22 : World.frozen? w7 ⟨w2.heap.size, 0, none⟩ = false := (HM.out.at 3 rfl).frozen 0
  have f23 : World.frozen? w7 ⟨w2.heap.size, 1, none⟩ = false := (HM.out.at 3 rfl).frozen 1
  have HM' : Hid (Mn [(w6.heap.size + 1, [.int .i64 q.x, .int .i64 q.y, .bool q.far], 30), (w6.heap.size, [.int .i64 0, .int .i64 0], 23), (w5.heap.size, [.int .i64 0, .int .i64 0, .bool false], 30), (w2.heap.size, [.int .i64 0, .int .i64 0], 23), (w1.heap.size + 2, [.int .i64 q.x, .int .i64 q.y, .bool q.far, .int .i64 r.x, .int .i64 r.y, .bool r.far], 30), (w1.heap.size + 1, [.int .i64 3, .int .i64 4], 23), (w1.heap.size, [.int .i64 s.x, .int .i64 s.y, .bool s.far], 30), (w.heap.size + 1, [.int .i64 r.x, .int .i64 r.y, .bool r.far], 30), (w.heap.size, [.int .i64 q.x, .int .i64 q.y, .bool q.far], 30)] w (World.setCell w7 ⟨w2.heap.size, 0, none⟩ (.int .i64 0))) := HM.out.set 3 rfl 0 (.int .i64 0)
  clear HM
  have HM : Hid (Mn [(w6.heap.size + 1, [.int .i64 q.x, .int .i64 q.y, .bool q.far], 30), (w6.heap.size, [.int .i64 0, .int .i64 0], 23), (w5.heap.size, [.int .i64 0, .int .i64 0, .bool false], 30), (w2.heap.size, [.int .i64 0, .int .i64 0], 23), (w1.heap.size + 2, [.int .i64 q.x, .int .i64 q.y, .bool q.far, .int .i64 r.x, .int .i64 r.y, .bool r.far], 30), (w1.heap.size + 1, [.int .i64 3, .int .i64 4], 23), (w1.heap.size, [.int .i64 s.x, .int .i64 s.y, .bool s.far], 30), (w.heap.size + 1, [.int .i64 r.x, .int .i64 r.y, .bool r.far], 30), (w.heap.size, [.int .i64 q.x, .int .i64 q.y, .bool q.far], 30)] w (World.setCell w7 ⟨w2.heap.size, 0, none⟩ (.int .i64 0))) := HM'
  clear HM'
  have HM' : Hid (Mn [(w6.heap.size + 1, [.int .i64 q.x, .int .i64 q.y, .bool q.far], 30), (w6.heap.size, [.int .i64 0, .int .i64 0], 23), (w5.heap.size, [.int .i64 0, .int .i64 0, .bool false], 30), (w2.heap.size, [.int .i64 0, .int .i64 0], 23), (w1.heap.size + 2, [.int .i64 q.x, .int .i64 q.y, .bool q.far, .int .i64 r.x, .int .i64 r.y, .bool r.far], 30), (w1.heap.size + 1, [.int .i64 3, .int .i64 4], 23), (w1.heap.size, [.int .i64 s.x, .int .i64 s.y, .bool s.far], 30), (w.heap.size + 1, [.int .i64 r.x, .int .i64 r.y, .bool r.far], 30), (w.heap.size, [.int .i64 q.x, .int .i64 q.y, .bool q.far], 30)] w (World.setCell (World.setCell w7 ⟨w2.heap.size, 0, none⟩ (.int .i64 0)) ⟨w2.heap.size, 1, none⟩ (.int .i64 0))) := HM.out.set 3 rfl 1 (.int .i64 0)
  clear HM
  have HM : Hid (Mn [(w6.heap.size + 1, [.int .i64 q.x, .int .i64 q.y, .bool q.far], 30), (w6.heap.size, [.int .i64 0, .int .i64 0], 23), (w5.heap.size, [.int .i64 0, .int .i64 0, .bool false], 30), (w2.heap.size, [.int .i64 0, .int .i64 0], 23), (w1.heap.size + 2, [.int .i64 q.x, .int .i64 q.y, .bool q.far, .int .i64 r.x, .int .i64 r.y, .bool r.far], 30), (w1.heap.size + 1, [.int .i64 3, .int .i64 4], 23), (w1.heap.size, [.int .i64 s.x, .int .i64 s.y, .bool s.far], 30), (w.heap.size + 1, [.int .i64 r.x, .int .i64 r.y, .bool r.far], 30), (w.heap.size, [.int .i64 q.x, .int .i64 q.y, .bool q.far], 30)] w (World.setCell (World.setCell w7 ⟨w2.heap.size, 0, none⟩ (.int .i64 0)) ⟨w2.heap.size, 1, none⟩ (.int .i64 0))) := HM'
  clear HM'
  have f24 : World.cell? (World.setCell (World.setCell w7 ⟨w2.heap.size, 0, none⟩ (.int .i64 0)) ⟨w2.heap.size, 1, none⟩ (.int .i64 0)) ⟨w2.heap.size, 0, none⟩ = some (.int .i64 0) := (HM.out.at 3 rfl).cell 0
  have f25 : World.cell? (World.setCell (World.setCell w7 ⟨w2.heap.size, 0, none⟩ (.int .i64 0)) ⟨w2.heap.size, 1, none⟩ (.int .i64 0)) ⟨w2.heap.size, 1, none⟩ = some (.int .i64 0) := (HM.out.at 3 rfl).cell 1
  have HM' : Hid (Mn [(w7.heap.size, [.int .i64 0, .int .i64 0], 23), (w6.heap.size + 1, [.int .i64 q.x, .int .i64 q.y, .bool q.far], 30), (w6.heap.size, [.int .i64 0, .int .i64 0], 23), (w5.heap.size, [.int .i64 0, .int .i64 0, .bool false], 30), (w2.heap.size, [.int .i64 0, .int .i64 0], 23), (w1.heap.size + 2, [.int .i64 q.x, .int .i64 q.y, .bool q.far, .int .i64 r.x, .int .i64 r.y, .bool r.far], 30), (w1.heap.size + 1, [.int .i64 3, .int .i64 4], 23), (w1.heap.size, [.int .i64 s.x, .int .i64 s.y, .bool s.far], 30), (w.heap.size + 1, [.int .i64 r.x, .int .i64 r.y, .bool r.far], 30), (w.heap.size, [.int .i64 q.x, .int .i64 q.y, .bool q.far], 30)] w (World.alloc (World.setCell (World.setCell w7 ⟨w2.heap.size, 0, none⟩ (.int .i64 0)) ⟨w2.heap.size, 1, none⟩ (.int .i64 0)) (.cells #[.int .i64 0, .int .i64 0] 23))) := HM.out.new [.int .i64 0, .int .i64 0] 23 (by simp)
  clear HM
  have HM : Hid (Mn [(w7.heap.size, [.int .i64 0, .int .i64 0], 23), (w6.heap.size + 1, [.int .i64 q.x, .int .i64 q.y, .bool q.far], 30), (w6.heap.size, [.int .i64 0, .int .i64 0], 23), (w5.heap.size, [.int .i64 0, .int .i64 0, .bool false], 30), (w2.heap.size, [.int .i64 0, .int .i64 0], 23), (w1.heap.size + 2, [.int .i64 q.x, .int .i64 q.y, .bool q.far, .int .i64 r.x, .int .i64 r.y, .bool r.far], 30), (w1.heap.size + 1, [.int .i64 3, .int .i64 4], 23), (w1.heap.size, [.int .i64 s.x, .int .i64 s.y, .bool s.far], 30), (w.heap.size + 1, [.int .i64 r.x, .int .i64 r.y, .bool r.far], 30), (w.heap.size, [.int .i64 q.x, .int .i64 q.y, .bool q.far], 30)] w (World.alloc (World.setCell (World.setCell w7 ⟨w2.heap.size, 0, none⟩ (.int .i64 0)) ⟨w2.heap.size, 1, none⟩ (.int .i64 0)) (.cells #[.int .i64 0, .int .i64 0] 23))) := HM'
  clear HM'
  have f26 : World.cell? (World.alloc (World.setCell (World.setCell w7 ⟨w2.heap.size, 0, none⟩ (.int .i64 0)) ⟨w2.heap.size, 1, none⟩ (.int .i64 0)) (.cells #[.int .i64 0, .int .i64 0] 23)) ⟨w2.heap.size, 0, none⟩ = some (.int .i64 0) := (HM.out.at 4 rfl).cell 0
  have f27 : World.cell? (World.alloc (World.setCell (World.setCell w7 ⟨w2.heap.size, 0, none⟩ (.int .i64 0)) ⟨w2.heap.size, 1, none⟩ (.int .i64 0)) (.cells #[.int .i64 0, .int .i64 0] 23)) ⟨w2.heap.size, 1, none⟩ = some (.int .i64 0) := (HM.out.at 4 rfl).cell 1
  go_wp2_with fail
  refine (number_any _ _).mono ?_
  rintro e w8 ⟨rfl, hw8⟩
  rw [hw8, hnum]
  clear hw8 w8
  go_wp2_with fail
  refine (F_any 3 4 _).mono ?_
  rintro e w8 ⟨rfl, k1⟩
  clear f20 f21 f22 f23 f24 f25 f26 f27
  have HM' : Hid (Mn [(w7.heap.size, [.int .i64 0, .int .i64 0], 23), (w6.heap.size + 1, [.int .i64 q.x, .int .i64 q.y, .bool q.far], 30), (w6.heap.size, [.int .i64 0, .int .i64 0], 23), (w5.heap.size, [.int .i64 0, .int .i64 0, .bool false], 30), (w2.heap.size, [.int .i64 0, .int .i64 0], 23), (w1.heap.size + 2, [.int .i64 q.x, .int .i64 q.y, .bool q.far, .int .i64 r.x, .int .i64 r.y, .bool r.far], 30), (w1.heap.size + 1, [.int .i64 3, .int .i64 4], 23), (w1.heap.size, [.int .i64 s.x, .int .i64 s.y, .bool s.far], 30), (w.heap.size + 1, [.int .i64 r.x, .int .i64 r.y, .bool r.far], 30), (w.heap.size, [.int .i64 q.x, .int .i64 q.y, .bool q.far], 30)] w w8) := HM.out.below k1
  clear HM k1
  have HM : Hid (Mn [(w7.heap.size, [.int .i64 0, .int .i64 0], 23), (w6.heap.size + 1, [.int .i64 q.x, .int .i64 q.y, .bool q.far], 30), (w6.heap.size, [.int .i64 0, .int .i64 0], 23), (w5.heap.size, [.int .i64 0, .int .i64 0, .bool false], 30), (w2.heap.size, [.int .i64 0, .int .i64 0], 23), (w1.heap.size + 2, [.int .i64 q.x, .int .i64 q.y, .bool q.far, .int .i64 r.x, .int .i64 r.y, .bool r.far], 30), (w1.heap.size + 1, [.int .i64 3, .int .i64 4], 23), (w1.heap.size, [.int .i64 s.x, .int .i64 s.y, .bool s.far], 30), (w.heap.size + 1, [.int .i64 r.x, .int .i64 r.y, .bool r.far], 30), (w.heap.size, [.int .i64 q.x, .int .i64 q.y, .bool q.far], 30)] w w8) := HM'
  clear HM'
  have f28 : World.cell? w8 ⟨w2.heap.size, 0, none⟩ = some (.int .i64 0) := (HM.out.at 4 rfl).cell 0
  have f29 : World.cell? w8 ⟨w2.heap.size, 1, none⟩ = some (.int .i64 0) := (HM.out.at 4 rfl).cell 1
  have f30 : World.frozen? w8 ⟨w2.heap.size, 0, none⟩ = false := (HM.out.at 4 rfl).frozen 0
  have f31 : World.frozen? w8 ⟨w2.heap.size, 1, none⟩ = false := (HM.out.at 4 rfl).frozen 1
  have HM' : Hid (Mn [(w7.heap.size, [.int .i64 0, .int .i64 0], 23), (w6.heap.size + 1, [.int .i64 q.x, .int .i64 q.y, .bool q.far], 30), (w6.heap.size, [.int .i64 0, .int .i64 0], 23), (w5.heap.size, [.int .i64 0, .int .i64 0, .bool false], 30), (w2.heap.size, [.int .i64 3, .int .i64 0], 23), (w1.heap.size + 2, [.int .i64 q.x, .int .i64 q.y, .bool q.far, .int .i64 r.x, .int .i64 r.y, .bool r.far], 30), (w1.heap.size + 1, [.int .i64 3, .int .i64 4], 23), (w1.heap.size, [.int .i64 s.x, .int .i64 s.y, .bool s.far], 30), (w.heap.size + 1, [.int .i64 r.x, .int .i64 r.y, .bool r.far], 30), (w.heap.size, [.int .i64 q.x, .int .i64 q.y, .bool q.far], 30)] w (World.setCell w8 ⟨w2.heap.size, 0, none⟩ (.int .i64 3))) := HM.out.set 4 rfl 0 (.int .i64 3)
  clear HM
  have HM : Hid (Mn [(w7.heap.size, [.int .i64 0, .int .i64 0], 23), (w6.heap.size + 1, [.int .i64 q.x, .int .i64 q.y, .bool q.far], 30), (w6.heap.size, [.int .i64 0, .int .i64 0], 23), (w5.heap.size, [.int .i64 0, .int .i64 0, .bool false], 30), (w2.heap.size, [.int .i64 3, .int .i64 0], 23), (w1.heap.size + 2, [.int .i64 q.x, .int .i64 q.y, .bool q.far, .int .i64 r.x, .int .i64 r.y, .bool r.far], 30), (w1.heap.size + 1, [.int .i64 3, .int .i64 4], 23), (w1.heap.size, [.int .i64 s.x, .int .i64 s.y, .bool s.far], 30), (w.heap.size + 1, [.int .i64 r.x, .int .i64 r.y, .bool r.far], 30), (w.heap.size, [.int .i64 q.x, .int .i64 q.y, .bool q.far], 30)] w (World.setCell w8 ⟨w2.heap.size, 0, none⟩ (.int .i64 3))) := HM'
  clear HM'
  have HM' : Hid (Mn [(w7.heap.size, [.int .i64 0, .int .i64 0], 23), (w6.heap.size + 1, [.int .i64 q.x, .int .i64 q.y, .bool q.far], 30), (w6.heap.size, [.int .i64 0, .int .i64 0], 23), (w5.heap.size, [.int .i64 0, .int .i64 0, .bool false], 30), (w2.heap.size, [.int .i64 3, .int .i64 4], 23), (w1.heap.size + 2, [.int .i64 q.x, .int .i64 q.y, .bool q.far, .int .i64 r.x, .int .i64 r.y, .bool r.far], 30), (w1.heap.size + 1, [.int .i64 3, .int .i64 4], 23), (w1.heap.size, [.int .i64 s.x, .int .i64 s.y, .bool s.far], 30), (w.heap.size + 1, [.int .i64 r.x, .int .i64 r.y, .bool r.far], 30), (w.heap.size, [.int .i64 q.x, .int .i64 q.y, .bool q.far], 30)] w (World.setCell (World.setCell w8 ⟨w2.heap.size, 0, none⟩ (.int .i64 3)) ⟨w2.heap.size, 1, none⟩ (.int .i64 4))) := HM.out.set 4 rfl 1 (.int .i64 4)
  clear HM
  have HM : Hid (Mn [(w7.heap.size, [.int .i64 0, .int .i64 0], 23), (w6.heap.size + 1, [.int .i64 q.x, .int .i64 q.y, .bool q.far], 30), (w6.heap.size, [.int .i64 0, .int .i64 0], 23), (w5.heap.size, [.int .i64 0, .int .i64 0, .bool false], 30), (w2.heap.size, [.int .i64 3, .int .i64 4], 23), (w1.heap.size + 2, [.int .i64 q.x, .int .i64 q.y, .bool q.far, .int .i64 r.x, .int .i64 r.y, .bool r.far], 30), (w1.heap.size + 1, [.int .i64 3, .int .i64 4], 23), (w1.heap.size, [.int .i64 s.x, .int .i64 s.y, .bool s.far], 30), (w.heap.size + 1, [.int .i64 r.x, .int .i64 r.y, .bool r.far], 30), (w.heap.size, [.int .i64 q.x, .int .i64 q.y, .bool q.far], 30)] w (World.setCell (World.setCell w8 ⟨w2.heap.size, 0, none⟩ (.int .i64 3)) ⟨w2.heap.size, 1, none⟩ (.int .i64 4))) := HM'
  clear HM'
  have f32 : World.cell? (World.setCell (World.setCell w8 ⟨w2.heap.size, 0, none⟩ (.int .i64 3)) ⟨w2.heap.size, 1, none⟩ (.int .i64 4)) ⟨w2.heap.size, 0, none⟩ = some (.int .i64 3) := (HM.out.at 4 rfl).cell 0
  have f33 : World.cell? (World.setCell (World.setCell w8 ⟨w2.heap.size, 0, none⟩ (.int .i64 3)) ⟨w2.heap.size, 1, none⟩ (.int .i64 4)) ⟨w2.heap.size, 1, none⟩ = some (.int .i64 4) := (HM.out.at 4 rfl).cell 1
  have f34 : World.cell? (World.setCell (World.setCell w8 ⟨w2.heap.size, 0, none⟩ (.int .i64 3)) ⟨w2.heap.size, 1, none⟩ (.int .i64 4)) ⟨w1.heap.size + 1, 0, none⟩ = some (.int .i64 3) := (HM.out.at 6 rfl).cell 0
  have f35 : World.cell? (World.setCell (World.setCell w8 ⟨w2.heap.size, 0, none⟩ (.int .i64 3)) ⟨w2.heap.size, 1, none⟩ (.int .i64 4)) ⟨w1.heap.size + 1, 1, none⟩ = some (.int .i64 4) := (HM.out.at 6 rfl).cell 1
  have f36 : World.cell? (World.setCell (World.setCell w8 ⟨w2.heap.size, 0, none⟩ (.int .i64 3)) ⟨w2.heap.size, 1, none⟩ (.int .i64 4)) ⟨w6.heap.size, 0, none⟩ = some (.int .i64 0) := (HM.out.at 2 rfl).cell 0
  have f37 : World.cell? (World.setCell (World.setCell w8 ⟨w2.heap.size, 0, none⟩ (.int .i64 3)) ⟨w2.heap.size, 1, none⟩ (.int .i64 4)) ⟨w6.heap.size, 1, none⟩ = some (.int .i64 0) := (HM.out.at 2 rfl).cell 1
  have f38 : World.cell? (World.setCell (World.setCell w8 ⟨w2.heap.size, 0, none⟩ (.int .i64 3)) ⟨w2.heap.size, 1, none⟩ (.int .i64 4)) ⟨w7.heap.size, 0, none⟩ = some (.int .i64 0) := (HM.out.at 0 rfl).cell 0
  have f39 : World.cell? (World.setCell (World.setCell w8 ⟨w2.heap.size, 0, none⟩ (.int .i64 3)) ⟨w2.heap.size, 1, none⟩ (.int .i64 4)) ⟨w7.heap.size, 1, none⟩ = some (.int .i64 0) := (HM.out.at 0 rfl).cell 1
  have f40 : World.cell? (World.setCell (World.setCell w8 ⟨w2.heap.size, 0, none⟩ (.int .i64 3)) ⟨w2.heap.size, 1, none⟩ (.int .i64 4)) ⟨w5.heap.size, 0, none⟩ = some (.int .i64 0) := (HM.out.at 3 rfl).cell 0
  have f41 : World.cell? (World.setCell (World.setCell w8 ⟨w2.heap.size, 0, none⟩ (.int .i64 3)) ⟨w2.heap.size, 1, none⟩ (.int .i64 4)) ⟨w5.heap.size, 1, none⟩ = some (.int .i64 0) := (HM.out.at 3 rfl).cell 1
  have f42 : World.cell? (World.setCell (World.setCell w8 ⟨w2.heap.size, 0, none⟩ (.int .i64 3)) ⟨w2.heap.size, 1, none⟩ (.int .i64 4)) ⟨w5.heap.size, 2, none⟩ = some (.bool false) := (HM.out.at 3 rfl).cell 2
  have f43 : World.cell? (World.setCell (World.setCell w8 ⟨w2.heap.size, 0, none⟩ (.int .i64 3)) ⟨w2.heap.size, 1, none⟩ (.int .i64 4)) ⟨w.heap.size, 0, none⟩ = some (.int .i64 q.x) := (HM.out.at 9 rfl).cell 0
  have f44 : World.cell? (World.setCell (World.setCell w8 ⟨w2.heap.size, 0, none⟩ (.int .i64 3)) ⟨w2.heap.size, 1, none⟩ (.int .i64 4)) ⟨w.heap.size, 1, none⟩ = some (.int .i64 q.y) := (HM.out.at 9 rfl).cell 1
  have f45 : World.cell? (World.setCell (World.setCell w8 ⟨w2.heap.size, 0, none⟩ (.int .i64 3)) ⟨w2.heap.size, 1, none⟩ (.int .i64 4)) ⟨w.heap.size, 2, none⟩ = some (.bool q.far) := (HM.out.at 9 rfl).cell 2
  go_wp2_with fail
  refine (HCo.out _).mono ?_
  rintro e w9 ⟨rfl, k1⟩
  clear f28 f29 f30 f31 f32 f33 f34 f35 f36 f37 f38 f39 f40 f41 f42 f43 f44 f45
  have HM' : Hid (Mn [(w7.heap.size, [.int .i64 0, .int .i64 0], 23), (w6.heap.size + 1, [.int .i64 q.x, .int .i64 q.y, .bool q.far], 30), (w6.heap.size, [.int .i64 0, .int .i64 0], 23), (w5.heap.size, [.int .i64 0, .int .i64 0, .bool false], 30), (w2.heap.size, [.int .i64 3, .int .i64 4], 23), (w1.heap.size + 2, [.int .i64 q.x, .int .i64 q.y, .bool q.far, .int .i64 r.x, .int .i64 r.y, .bool r.far], 30), (w1.heap.size + 1, [.int .i64 3, .int .i64 4], 23), (w1.heap.size, [.int .i64 s.x, .int .i64 s.y, .bool s.far], 30), (w.heap.size + 1, [.int .i64 r.x, .int .i64 r.y, .bool r.far], 30), (w.heap.size, [.int .i64 q.x, .int .i64 q.y, .bool q.far], 30)] w w9) := HM.out.below k1
  clear HM k1
  have HM : Hid (Mn [(w7.heap.size, [.int .i64 0, .int .i64 0], 23), (w6.heap.size + 1, [.int .i64 q.x, .int .i64 q.y, .bool q.far], 30), (w6.heap.size, [.int .i64 0, .int .i64 0], 23), (w5.heap.size, [.int .i64 0, .int .i64 0, .bool false], 30), (w2.heap.size, [.int .i64 3, .int .i64 4], 23), (w1.heap.size + 2, [.int .i64 q.x, .int .i64 q.y, .bool q.far, .int .i64 r.x, .int .i64 r.y, .bool r.far], 30), (w1.heap.size + 1, [.int .i64 3, .int .i64 4], 23), (w1.heap.size, [.int .i64 s.x, .int .i64 s.y, .bool s.far], 30), (w.heap.size + 1, [.int .i64 r.x, .int .i64 r.y, .bool r.far], 30), (w.heap.size, [.int .i64 q.x, .int .i64 q.y, .bool q.far], 30)] w w9) := HM'
  clear HM'
  have f46 : World.cell? w9 ⟨w2.heap.size, 0, none⟩ = some (.int .i64 3) := (HM.out.at 4 rfl).cell 0
  have f47 : World.cell? w9 ⟨w2.heap.size, 1, none⟩ = some (.int .i64 4) := (HM.out.at 4 rfl).cell 1
  go_wp2
  go_ret
  exact ⟨rfl, HM.out.k⟩

set_option maxHeartbeats 8000000 in
theorem adds_ok_num (P : Nat) (a b n : Int) (q r : Pn) (k : Nat) (w : World) (hv : Cv P a b) (hq : On P a b q) (hr : On P a b r) (hk : Od P a q k) (hk2 : k ≤ 4000001) (hnum : numB n = true) (hT : Tb w) :
    Calls Tryd.prog 4 #[.int .i64 P, .int .i64 a, .int .i64 b, .int .i64 n, Pv q, Pv r] w fun e w' => e = .returned (.bool true) ∧ Below w.heap.size w w' := by
  have HBg : Hid (∀ w, Tb w → Calls Tryd.prog 10 #[] w fun e w' => e = .returned (.bool true) ∧ Below w.heap.size w w') := fun w h => curveBegun_any w h
  have HAd : Hid (∀ w, Tb w → Calls Tryd.prog 14 #[.int .i64 P, .int .i64 a, .int .i64 b, Pv q, Pv r] w fun e w' => e = .returned (.tuple #[Pv (padd P a q r), .agg #[.int .i64 0, .int .i64 0]]) ∧ Below w.heap.size w w') := fun w hT => Add_ok P a b q r w (of_ok hv (by simp [hq, hr])) hv hq hr hT
  have HOf : Hid (∀ w sl, PS w sl [q, r] → Calls Tryd.prog 15 #[.int .i64 P, .int .i64 a, .int .i64 b, sl] w fun e w' => e = .returned (.agg #[.int .i64 0, .int .i64 0]) ∧ Below w.heap.size w w') := fun w sl hs => offCurve_any P a b 0 0 sl [q, r] w (of_ok hv (by simp [hq, hr])) hs (by simp)
  have HAa : Hid (∀ w, Calls Tryd.prog 16 #[.int .i64 P, .int .i64 a, Pv q, Pv r] w fun e w' => e = .returned (Pv (padd P a q r)) ∧ Below w.heap.size w w') := fun w => Added_any P a b q r w hv hq hr
  obtain ⟨s, hse⟩ : ∃ s, padd P a q r = s := ⟨_, rfl⟩
  rw [hse] at HAd HAa
  clear hse
  have hcb : (0 != (0 : Int)) = false := rfl
  have hcb2 : (0 == (0 : Int)) = true := rfl
  have HOr : Hid (∀ w, Tb w → Calls Tryd.prog 18 #[.int .i64 P, .int .i64 a, .int .i64 b, Pv q] w fun e w' => e = .returned (.tuple #[.int .i64 k, .agg #[.int .i64 0, .int .i64 0]]) ∧ Below w.heap.size w w') := fun w hT => Order_ok P a b q k w (of_ok hv (by simp [hq])) hv hq hk hk2 hT
  have HOq : Hid (∀ w sl, PS w sl [q] → Calls Tryd.prog 15 #[.int .i64 P, .int .i64 a, .int .i64 b, sl] w fun e w' => e = .returned (.agg #[.int .i64 0, .int .i64 0]) ∧ Below w.heap.size w w') := fun w sl hs => offCurve_any P a b 0 0 sl [q] w (of_ok hv (by simp [hq])) hs (by simp)
  have HCo : Hid (∀ w, Calls Tryd.prog 21 #[.int .i64 P, .int .i64 a, Pv q] w fun e w' => e = .returned (.int .i64 k) ∧ Below w.heap.size w w') := fun w => CurveOrder_any P a b q k w hv hq hk hk2
  haveI := hv.nz
  have HTm : Hid (∀ w, Tb w → Calls Tryd.prog 17 #[.int .i64 P, .int .i64 a, .int .i64 b, .int .i64 n, Pv q] w fun e w' => e = .returned (.tuple #[Pv (mz P a q n), .agg #[.int .i64 0, .int .i64 0]]) ∧ Below w.heap.size w w') := fun w hT => Times_ok P a b n q w (of_ok hv (by simp [hq])) hv hq hnum hT
  have hk0 := hk.1
  have hr0 := Int.emod_nonneg n (show (k : Int) ≠ 0 by omega)
  have hr1 := Int.emod_lt_of_pos n (show 0 < (k : Int) by omega)
  obtain ⟨R, hR⟩ : ∃ R : Nat, n % (k : Int) = R := ⟨(n % (k : Int)).toNat, by omega⟩
  have HLf : Hid (∀ w, Calls Tryd.prog 22 #[.int .i64 n, .int .i64 k] w fun e w' => e = .returned (.int .i64 (R : Int)) ∧ w' = w) := fun w => by
    have := refLeft_any n k w (by simp [numB] at hnum; omega) hk0 (by omega)
    rw [hR] at this
    exact this
  obtain ⟨t, hte⟩ : ∃ t, mz P a q n = t := ⟨_, rfl⟩
  have HTe : Hid (t = EC.mu P a q R) := by
    show t = _
    rw [← hte, mz_mod hv hq hk n, hR]; simp
  rw [hte] at HTm
  have hRk : R < k := by omega
  have HC : Hid (Cv P a b ∧ On P a b q) := ⟨hv, hq⟩
  clear hr0 hr1 hR hte
  have HT : Hid (Tb w) := hT
  clear hv hq hk hT hr
  unfold Pv at HAd HTm HOr HAa HCo
  unfold Pv
  go_enter Tryd.func4, Tryd.ntmps4
  have HM : Hid (Mn [] w w) := Mn.nil w
  have HM' : Hid (Mn [(w.heap.size, [.int .i64 q.x, .int .i64 q.y, .bool q.far], 30)] w (World.alloc w (.cells #[.int .i64 q.x, .int .i64 q.y, .bool q.far] 30))) := HM.out.new [.int .i64 q.x, .int .i64 q.y, .bool q.far] 30 (by simp)
  clear HM
  have HM : Hid (Mn [(w.heap.size, [.int .i64 q.x, .int .i64 q.y, .bool q.far], 30)] w (World.alloc w (.cells #[.int .i64 q.x, .int .i64 q.y, .bool q.far] 30))) := HM'
  clear HM'
  have HM' : Hid (Mn [(w.heap.size + 1, [.int .i64 r.x, .int .i64 r.y, .bool r.far], 30), (w.heap.size, [.int .i64 q.x, .int .i64 q.y, .bool q.far], 30)] w (World.alloc (World.alloc w (.cells #[.int .i64 q.x, .int .i64 q.y, .bool q.far] 30)) (.cells #[.int .i64 r.x, .int .i64 r.y, .bool r.far] 30))) := HM.out.new [.int .i64 r.x, .int .i64 r.y, .bool r.far] 30 (by simp)
  clear HM
  have HM : Hid (Mn [(w.heap.size + 1, [.int .i64 r.x, .int .i64 r.y, .bool r.far], 30), (w.heap.size, [.int .i64 q.x, .int .i64 q.y, .bool q.far], 30)] w (World.alloc (World.alloc w (.cells #[.int .i64 q.x, .int .i64 q.y, .bool q.far] 30)) (.cells #[.int .i64 r.x, .int .i64 r.y, .bool r.far] 30))) := HM'
  clear HM'
  go_wp2_with fail
  refine (HAd.out _ (HT.out.below HM.out.k)).mono ?_
  rintro e w1 ⟨rfl, k1⟩
  have HM' : Hid (Mn [(w.heap.size + 1, [.int .i64 r.x, .int .i64 r.y, .bool r.far], 30), (w.heap.size, [.int .i64 q.x, .int .i64 q.y, .bool q.far], 30)] w w1) := HM.out.below k1
  clear HM k1
  have HM : Hid (Mn [(w.heap.size + 1, [.int .i64 r.x, .int .i64 r.y, .bool r.far], 30), (w.heap.size, [.int .i64 q.x, .int .i64 q.y, .bool q.far], 30)] w w1) := HM'
  clear HM'
  have HM' : Hid (Mn [(w1.heap.size, [.int .i64 s.x, .int .i64 s.y, .bool s.far], 30), (w.heap.size + 1, [.int .i64 r.x, .int .i64 r.y, .bool r.far], 30), (w.heap.size, [.int .i64 q.x, .int .i64 q.y, .bool q.far], 30)] w (World.alloc w1 (.cells #[.int .i64 s.x, .int .i64 s.y, .bool s.far] 30))) := HM.out.new [.int .i64 s.x, .int .i64 s.y, .bool s.far] 30 (by simp)
  clear HM
  have HM : Hid (Mn [(w1.heap.size, [.int .i64 s.x, .int .i64 s.y, .bool s.far], 30), (w.heap.size + 1, [.int .i64 r.x, .int .i64 r.y, .bool r.far], 30), (w.heap.size, [.int .i64 q.x, .int .i64 q.y, .bool q.far], 30)] w (World.alloc w1 (.cells #[.int .i64 s.x, .int .i64 s.y, .bool s.far] 30))) := HM'
  clear HM'
  have HM' : Hid (Mn [(w1.heap.size + 1, [.int .i64 0, .int .i64 0], 23), (w1.heap.size, [.int .i64 s.x, .int .i64 s.y, .bool s.far], 30), (w.heap.size + 1, [.int .i64 r.x, .int .i64 r.y, .bool r.far], 30), (w.heap.size, [.int .i64 q.x, .int .i64 q.y, .bool q.far], 30)] w (World.alloc (World.alloc w1 (.cells #[.int .i64 s.x, .int .i64 s.y, .bool s.far] 30)) (.cells #[.int .i64 0, .int .i64 0] 23))) := HM.out.new [.int .i64 0, .int .i64 0] 23 (by simp)
  clear HM
  have HM : Hid (Mn [(w1.heap.size + 1, [.int .i64 0, .int .i64 0], 23), (w1.heap.size, [.int .i64 s.x, .int .i64 s.y, .bool s.far], 30), (w.heap.size + 1, [.int .i64 r.x, .int .i64 r.y, .bool r.far], 30), (w.heap.size, [.int .i64 q.x, .int .i64 q.y, .bool q.far], 30)] w (World.alloc (World.alloc w1 (.cells #[.int .i64 s.x, .int .i64 s.y, .bool s.far] 30)) (.cells #[.int .i64 0, .int .i64 0] 23))) := HM'
  clear HM'
  have f1 : World.cell? (World.alloc (World.alloc w1 (.cells #[.int .i64 s.x, .int .i64 s.y, .bool s.far] 30)) (.cells #[.int .i64 0, .int .i64 0] 23)) ⟨w.heap.size, 0, none⟩ = some (.int .i64 q.x) := (HM.out.at 3 rfl).cell 0
  have f2 : World.cell? (World.alloc (World.alloc w1 (.cells #[.int .i64 s.x, .int .i64 s.y, .bool s.far] 30)) (.cells #[.int .i64 0, .int .i64 0] 23)) ⟨w.heap.size, 1, none⟩ = some (.int .i64 q.y) := (HM.out.at 3 rfl).cell 1
  have f3 : World.cell? (World.alloc (World.alloc w1 (.cells #[.int .i64 s.x, .int .i64 s.y, .bool s.far] 30)) (.cells #[.int .i64 0, .int .i64 0] 23)) ⟨w.heap.size, 2, none⟩ = some (.bool q.far) := (HM.out.at 3 rfl).cell 2
  have f4 : World.cell? (World.alloc (World.alloc w1 (.cells #[.int .i64 s.x, .int .i64 s.y, .bool s.far] 30)) (.cells #[.int .i64 0, .int .i64 0] 23)) ⟨w.heap.size + 1, 0, none⟩ = some (.int .i64 r.x) := (HM.out.at 2 rfl).cell 0
  have f5 : World.cell? (World.alloc (World.alloc w1 (.cells #[.int .i64 s.x, .int .i64 s.y, .bool s.far] 30)) (.cells #[.int .i64 0, .int .i64 0] 23)) ⟨w.heap.size + 1, 1, none⟩ = some (.int .i64 r.y) := (HM.out.at 2 rfl).cell 1
  have f6 : World.cell? (World.alloc (World.alloc w1 (.cells #[.int .i64 s.x, .int .i64 s.y, .bool s.far] 30)) (.cells #[.int .i64 0, .int .i64 0] 23)) ⟨w.heap.size + 1, 2, none⟩ = some (.bool r.far) := (HM.out.at 2 rfl).cell 2
  go_wp2_with fail
  have HM' : Hid (Mn [(w1.heap.size + 2, [.int .i64 q.x, .int .i64 q.y, .bool q.far, .int .i64 r.x, .int .i64 r.y, .bool r.far], 30), (w1.heap.size + 1, [.int .i64 0, .int .i64 0], 23), (w1.heap.size, [.int .i64 s.x, .int .i64 s.y, .bool s.far], 30), (w.heap.size + 1, [.int .i64 r.x, .int .i64 r.y, .bool r.far], 30), (w.heap.size, [.int .i64 q.x, .int .i64 q.y, .bool q.far], 30)] w (World.alloc (World.alloc (World.alloc w1 (.cells #[.int .i64 s.x, .int .i64 s.y, .bool s.far] 30)) (.cells #[.int .i64 0, .int .i64 0] 23)) (.cells #[.int .i64 q.x, .int .i64 q.y, .bool q.far, .int .i64 r.x, .int .i64 r.y, .bool r.far] 30))) := HM.out.new [.int .i64 q.x, .int .i64 q.y, .bool q.far, .int .i64 r.x, .int .i64 r.y, .bool r.far] 30 (by simp)
  clear HM
  have HM : Hid (Mn [(w1.heap.size + 2, [.int .i64 q.x, .int .i64 q.y, .bool q.far, .int .i64 r.x, .int .i64 r.y, .bool r.far], 30), (w1.heap.size + 1, [.int .i64 0, .int .i64 0], 23), (w1.heap.size, [.int .i64 s.x, .int .i64 s.y, .bool s.far], 30), (w.heap.size + 1, [.int .i64 r.x, .int .i64 r.y, .bool r.far], 30), (w.heap.size, [.int .i64 q.x, .int .i64 q.y, .bool q.far], 30)] w (World.alloc (World.alloc (World.alloc w1 (.cells #[.int .i64 s.x, .int .i64 s.y, .bool s.far] 30)) (.cells #[.int .i64 0, .int .i64 0] 23)) (.cells #[.int .i64 q.x, .int .i64 q.y, .bool q.far, .int .i64 r.x, .int .i64 r.y, .bool r.far] 30))) := HM'
  clear HM'
  refine (HOf.out _ _ (PS.two (q := q) (r := r) (HM.out.at 0 rfl))).mono ?_
  rintro e w2 ⟨rfl, k1⟩
  clear f1 f2 f3 f4 f5 f6
  have HM' : Hid (Mn [(w1.heap.size + 2, [.int .i64 q.x, .int .i64 q.y, .bool q.far, .int .i64 r.x, .int .i64 r.y, .bool r.far], 30), (w1.heap.size + 1, [.int .i64 0, .int .i64 0], 23), (w1.heap.size, [.int .i64 s.x, .int .i64 s.y, .bool s.far], 30), (w.heap.size + 1, [.int .i64 r.x, .int .i64 r.y, .bool r.far], 30), (w.heap.size, [.int .i64 q.x, .int .i64 q.y, .bool q.far], 30)] w w2) := HM.out.below k1
  clear HM k1
  have HM : Hid (Mn [(w1.heap.size + 2, [.int .i64 q.x, .int .i64 q.y, .bool q.far, .int .i64 r.x, .int .i64 r.y, .bool r.far], 30), (w1.heap.size + 1, [.int .i64 0, .int .i64 0], 23), (w1.heap.size, [.int .i64 s.x, .int .i64 s.y, .bool s.far], 30), (w.heap.size + 1, [.int .i64 r.x, .int .i64 r.y, .bool r.far], 30), (w.heap.size, [.int .i64 q.x, .int .i64 q.y, .bool q.far], 30)] w w2) := HM'
  clear HM'
  have HM' : Hid (Mn [(w2.heap.size, [.int .i64 0, .int .i64 0], 23), (w1.heap.size + 2, [.int .i64 q.x, .int .i64 q.y, .bool q.far, .int .i64 r.x, .int .i64 r.y, .bool r.far], 30), (w1.heap.size + 1, [.int .i64 0, .int .i64 0], 23), (w1.heap.size, [.int .i64 s.x, .int .i64 s.y, .bool s.far], 30), (w.heap.size + 1, [.int .i64 r.x, .int .i64 r.y, .bool r.far], 30), (w.heap.size, [.int .i64 q.x, .int .i64 q.y, .bool q.far], 30)] w (World.alloc w2 (.cells #[.int .i64 0, .int .i64 0] 23))) := HM.out.new [.int .i64 0, .int .i64 0] 23 (by simp)
  clear HM
  have HM : Hid (Mn [(w2.heap.size, [.int .i64 0, .int .i64 0], 23), (w1.heap.size + 2, [.int .i64 q.x, .int .i64 q.y, .bool q.far, .int .i64 r.x, .int .i64 r.y, .bool r.far], 30), (w1.heap.size + 1, [.int .i64 0, .int .i64 0], 23), (w1.heap.size, [.int .i64 s.x, .int .i64 s.y, .bool s.far], 30), (w.heap.size + 1, [.int .i64 r.x, .int .i64 r.y, .bool r.far], 30), (w.heap.size, [.int .i64 q.x, .int .i64 q.y, .bool q.far], 30)] w (World.alloc w2 (.cells #[.int .i64 0, .int .i64 0] 23))) := HM'
  clear HM'
  go_wp2_with fail
  obtain ⟨W3, hW3⟩ : ∃ W3, W3 = (World.alloc w2 (.cells #[.int .i64 0, .int .i64 0] 23)) := ⟨_, rfl⟩
  rw [← hW3] at HM ⊢
  clear hW3
  refine wp_region_G (fun wz => World.cell? wz ⟨w1.heap.size, 0, none⟩ = some (.int .i64 s.x) ∧ World.cell? wz ⟨w1.heap.size, 1, none⟩ = some (.int .i64 s.y) ∧ World.cell? wz ⟨w1.heap.size, 2, none⟩ = some (.bool s.far) ∧ World.cell? wz ⟨w1.heap.size + 1, 0, none⟩ = some (.int .i64 0) ∧ World.cell? wz ⟨w1.heap.size + 1, 1, none⟩ = some (.int .i64 0) ∧ World.cell? wz ⟨w2.heap.size, 0, none⟩ = some (.int .i64 0) ∧ World.cell? wz ⟨w2.heap.size, 1, none⟩ = some (.int .i64 0) ∧ World.cell? wz ⟨w.heap.size, 0, none⟩ = some (.int .i64 q.x) ∧ World.cell? wz ⟨w.heap.size, 1, none⟩ = some (.int .i64 q.y) ∧ World.cell? wz ⟨w.heap.size, 2, none⟩ = some (.bool q.far) ∧ World.cell? wz ⟨w.heap.size + 1, 0, none⟩ = some (.int .i64 r.x) ∧ World.cell? wz ⟨w.heap.size + 1, 1, none⟩ = some (.int .i64 r.y) ∧ World.cell? wz ⟨w.heap.size + 1, 2, none⟩ = some (.bool r.far)) 30 (by kernel_rfl) ⟨(HM.out.at 3 rfl).cell 0, (HM.out.at 3 rfl).cell 1, (HM.out.at 3 rfl).cell 2, (HM.out.at 2 rfl).cell 0, (HM.out.at 2 rfl).cell 1, (HM.out.at 0 rfl).cell 0, (HM.out.at 0 rfl).cell 1, (HM.out.at 5 rfl).cell 0, (HM.out.at 5 rfl).cell 1, (HM.out.at 5 rfl).cell 2, (HM.out.at 4 rfl).cell 0, (HM.out.at 4 rfl).cell 1, (HM.out.at 4 rfl).cell 2⟩ (fun hHeld => ?_)
  refine wpAnyG_one (i := 0) rfl (by kernel_rfl) (fun K hK => ?_)
  go_simp
  refine (HBg.out _ (HT.out.below (HM.out.k.drew))).mono ?_
  rintro e w3 ⟨rfl, k1⟩
  have HM' : Hid (Mn [(w2.heap.size, [.int .i64 0, .int .i64 0], 23), (w1.heap.size + 2, [.int .i64 q.x, .int .i64 q.y, .bool q.far, .int .i64 r.x, .int .i64 r.y, .bool r.far], 30), (w1.heap.size + 1, [.int .i64 0, .int .i64 0], 23), (w1.heap.size, [.int .i64 s.x, .int .i64 s.y, .bool s.far], 30), (w.heap.size + 1, [.int .i64 r.x, .int .i64 r.y, .bool r.far], 30), (w.heap.size, [.int .i64 q.x, .int .i64 q.y, .bool q.far], 30)] w w3) := HM.out.below ((Below.refl _ _).drew.trans k1)
  clear HM k1
  have HM : Hid (Mn [(w2.heap.size, [.int .i64 0, .int .i64 0], 23), (w1.heap.size + 2, [.int .i64 q.x, .int .i64 q.y, .bool q.far, .int .i64 r.x, .int .i64 r.y, .bool r.far], 30), (w1.heap.size + 1, [.int .i64 0, .int .i64 0], 23), (w1.heap.size, [.int .i64 s.x, .int .i64 s.y, .bool s.far], 30), (w.heap.size + 1, [.int .i64 r.x, .int .i64 r.y, .bool r.far], 30), (w.heap.size, [.int .i64 q.x, .int .i64 q.y, .bool q.far], 30)] w w3) := HM'
  clear HM'
  refine hK.out _ _ ⟨(HM.out.at 3 rfl).cell 0, (HM.out.at 3 rfl).cell 1, (HM.out.at 3 rfl).cell 2, (HM.out.at 2 rfl).cell 0, (HM.out.at 2 rfl).cell 1, (HM.out.at 0 rfl).cell 0, (HM.out.at 0 rfl).cell 1, (HM.out.at 5 rfl).cell 0, (HM.out.at 5 rfl).cell 1, (HM.out.at 5 rfl).cell 2, (HM.out.at 4 rfl).cell 0, (HM.out.at 4 rfl).cell 1, (HM.out.at 4 rfl).cell 2⟩ ?_
  clear hK K
  try simp only [Act.put, List.setIfInBounds_toArray, List.set_cons_zero, List.set_cons_succ]
  clear hHeld
  have hHeld : (fun wz => World.cell? wz ⟨w1.heap.size, 0, none⟩ = some (.int .i64 s.x) ∧ World.cell? wz ⟨w1.heap.size, 1, none⟩ = some (.int .i64 s.y) ∧ World.cell? wz ⟨w1.heap.size, 2, none⟩ = some (.bool s.far) ∧ World.cell? wz ⟨w1.heap.size + 1, 0, none⟩ = some (.int .i64 0) ∧ World.cell? wz ⟨w1.heap.size + 1, 1, none⟩ = some (.int .i64 0) ∧ World.cell? wz ⟨w2.heap.size, 0, none⟩ = some (.int .i64 0) ∧ World.cell? wz ⟨w2.heap.size, 1, none⟩ = some (.int .i64 0) ∧ World.cell? wz ⟨w.heap.size, 0, none⟩ = some (.int .i64 q.x) ∧ World.cell? wz ⟨w.heap.size, 1, none⟩ = some (.int .i64 q.y) ∧ World.cell? wz ⟨w.heap.size, 2, none⟩ = some (.bool q.far) ∧ World.cell? wz ⟨w.heap.size + 1, 0, none⟩ = some (.int .i64 r.x) ∧ World.cell? wz ⟨w.heap.size + 1, 1, none⟩ = some (.int .i64 r.y) ∧ World.cell? wz ⟨w.heap.size + 1, 2, none⟩ = some (.bool r.far)) w3 := ⟨(HM.out.at 3 rfl).cell 0, (HM.out.at 3 rfl).cell 1, (HM.out.at 3 rfl).cell 2, (HM.out.at 2 rfl).cell 0, (HM.out.at 2 rfl).cell 1, (HM.out.at 0 rfl).cell 0, (HM.out.at 0 rfl).cell 1, (HM.out.at 5 rfl).cell 0, (HM.out.at 5 rfl).cell 1, (HM.out.at 5 rfl).cell 2, (HM.out.at 4 rfl).cell 0, (HM.out.at 4 rfl).cell 1, (HM.out.at 4 rfl).cell 2⟩
  refine wpAnyG_take (i := 1) (v := .bool false) rfl (by kernel_rfl) (fun _ _ _ h => h) (Or.inl ⟨by kernel_rfl, ?y1x92⟩) hHeld ?r1x92
  case y1x92 => (intro wS hSw; (obtain ⟨s1, s2, s3, s4, s5, s6, s7, s8, s9, s10, s11, s12, s13⟩ := hSw; go_simp))
  try simp only [Act.put, List.setIfInBounds_toArray, List.set_cons_zero, List.set_cons_succ]
  refine wpAnyG_take (i := 2) (v := .bool false) rfl (by kernel_rfl) (fun _ _ _ h => h) (Or.inl ⟨by kernel_rfl, ?y2x93⟩) hHeld ?r2x93
  case y2x93 => (intro wS hSw; (obtain ⟨s1, s2, s3, s4, s5, s6, s7, s8, s9, s10, s11, s12, s13⟩ := hSw; go_simp))
  try simp only [Act.put, List.setIfInBounds_toArray, List.set_cons_zero, List.set_cons_succ]
  refine wpAnyG_take (i := 3) (v := .agg #[.int .i64 0, .int .i64 0]) rfl (by kernel_rfl) (fun _ _ _ h => h) (Or.inl ⟨by kernel_rfl, ?y3x94⟩) hHeld ?r3x94
  case y3x94 => (intro wS hSw; (obtain ⟨s1, s2, s3, s4, s5, s6, s7, s8, s9, s10, s11, s12, s13⟩ := hSw; go_simp))
  try simp only [Act.put, List.setIfInBounds_toArray, List.set_cons_zero, List.set_cons_succ]
  refine wpAnyG_take (i := 4) (v := .agg #[.int .i64 0, .int .i64 0]) rfl (by kernel_rfl) (fun _ _ _ h => h) (Or.inl ⟨by kernel_rfl, ?y4x95⟩) hHeld ?r4x95
  case y4x95 => (intro wS hSw; (obtain ⟨s1, s2, s3, s4, s5, s6, s7, s8, s9, s10, s11, s12, s13⟩ := hSw; go_simp))
  try simp only [Act.put, List.setIfInBounds_toArray, List.set_cons_zero, List.set_cons_succ]
  refine wpAnyG_take (i := 5) (v := .bool false) rfl (by kernel_rfl) (fun _ _ _ h => h) (Or.inl ⟨by kernel_rfl, ?y5x96⟩) hHeld ?r5x96
  case y5x96 => (intro wS hSw; (obtain ⟨s1, s2, s3, s4, s5, s6, s7, s8, s9, s10, s11, s12, s13⟩ := hSw; go_simp; try simp))
  try simp only [Act.put, List.setIfInBounds_toArray, List.set_cons_zero, List.set_cons_succ]
  refine wpAnyG_take (i := 6) (v := .bool false) rfl (by kernel_rfl) (fun _ _ _ h => h) (Or.inl ⟨by kernel_rfl, ?y6x97⟩) hHeld ?r6x97
  case y6x97 => (intro wS hSw; (obtain ⟨s1, s2, s3, s4, s5, s6, s7, s8, s9, s10, s11, s12, s13⟩ := hSw; go_simp))
  try simp only [Act.put, List.setIfInBounds_toArray, List.set_cons_zero, List.set_cons_succ]
  refine wpAnyG_take (i := 7) (v := .bool false) rfl (by kernel_rfl) (fun _ _ _ h => h) (Or.inl ⟨by kernel_rfl, ?y7x98⟩) hHeld ?r7x98
  case y7x98 => (intro wS hSw; (obtain ⟨s1, s2, s3, s4, s5, s6, s7, s8, s9, s10, s11, s12, s13⟩ := hSw; go_simp))
  try simp only [Act.put, List.setIfInBounds_toArray, List.set_cons_zero, List.set_cons_succ]
  refine wpAnyG_take (i := 8) (v := .pointer (some ⟨w2.heap.size, 0, none⟩)) rfl (by kernel_rfl) (fun _ _ _ h => h) (Or.inl ⟨by kernel_rfl, ?y8x99⟩) hHeld ?r8x99
  case y8x99 => (intro wS hSw; (obtain ⟨s1, s2, s3, s4, s5, s6, s7, s8, s9, s10, s11, s12, s13⟩ := hSw; go_simp))
  try simp only [Act.put, List.setIfInBounds_toArray, List.set_cons_zero, List.set_cons_succ]
  refine wpAnyG_take (i := 9) (v := .int .i64 0) rfl (by kernel_rfl) (fun _ _ _ h => h) (Or.inl ⟨by kernel_rfl, ?y9x100⟩) hHeld ?r9x100
  case y9x100 => (intro wS hSw; (obtain ⟨s1, s2, s3, s4, s5, s6, s7, s8, s9, s10, s11, s12, s13⟩ := hSw; go_simp))
  try simp only [Act.put, List.setIfInBounds_toArray, List.set_cons_zero, List.set_cons_succ]
  refine wpAnyG_take (i := 10) (v := .bool false) rfl (by kernel_rfl) (fun _ _ _ h => h) (Or.inl ⟨by kernel_rfl, ?y10x101⟩) hHeld ?r10x101
  case y10x101 => (intro wS hSw; (obtain ⟨s1, s2, s3, s4, s5, s6, s7, s8, s9, s10, s11, s12, s13⟩ := hSw; go_simp; try simp only [hcb]))
  try simp only [Act.put, List.setIfInBounds_toArray, List.set_cons_zero, List.set_cons_succ]
  refine wpAnyG_take (i := 11) (v := .bool false) rfl (by kernel_rfl) (fun _ _ _ h => h) (Or.inl ⟨by kernel_rfl, ?y11x102⟩) hHeld ?r11x102
  case y11x102 => (intro wS hSw; (obtain ⟨s1, s2, s3, s4, s5, s6, s7, s8, s9, s10, s11, s12, s13⟩ := hSw; go_simp))
  try simp only [Act.put, List.setIfInBounds_toArray, List.set_cons_zero, List.set_cons_succ]
  refine wpAnyG_take (i := 12) (v := undef) rfl (by kernel_rfl) (fun _ _ _ h => h) (Or.inr ⟨by kernel_rfl, rfl⟩) hHeld ?_
  try simp only [Act.put, List.setIfInBounds_toArray, List.set_cons_zero, List.set_cons_succ]
  refine wpAnyG_take (i := 13) (v := undef) rfl (by kernel_rfl) (fun _ _ _ h => h) (Or.inr ⟨by kernel_rfl, rfl⟩) hHeld ?_
  try simp only [Act.put, List.setIfInBounds_toArray, List.set_cons_zero, List.set_cons_succ]
  refine wpAnyG_take (i := 14) (v := undef) rfl (by kernel_rfl) (fun _ _ _ h => h) (Or.inr ⟨by kernel_rfl, rfl⟩) hHeld ?_
  try simp only [Act.put, List.setIfInBounds_toArray, List.set_cons_zero, List.set_cons_succ]
  refine wpAnyG_take (i := 15) (v := .bool false) rfl (by kernel_rfl) (fun _ _ _ h => h) (Or.inl ⟨by kernel_rfl, ?y15x103⟩) hHeld ?r15x103
  case y15x103 => (intro wS hSw; (obtain ⟨s1, s2, s3, s4, s5, s6, s7, s8, s9, s10, s11, s12, s13⟩ := hSw; go_simp))
  try simp only [Act.put, List.setIfInBounds_toArray, List.set_cons_zero, List.set_cons_succ]
  refine wpAnyG_take (i := 16) (v := .bool false) rfl (by kernel_rfl) (fun _ _ _ h => h) (Or.inl ⟨by kernel_rfl, ?y16x104⟩) hHeld ?r16x104
  case y16x104 => (intro wS hSw; (obtain ⟨s1, s2, s3, s4, s5, s6, s7, s8, s9, s10, s11, s12, s13⟩ := hSw; go_simp))
  try simp only [Act.put, List.setIfInBounds_toArray, List.set_cons_zero, List.set_cons_succ]
  refine wpAnyG_take (i := 17) (v := .bool false) rfl (by kernel_rfl) (fun _ _ _ h => h) (Or.inl ⟨by kernel_rfl, ?y17x105⟩) hHeld ?r17x105
  case y17x105 => (intro wS hSw; (obtain ⟨s1, s2, s3, s4, s5, s6, s7, s8, s9, s10, s11, s12, s13⟩ := hSw; go_simp))
  try simp only [Act.put, List.setIfInBounds_toArray, List.set_cons_zero, List.set_cons_succ]
  refine wpAnyG_take (i := 18) (v := .pointer (some ⟨w2.heap.size, 0, none⟩)) rfl (by kernel_rfl) (fun _ _ _ h => h) (Or.inl ⟨by kernel_rfl, ?y18x106⟩) hHeld ?r18x106
  case y18x106 => (intro wS hSw; (obtain ⟨s1, s2, s3, s4, s5, s6, s7, s8, s9, s10, s11, s12, s13⟩ := hSw; go_simp))
  try simp only [Act.put, List.setIfInBounds_toArray, List.set_cons_zero, List.set_cons_succ]
  refine wpAnyG_take (i := 19) (v := .int .i64 0) rfl (by kernel_rfl) (fun _ _ _ h => h) (Or.inl ⟨by kernel_rfl, ?y19x107⟩) hHeld ?r19x107
  case y19x107 => (intro wS hSw; (obtain ⟨s1, s2, s3, s4, s5, s6, s7, s8, s9, s10, s11, s12, s13⟩ := hSw; go_simp))
  try simp only [Act.put, List.setIfInBounds_toArray, List.set_cons_zero, List.set_cons_succ]
  refine wpAnyG_take (i := 20) (v := .bool true) rfl (by kernel_rfl) (fun _ _ _ h => h) (Or.inl ⟨by kernel_rfl, ?y20x108⟩) hHeld ?r20x108
  case y20x108 => (intro wS hSw; (obtain ⟨s1, s2, s3, s4, s5, s6, s7, s8, s9, s10, s11, s12, s13⟩ := hSw; go_simp; try simp only [hcb2]))
  try simp only [Act.put, List.setIfInBounds_toArray, List.set_cons_zero, List.set_cons_succ]
  refine wpAnyG_take (i := 21) (v := .bool true) rfl (by kernel_rfl) (fun _ _ _ h => h) (Or.inl ⟨by kernel_rfl, ?y21x109⟩) hHeld ?r21x109
  case y21x109 => (intro wS hSw; (obtain ⟨s1, s2, s3, s4, s5, s6, s7, s8, s9, s10, s11, s12, s13⟩ := hSw; go_simp))
  try simp only [Act.put, List.setIfInBounds_toArray, List.set_cons_zero, List.set_cons_succ]
  refine wpAnyG_take (i := 22) (v := .agg #[.int .i64 s.x, .int .i64 s.y, .bool s.far]) rfl (by kernel_rfl) (fun _ _ _ h => h) (Or.inl ⟨by kernel_rfl, ?y22x110⟩) hHeld ?r22x110
  case y22x110 => (intro wS hSw; (obtain ⟨s1, s2, s3, s4, s5, s6, s7, s8, s9, s10, s11, s12, s13⟩ := hSw; go_simp))
  try simp only [Act.put, List.setIfInBounds_toArray, List.set_cons_zero, List.set_cons_succ]
  refine wpAnyG_take (i := 23) (v := .int .i64 P) rfl (by kernel_rfl) (fun _ _ _ h => h) (Or.inl ⟨by kernel_rfl, ?y23x111⟩) hHeld ?r23x111
  case y23x111 => (intro wS hSw; (obtain ⟨s1, s2, s3, s4, s5, s6, s7, s8, s9, s10, s11, s12, s13⟩ := hSw; go_simp))
  try simp only [Act.put, List.setIfInBounds_toArray, List.set_cons_zero, List.set_cons_succ]
  refine wpAnyG_take (i := 24) (v := .int .i64 a) rfl (by kernel_rfl) (fun _ _ _ h => h) (Or.inl ⟨by kernel_rfl, ?y24x112⟩) hHeld ?r24x112
  case y24x112 => (intro wS hSw; (obtain ⟨s1, s2, s3, s4, s5, s6, s7, s8, s9, s10, s11, s12, s13⟩ := hSw; go_simp))
  try simp only [Act.put, List.setIfInBounds_toArray, List.set_cons_zero, List.set_cons_succ]
  refine wpAnyG_take (i := 25) (v := .agg #[.int .i64 q.x, .int .i64 q.y, .bool q.far]) rfl (by kernel_rfl) (fun _ _ _ h => h) (Or.inl ⟨by kernel_rfl, ?y25x113⟩) hHeld ?r25x113
  case y25x113 => (intro wS hSw; (obtain ⟨s1, s2, s3, s4, s5, s6, s7, s8, s9, s10, s11, s12, s13⟩ := hSw; go_simp))
  try simp only [Act.put, List.setIfInBounds_toArray, List.set_cons_zero, List.set_cons_succ]
  refine wpAnyG_take (i := 26) (v := .agg #[.int .i64 r.x, .int .i64 r.y, .bool r.far]) rfl (by kernel_rfl) (fun _ _ _ h => h) (Or.inl ⟨by kernel_rfl, ?y26x114⟩) hHeld ?r26x114
  case y26x114 => (intro wS hSw; (obtain ⟨s1, s2, s3, s4, s5, s6, s7, s8, s9, s10, s11, s12, s13⟩ := hSw; go_simp))
  try simp only [Act.put, List.setIfInBounds_toArray, List.set_cons_zero, List.set_cons_succ]
  refine wpAnyG_one (i := 27) rfl (by kernel_rfl) (fun K hK => ?_)
  rw [if_pos (by kernel_rfl)]
  go_simp
  refine (HAa.out _).mono ?_
  rintro e w4 ⟨rfl, k1⟩
  have HM' : Hid (Mn [(w2.heap.size, [.int .i64 0, .int .i64 0], 23), (w1.heap.size + 2, [.int .i64 q.x, .int .i64 q.y, .bool q.far, .int .i64 r.x, .int .i64 r.y, .bool r.far], 30), (w1.heap.size + 1, [.int .i64 0, .int .i64 0], 23), (w1.heap.size, [.int .i64 s.x, .int .i64 s.y, .bool s.far], 30), (w.heap.size + 1, [.int .i64 r.x, .int .i64 r.y, .bool r.far], 30), (w.heap.size, [.int .i64 q.x, .int .i64 q.y, .bool q.far], 30)] w w4) := HM.out.below k1
  clear HM k1
  have HM : Hid (Mn [(w2.heap.size, [.int .i64 0, .int .i64 0], 23), (w1.heap.size + 2, [.int .i64 q.x, .int .i64 q.y, .bool q.far, .int .i64 r.x, .int .i64 r.y, .bool r.far], 30), (w1.heap.size + 1, [.int .i64 0, .int .i64 0], 23), (w1.heap.size, [.int .i64 s.x, .int .i64 s.y, .bool s.far], 30), (w.heap.size + 1, [.int .i64 r.x, .int .i64 r.y, .bool r.far], 30), (w.heap.size, [.int .i64 q.x, .int .i64 q.y, .bool q.far], 30)] w w4) := HM'
  clear HM'
  refine hK.out _ _ ⟨(HM.out.at 3 rfl).cell 0, (HM.out.at 3 rfl).cell 1, (HM.out.at 3 rfl).cell 2, (HM.out.at 2 rfl).cell 0, (HM.out.at 2 rfl).cell 1, (HM.out.at 0 rfl).cell 0, (HM.out.at 0 rfl).cell 1, (HM.out.at 5 rfl).cell 0, (HM.out.at 5 rfl).cell 1, (HM.out.at 5 rfl).cell 2, (HM.out.at 4 rfl).cell 0, (HM.out.at 4 rfl).cell 1, (HM.out.at 4 rfl).cell 2⟩ ?_
  clear hK K
  try simp only [Act.put, List.setIfInBounds_toArray, List.set_cons_zero, List.set_cons_succ]
  clear hHeld
  have hHeld : (fun wz => World.cell? wz ⟨w1.heap.size, 0, none⟩ = some (.int .i64 s.x) ∧ World.cell? wz ⟨w1.heap.size, 1, none⟩ = some (.int .i64 s.y) ∧ World.cell? wz ⟨w1.heap.size, 2, none⟩ = some (.bool s.far) ∧ World.cell? wz ⟨w1.heap.size + 1, 0, none⟩ = some (.int .i64 0) ∧ World.cell? wz ⟨w1.heap.size + 1, 1, none⟩ = some (.int .i64 0) ∧ World.cell? wz ⟨w2.heap.size, 0, none⟩ = some (.int .i64 0) ∧ World.cell? wz ⟨w2.heap.size, 1, none⟩ = some (.int .i64 0) ∧ World.cell? wz ⟨w.heap.size, 0, none⟩ = some (.int .i64 q.x) ∧ World.cell? wz ⟨w.heap.size, 1, none⟩ = some (.int .i64 q.y) ∧ World.cell? wz ⟨w.heap.size, 2, none⟩ = some (.bool q.far) ∧ World.cell? wz ⟨w.heap.size + 1, 0, none⟩ = some (.int .i64 r.x) ∧ World.cell? wz ⟨w.heap.size + 1, 1, none⟩ = some (.int .i64 r.y) ∧ World.cell? wz ⟨w.heap.size + 1, 2, none⟩ = some (.bool r.far)) w4 := ⟨(HM.out.at 3 rfl).cell 0, (HM.out.at 3 rfl).cell 1, (HM.out.at 3 rfl).cell 2, (HM.out.at 2 rfl).cell 0, (HM.out.at 2 rfl).cell 1, (HM.out.at 0 rfl).cell 0, (HM.out.at 0 rfl).cell 1, (HM.out.at 5 rfl).cell 0, (HM.out.at 5 rfl).cell 1, (HM.out.at 5 rfl).cell 2, (HM.out.at 4 rfl).cell 0, (HM.out.at 4 rfl).cell 1, (HM.out.at 4 rfl).cell 2⟩
  refine wpAnyG_take (i := 28) (v := .bool false) rfl (by kernel_rfl) (fun _ _ _ h => h) (Or.inl ⟨by kernel_rfl, ?y28x115⟩) hHeld ?r28x115
  case y28x115 => (intro wS hSw; (obtain ⟨s1, s2, s3, s4, s5, s6, s7, s8, s9, s10, s11, s12, s13⟩ := hSw; go_simp; try simp))
  try simp only [Act.put, List.setIfInBounds_toArray, List.set_cons_zero, List.set_cons_succ]
  refine wpAnyG_take (i := 29) (v := .bool false) rfl (by kernel_rfl) (fun _ _ _ h => h) (Or.inl ⟨by kernel_rfl, ?y29x116⟩) hHeld ?r29x116
  case y29x116 => (intro wS hSw; (obtain ⟨s1, s2, s3, s4, s5, s6, s7, s8, s9, s10, s11, s12, s13⟩ := hSw; go_simp))
  try simp only [Act.put, List.setIfInBounds_toArray, List.set_cons_zero, List.set_cons_succ]
  refine wpAnyG_last (i := 30) rfl (by kernel_rfl) (by kernel_rfl) (fun K hK => ?_)
  go_simp
  refine hK.out _ _ ?_
  clear hK K
  try simp only [Act.put, List.setIfInBounds_toArray, List.set_cons_zero, List.set_cons_succ]
  refine wpAnyG_done (by kernel_rfl) ?_ _
  clear hHeld
  have f7 : World.cell? w4 ⟨w.heap.size, 0, none⟩ = some (.int .i64 q.x) := (HM.out.at 5 rfl).cell 0
  have f8 : World.cell? w4 ⟨w.heap.size, 1, none⟩ = some (.int .i64 q.y) := (HM.out.at 5 rfl).cell 1
  have f9 : World.cell? w4 ⟨w.heap.size, 2, none⟩ = some (.bool q.far) := (HM.out.at 5 rfl).cell 2
  go_wp2_with fail
  refine (HTm.out _ (HT.out.below HM.out.k)).mono ?_
  rintro e w5 ⟨rfl, k1⟩
  clear f7 f8 f9
  have HM' : Hid (Mn [(w2.heap.size, [.int .i64 0, .int .i64 0], 23), (w1.heap.size + 2, [.int .i64 q.x, .int .i64 q.y, .bool q.far, .int .i64 r.x, .int .i64 r.y, .bool r.far], 30), (w1.heap.size + 1, [.int .i64 0, .int .i64 0], 23), (w1.heap.size, [.int .i64 s.x, .int .i64 s.y, .bool s.far], 30), (w.heap.size + 1, [.int .i64 r.x, .int .i64 r.y, .bool r.far], 30), (w.heap.size, [.int .i64 q.x, .int .i64 q.y, .bool q.far], 30)] w w5) := HM.out.below k1
  clear HM k1
  have HM : Hid (Mn [(w2.heap.size, [.int .i64 0, .int .i64 0], 23), (w1.heap.size + 2, [.int .i64 q.x, .int .i64 q.y, .bool q.far, .int .i64 r.x, .int .i64 r.y, .bool r.far], 30), (w1.heap.size + 1, [.int .i64 0, .int .i64 0], 23), (w1.heap.size, [.int .i64 s.x, .int .i64 s.y, .bool s.far], 30), (w.heap.size + 1, [.int .i64 r.x, .int .i64 r.y, .bool r.far], 30), (w.heap.size, [.int .i64 q.x, .int .i64 q.y, .bool q.far], 30)] w w5) := HM'
  clear HM'
  have HM' : Hid (Mn [(w5.heap.size, [.int .i64 t.x, .int .i64 t.y, .bool t.far], 30), (w2.heap.size, [.int .i64 0, .int .i64 0], 23), (w1.heap.size + 2, [.int .i64 q.x, .int .i64 q.y, .bool q.far, .int .i64 r.x, .int .i64 r.y, .bool r.far], 30), (w1.heap.size + 1, [.int .i64 0, .int .i64 0], 23), (w1.heap.size, [.int .i64 s.x, .int .i64 s.y, .bool s.far], 30), (w.heap.size + 1, [.int .i64 r.x, .int .i64 r.y, .bool r.far], 30), (w.heap.size, [.int .i64 q.x, .int .i64 q.y, .bool q.far], 30)] w (World.alloc w5 (.cells #[.int .i64 t.x, .int .i64 t.y, .bool t.far] 30))) := HM.out.new [.int .i64 t.x, .int .i64 t.y, .bool t.far] 30 (by simp)
  clear HM
  have HM : Hid (Mn [(w5.heap.size, [.int .i64 t.x, .int .i64 t.y, .bool t.far], 30), (w2.heap.size, [.int .i64 0, .int .i64 0], 23), (w1.heap.size + 2, [.int .i64 q.x, .int .i64 q.y, .bool q.far, .int .i64 r.x, .int .i64 r.y, .bool r.far], 30), (w1.heap.size + 1, [.int .i64 0, .int .i64 0], 23), (w1.heap.size, [.int .i64 s.x, .int .i64 s.y, .bool s.far], 30), (w.heap.size + 1, [.int .i64 r.x, .int .i64 r.y, .bool r.far], 30), (w.heap.size, [.int .i64 q.x, .int .i64 q.y, .bool q.far], 30)] w (World.alloc w5 (.cells #[.int .i64 t.x, .int .i64 t.y, .bool t.far] 30))) := HM'
  clear HM'
  have f10 : World.cell? (World.alloc w5 (.cells #[.int .i64 t.x, .int .i64 t.y, .bool t.far] 30)) ⟨w1.heap.size + 1, 0, none⟩ = some (.int .i64 0) := (HM.out.at 3 rfl).cell 0
  have f11 : World.cell? (World.alloc w5 (.cells #[.int .i64 t.x, .int .i64 t.y, .bool t.far] 30)) ⟨w1.heap.size + 1, 1, none⟩ = some (.int .i64 0) := (HM.out.at 3 rfl).cell 1
  have f12 : World.frozen? (World.alloc w5 (.cells #[.int .i64 t.x, .int .i64 t.y, .bool t.far] 30)) ⟨w1.heap.size + 1, 0, none⟩ = false := (HM.out.at 3 rfl).frozen 0
  have f13 : World.frozen? (World.alloc w5 (.cells #[.int .i64 t.x, .int .i64 t.y, .bool t.far] 30)) ⟨w1.heap.size + 1, 1, none⟩ = false := (HM.out.at 3 rfl).frozen 1
  have HM' : Hid (Mn [(w5.heap.size, [.int .i64 t.x, .int .i64 t.y, .bool t.far], 30), (w2.heap.size, [.int .i64 0, .int .i64 0], 23), (w1.heap.size + 2, [.int .i64 q.x, .int .i64 q.y, .bool q.far, .int .i64 r.x, .int .i64 r.y, .bool r.far], 30), (w1.heap.size + 1, [.int .i64 0, .int .i64 0], 23), (w1.heap.size, [.int .i64 s.x, .int .i64 s.y, .bool s.far], 30), (w.heap.size + 1, [.int .i64 r.x, .int .i64 r.y, .bool r.far], 30), (w.heap.size, [.int .i64 q.x, .int .i64 q.y, .bool q.far], 30)] w (World.setCell (World.alloc w5 (.cells #[.int .i64 t.x, .int .i64 t.y, .bool t.far] 30)) ⟨w1.heap.size + 1, 0, none⟩ (.int .i64 0))) := HM.out.set 3 rfl 0 (.int .i64 0)
  clear HM
  have HM : Hid (Mn [(w5.heap.size, [.int .i64 t.x, .int .i64 t.y, .bool t.far], 30), (w2.heap.size, [.int .i64 0, .int .i64 0], 23), (w1.heap.size + 2, [.int .i64 q.x, .int .i64 q.y, .bool q.far, .int .i64 r.x, .int .i64 r.y, .bool r.far], 30), (w1.heap.size + 1, [.int .i64 0, .int .i64 0], 23), (w1.heap.size, [.int .i64 s.x, .int .i64 s.y, .bool s.far], 30), (w.heap.size + 1, [.int .i64 r.x, .int .i64 r.y, .bool r.far], 30), (w.heap.size, [.int .i64 q.x, .int .i64 q.y, .bool q.far], 30)] w (World.setCell (World.alloc w5 (.cells #[.int .i64 t.x, .int .i64 t.y, .bool t.far] 30)) ⟨w1.heap.size + 1, 0, none⟩ (.int .i64 0))) := HM'
  clear HM'
  have HM' : Hid (Mn [(w5.heap.size, [.int .i64 t.x, .int .i64 t.y, .bool t.far], 30), (w2.heap.size, [.int .i64 0, .int .i64 0], 23), (w1.heap.size + 2, [.int .i64 q.x, .int .i64 q.y, .bool q.far, .int .i64 r.x, .int .i64 r.y, .bool r.far], 30), (w1.heap.size + 1, [.int .i64 0, .int .i64 0], 23), (w1.heap.size, [.int .i64 s.x, .int .i64 s.y, .bool s.far], 30), (w.heap.size + 1, [.int .i64 r.x, .int .i64 r.y, .bool r.far], 30), (w.heap.size, [.int .i64 q.x, .int .i64 q.y, .bool q.far], 30)] w (World.setCell (World.setCell (World.alloc w5 (.cells #[.int .i64 t.x, .int .i64 t.y, .bool t.far] 30)) ⟨w1.heap.size + 1, 0, none⟩ (.int .i64 0)) ⟨w1.heap.size + 1, 1, none⟩ (.int .i64 0))) := HM.out.set 3 rfl 1 (.int .i64 0)
  clear HM
  have HM : Hid (Mn [(w5.heap.size, [.int .i64 t.x, .int .i64 t.y, .bool t.far], 30), (w2.heap.size, [.int .i64 0, .int .i64 0], 23), (w1.heap.size + 2, [.int .i64 q.x, .int .i64 q.y, .bool q.far, .int .i64 r.x, .int .i64 r.y, .bool r.far], 30), (w1.heap.size + 1, [.int .i64 0, .int .i64 0], 23), (w1.heap.size, [.int .i64 s.x, .int .i64 s.y, .bool s.far], 30), (w.heap.size + 1, [.int .i64 r.x, .int .i64 r.y, .bool r.far], 30), (w.heap.size, [.int .i64 q.x, .int .i64 q.y, .bool q.far], 30)] w (World.setCell (World.setCell (World.alloc w5 (.cells #[.int .i64 t.x, .int .i64 t.y, .bool t.far] 30)) ⟨w1.heap.size + 1, 0, none⟩ (.int .i64 0)) ⟨w1.heap.size + 1, 1, none⟩ (.int .i64 0))) := HM'
  clear HM'
  have f14 : World.cell? (World.setCell (World.setCell (World.alloc w5 (.cells #[.int .i64 t.x, .int .i64 t.y, .bool t.far] 30)) ⟨w1.heap.size + 1, 0, none⟩ (.int .i64 0)) ⟨w1.heap.size + 1, 1, none⟩ (.int .i64 0)) ⟨w.heap.size, 0, none⟩ = some (.int .i64 q.x) := (HM.out.at 6 rfl).cell 0
  have f15 : World.cell? (World.setCell (World.setCell (World.alloc w5 (.cells #[.int .i64 t.x, .int .i64 t.y, .bool t.far] 30)) ⟨w1.heap.size + 1, 0, none⟩ (.int .i64 0)) ⟨w1.heap.size + 1, 1, none⟩ (.int .i64 0)) ⟨w.heap.size, 1, none⟩ = some (.int .i64 q.y) := (HM.out.at 6 rfl).cell 1
  have f16 : World.cell? (World.setCell (World.setCell (World.alloc w5 (.cells #[.int .i64 t.x, .int .i64 t.y, .bool t.far] 30)) ⟨w1.heap.size + 1, 0, none⟩ (.int .i64 0)) ⟨w1.heap.size + 1, 1, none⟩ (.int .i64 0)) ⟨w.heap.size, 2, none⟩ = some (.bool q.far) := (HM.out.at 6 rfl).cell 2
  go_wp2_with fail
  refine (HOr.out _ (HT.out.below HM.out.k)).mono ?_
  rintro e w6 ⟨rfl, k1⟩
  clear f10 f11 f12 f13 f14 f15 f16
  have HM' : Hid (Mn [(w5.heap.size, [.int .i64 t.x, .int .i64 t.y, .bool t.far], 30), (w2.heap.size, [.int .i64 0, .int .i64 0], 23), (w1.heap.size + 2, [.int .i64 q.x, .int .i64 q.y, .bool q.far, .int .i64 r.x, .int .i64 r.y, .bool r.far], 30), (w1.heap.size + 1, [.int .i64 0, .int .i64 0], 23), (w1.heap.size, [.int .i64 s.x, .int .i64 s.y, .bool s.far], 30), (w.heap.size + 1, [.int .i64 r.x, .int .i64 r.y, .bool r.far], 30), (w.heap.size, [.int .i64 q.x, .int .i64 q.y, .bool q.far], 30)] w w6) := HM.out.below k1
  clear HM k1
  have HM : Hid (Mn [(w5.heap.size, [.int .i64 t.x, .int .i64 t.y, .bool t.far], 30), (w2.heap.size, [.int .i64 0, .int .i64 0], 23), (w1.heap.size + 2, [.int .i64 q.x, .int .i64 q.y, .bool q.far, .int .i64 r.x, .int .i64 r.y, .bool r.far], 30), (w1.heap.size + 1, [.int .i64 0, .int .i64 0], 23), (w1.heap.size, [.int .i64 s.x, .int .i64 s.y, .bool s.far], 30), (w.heap.size + 1, [.int .i64 r.x, .int .i64 r.y, .bool r.far], 30), (w.heap.size, [.int .i64 q.x, .int .i64 q.y, .bool q.far], 30)] w w6) := HM'
  clear HM'
  have HM' : Hid (Mn [(w6.heap.size, [.int .i64 0, .int .i64 0], 23), (w5.heap.size, [.int .i64 t.x, .int .i64 t.y, .bool t.far], 30), (w2.heap.size, [.int .i64 0, .int .i64 0], 23), (w1.heap.size + 2, [.int .i64 q.x, .int .i64 q.y, .bool q.far, .int .i64 r.x, .int .i64 r.y, .bool r.far], 30), (w1.heap.size + 1, [.int .i64 0, .int .i64 0], 23), (w1.heap.size, [.int .i64 s.x, .int .i64 s.y, .bool s.far], 30), (w.heap.size + 1, [.int .i64 r.x, .int .i64 r.y, .bool r.far], 30), (w.heap.size, [.int .i64 q.x, .int .i64 q.y, .bool q.far], 30)] w (World.alloc w6 (.cells #[.int .i64 0, .int .i64 0] 23))) := HM.out.new [.int .i64 0, .int .i64 0] 23 (by simp)
  clear HM
  have HM : Hid (Mn [(w6.heap.size, [.int .i64 0, .int .i64 0], 23), (w5.heap.size, [.int .i64 t.x, .int .i64 t.y, .bool t.far], 30), (w2.heap.size, [.int .i64 0, .int .i64 0], 23), (w1.heap.size + 2, [.int .i64 q.x, .int .i64 q.y, .bool q.far, .int .i64 r.x, .int .i64 r.y, .bool r.far], 30), (w1.heap.size + 1, [.int .i64 0, .int .i64 0], 23), (w1.heap.size, [.int .i64 s.x, .int .i64 s.y, .bool s.far], 30), (w.heap.size + 1, [.int .i64 r.x, .int .i64 r.y, .bool r.far], 30), (w.heap.size, [.int .i64 q.x, .int .i64 q.y, .bool q.far], 30)] w (World.alloc w6 (.cells #[.int .i64 0, .int .i64 0] 23))) := HM'
  clear HM'
  have f17 : World.cell? (World.alloc w6 (.cells #[.int .i64 0, .int .i64 0] 23)) ⟨w.heap.size, 0, none⟩ = some (.int .i64 q.x) := (HM.out.at 7 rfl).cell 0
  have f18 : World.cell? (World.alloc w6 (.cells #[.int .i64 0, .int .i64 0] 23)) ⟨w.heap.size, 1, none⟩ = some (.int .i64 q.y) := (HM.out.at 7 rfl).cell 1
  have f19 : World.cell? (World.alloc w6 (.cells #[.int .i64 0, .int .i64 0] 23)) ⟨w.heap.size, 2, none⟩ = some (.bool q.far) := (HM.out.at 7 rfl).cell 2
  go_wp2_with fail
  have HM' : Hid (Mn [(w6.heap.size + 1, [.int .i64 q.x, .int .i64 q.y, .bool q.far], 30), (w6.heap.size, [.int .i64 0, .int .i64 0], 23), (w5.heap.size, [.int .i64 t.x, .int .i64 t.y, .bool t.far], 30), (w2.heap.size, [.int .i64 0, .int .i64 0], 23), (w1.heap.size + 2, [.int .i64 q.x, .int .i64 q.y, .bool q.far, .int .i64 r.x, .int .i64 r.y, .bool r.far], 30), (w1.heap.size + 1, [.int .i64 0, .int .i64 0], 23), (w1.heap.size, [.int .i64 s.x, .int .i64 s.y, .bool s.far], 30), (w.heap.size + 1, [.int .i64 r.x, .int .i64 r.y, .bool r.far], 30), (w.heap.size, [.int .i64 q.x, .int .i64 q.y, .bool q.far], 30)] w (World.alloc (World.alloc w6 (.cells #[.int .i64 0, .int .i64 0] 23)) (.cells #[.int .i64 q.x, .int .i64 q.y, .bool q.far] 30))) := HM.out.new [.int .i64 q.x, .int .i64 q.y, .bool q.far] 30 (by simp)
  clear HM
  have HM : Hid (Mn [(w6.heap.size + 1, [.int .i64 q.x, .int .i64 q.y, .bool q.far], 30), (w6.heap.size, [.int .i64 0, .int .i64 0], 23), (w5.heap.size, [.int .i64 t.x, .int .i64 t.y, .bool t.far], 30), (w2.heap.size, [.int .i64 0, .int .i64 0], 23), (w1.heap.size + 2, [.int .i64 q.x, .int .i64 q.y, .bool q.far, .int .i64 r.x, .int .i64 r.y, .bool r.far], 30), (w1.heap.size + 1, [.int .i64 0, .int .i64 0], 23), (w1.heap.size, [.int .i64 s.x, .int .i64 s.y, .bool s.far], 30), (w.heap.size + 1, [.int .i64 r.x, .int .i64 r.y, .bool r.far], 30), (w.heap.size, [.int .i64 q.x, .int .i64 q.y, .bool q.far], 30)] w (World.alloc (World.alloc w6 (.cells #[.int .i64 0, .int .i64 0] 23)) (.cells #[.int .i64 q.x, .int .i64 q.y, .bool q.far] 30))) := HM'
  clear HM'
  refine (HOq.out _ _ (PS.one (q := q) (HM.out.at 0 rfl))).mono ?_
  rintro e w7 ⟨rfl, k1⟩
  clear f17 f18 f19
  have HM' : Hid (Mn [(w6.heap.size + 1, [.int .i64 q.x, .int .i64 q.y, .bool q.far], 30), (w6.heap.size, [.int .i64 0, .int .i64 0], 23), (w5.heap.size, [.int .i64 t.x, .int .i64 t.y, .bool t.far], 30), (w2.heap.size, [.int .i64 0, .int .i64 0], 23), (w1.heap.size + 2, [.int .i64 q.x, .int .i64 q.y, .bool q.far, .int .i64 r.x, .int .i64 r.y, .bool r.far], 30), (w1.heap.size + 1, [.int .i64 0, .int .i64 0], 23), (w1.heap.size, [.int .i64 s.x, .int .i64 s.y, .bool s.far], 30), (w.heap.size + 1, [.int .i64 r.x, .int .i64 r.y, .bool r.far], 30), (w.heap.size, [.int .i64 q.x, .int .i64 q.y, .bool q.far], 30)] w w7) := HM.out.below k1
  clear HM k1
  have HM : Hid (Mn [(w6.heap.size + 1, [.int .i64 q.x, .int .i64 q.y, .bool q.far], 30), (w6.heap.size, [.int .i64 0, .int .i64 0], 23), (w5.heap.size, [.int .i64 t.x, .int .i64 t.y, .bool t.far], 30), (w2.heap.size, [.int .i64 0, .int .i64 0], 23), (w1.heap.size + 2, [.int .i64 q.x, .int .i64 q.y, .bool q.far, .int .i64 r.x, .int .i64 r.y, .bool r.far], 30), (w1.heap.size + 1, [.int .i64 0, .int .i64 0], 23), (w1.heap.size, [.int .i64 s.x, .int .i64 s.y, .bool s.far], 30), (w.heap.size + 1, [.int .i64 r.x, .int .i64 r.y, .bool r.far], 30), (w.heap.size, [.int .i64 q.x, .int .i64 q.y, .bool q.far], 30)] w w7) := HM'
  clear HM'
  have f20 : World.cell? w7 ⟨w2.heap.size, 0, none⟩ = some (.int .i64 0) := (HM.out.at 3 rfl).cell 0
  have f21 : World.cell? w7 ⟨w2.heap.size, 1, none⟩ = some (.int .i64 0) := (HM.out.at 3 rfl).cell 1
  have f22 : World.frozen? w7 ⟨w2.heap.size, 0, none⟩ = false := (HM.out.at 3 rfl).frozen 0
  have f23 : World.frozen? w7 ⟨w2.heap.size, 1, none⟩ = false := (HM.out.at 3 rfl).frozen 1
  have HM' : Hid (Mn [(w6.heap.size + 1, [.int .i64 q.x, .int .i64 q.y, .bool q.far], 30), (w6.heap.size, [.int .i64 0, .int .i64 0], 23), (w5.heap.size, [.int .i64 t.x, .int .i64 t.y, .bool t.far], 30), (w2.heap.size, [.int .i64 0, .int .i64 0], 23), (w1.heap.size + 2, [.int .i64 q.x, .int .i64 q.y, .bool q.far, .int .i64 r.x, .int .i64 r.y, .bool r.far], 30), (w1.heap.size + 1, [.int .i64 0, .int .i64 0], 23), (w1.heap.size, [.int .i64 s.x, .int .i64 s.y, .bool s.far], 30), (w.heap.size + 1, [.int .i64 r.x, .int .i64 r.y, .bool r.far], 30), (w.heap.size, [.int .i64 q.x, .int .i64 q.y, .bool q.far], 30)] w (World.setCell w7 ⟨w2.heap.size, 0, none⟩ (.int .i64 0))) := HM.out.set 3 rfl 0 (.int .i64 0)
  clear HM
  have HM : Hid (Mn [(w6.heap.size + 1, [.int .i64 q.x, .int .i64 q.y, .bool q.far], 30), (w6.heap.size, [.int .i64 0, .int .i64 0], 23), (w5.heap.size, [.int .i64 t.x, .int .i64 t.y, .bool t.far], 30), (w2.heap.size, [.int .i64 0, .int .i64 0], 23), (w1.heap.size + 2, [.int .i64 q.x, .int .i64 q.y, .bool q.far, .int .i64 r.x, .int .i64 r.y, .bool r.far], 30), (w1.heap.size + 1, [.int .i64 0, .int .i64 0], 23), (w1.heap.size, [.int .i64 s.x, .int .i64 s.y, .bool s.far], 30), (w.heap.size + 1, [.int .i64 r.x, .int .i64 r.y, .bool r.far], 30), (w.heap.size, [.int .i64 q.x, .int .i64 q.y, .bool q.far], 30)] w (World.setCell w7 ⟨w2.heap.size, 0, none⟩ (.int .i64 0))) := HM'
  clear HM'
  have HM' : Hid (Mn [(w6.heap.size + 1, [.int .i64 q.x, .int .i64 q.y, .bool q.far], 30), (w6.heap.size, [.int .i64 0, .int .i64 0], 23), (w5.heap.size, [.int .i64 t.x, .int .i64 t.y, .bool t.far], 30), (w2.heap.size, [.int .i64 0, .int .i64 0], 23), (w1.heap.size + 2, [.int .i64 q.x, .int .i64 q.y, .bool q.far, .int .i64 r.x, .int .i64 r.y, .bool r.far], 30), (w1.heap.size + 1, [.int .i64 0, .int .i64 0], 23), (w1.heap.size, [.int .i64 s.x, .int .i64 s.y, .bool s.far], 30), (w.heap.size + 1, [.int .i64 r.x, .int .i64 r.y, .bool r.far], 30), (w.heap.size, [.int .i64 q.x, .int .i64 q.y, .bool q.far], 30)] w (World.setCell (World.setCell w7 ⟨w2.heap.size, 0, none⟩ (.int .i64 0)) ⟨w2.heap.size, 1, none⟩ (.int .i64 0))) := HM.out.set 3 rfl 1 (.int .i64 0)
  clear HM
  have HM : Hid (Mn [(w6.heap.size + 1, [.int .i64 q.x, .int .i64 q.y, .bool q.far], 30), (w6.heap.size, [.int .i64 0, .int .i64 0], 23), (w5.heap.size, [.int .i64 t.x, .int .i64 t.y, .bool t.far], 30), (w2.heap.size, [.int .i64 0, .int .i64 0], 23), (w1.heap.size + 2, [.int .i64 q.x, .int .i64 q.y, .bool q.far, .int .i64 r.x, .int .i64 r.y, .bool r.far], 30), (w1.heap.size + 1, [.int .i64 0, .int .i64 0], 23), (w1.heap.size, [.int .i64 s.x, .int .i64 s.y, .bool s.far], 30), (w.heap.size + 1, [.int .i64 r.x, .int .i64 r.y, .bool r.far], 30), (w.heap.size, [.int .i64 q.x, .int .i64 q.y, .bool q.far], 30)] w (World.setCell (World.setCell w7 ⟨w2.heap.size, 0, none⟩ (.int .i64 0)) ⟨w2.heap.size, 1, none⟩ (.int .i64 0))) := HM'
  clear HM'
  have f24 : World.cell? (World.setCell (World.setCell w7 ⟨w2.heap.size, 0, none⟩ (.int .i64 0)) ⟨w2.heap.size, 1, none⟩ (.int .i64 0)) ⟨w2.heap.size, 0, none⟩ = some (.int .i64 0) := (HM.out.at 3 rfl).cell 0
  have f25 : World.cell? (World.setCell (World.setCell w7 ⟨w2.heap.size, 0, none⟩ (.int .i64 0)) ⟨w2.heap.size, 1, none⟩ (.int .i64 0)) ⟨w2.heap.size, 1, none⟩ = some (.int .i64 0) := (HM.out.at 3 rfl).cell 1
  have HM' : Hid (Mn [(w7.heap.size, [.int .i64 0, .int .i64 0], 23), (w6.heap.size + 1, [.int .i64 q.x, .int .i64 q.y, .bool q.far], 30), (w6.heap.size, [.int .i64 0, .int .i64 0], 23), (w5.heap.size, [.int .i64 t.x, .int .i64 t.y, .bool t.far], 30), (w2.heap.size, [.int .i64 0, .int .i64 0], 23), (w1.heap.size + 2, [.int .i64 q.x, .int .i64 q.y, .bool q.far, .int .i64 r.x, .int .i64 r.y, .bool r.far], 30), (w1.heap.size + 1, [.int .i64 0, .int .i64 0], 23), (w1.heap.size, [.int .i64 s.x, .int .i64 s.y, .bool s.far], 30), (w.heap.size + 1, [.int .i64 r.x, .int .i64 r.y, .bool r.far], 30), (w.heap.size, [.int .i64 q.x, .int .i64 q.y, .bool q.far], 30)] w (World.alloc (World.setCell (World.setCell w7 ⟨w2.heap.size, 0, none⟩ (.int .i64 0)) ⟨w2.heap.size, 1, none⟩ (.int .i64 0)) (.cells #[.int .i64 0, .int .i64 0] 23))) := HM.out.new [.int .i64 0, .int .i64 0] 23 (by simp)
  clear HM
  have HM : Hid (Mn [(w7.heap.size, [.int .i64 0, .int .i64 0], 23), (w6.heap.size + 1, [.int .i64 q.x, .int .i64 q.y, .bool q.far], 30), (w6.heap.size, [.int .i64 0, .int .i64 0], 23), (w5.heap.size, [.int .i64 t.x, .int .i64 t.y, .bool t.far], 30), (w2.heap.size, [.int .i64 0, .int .i64 0], 23), (w1.heap.size + 2, [.int .i64 q.x, .int .i64 q.y, .bool q.far, .int .i64 r.x, .int .i64 r.y, .bool r.far], 30), (w1.heap.size + 1, [.int .i64 0, .int .i64 0], 23), (w1.heap.size, [.int .i64 s.x, .int .i64 s.y, .bool s.far], 30), (w.heap.size + 1, [.int .i64 r.x, .int .i64 r.y, .bool r.far], 30), (w.heap.size, [.int .i64 q.x, .int .i64 q.y, .bool q.far], 30)] w (World.alloc (World.setCell (World.setCell w7 ⟨w2.heap.size, 0, none⟩ (.int .i64 0)) ⟨w2.heap.size, 1, none⟩ (.int .i64 0)) (.cells #[.int .i64 0, .int .i64 0] 23))) := HM'
  clear HM'
  have f26 : World.cell? (World.alloc (World.setCell (World.setCell w7 ⟨w2.heap.size, 0, none⟩ (.int .i64 0)) ⟨w2.heap.size, 1, none⟩ (.int .i64 0)) (.cells #[.int .i64 0, .int .i64 0] 23)) ⟨w2.heap.size, 0, none⟩ = some (.int .i64 0) := (HM.out.at 4 rfl).cell 0
  have f27 : World.cell? (World.alloc (World.setCell (World.setCell w7 ⟨w2.heap.size, 0, none⟩ (.int .i64 0)) ⟨w2.heap.size, 1, none⟩ (.int .i64 0)) (.cells #[.int .i64 0, .int .i64 0] 23)) ⟨w2.heap.size, 1, none⟩ = some (.int .i64 0) := (HM.out.at 4 rfl).cell 1
  go_wp2_with fail
  refine (number_any _ _).mono ?_
  rintro e w8 ⟨rfl, hw8⟩
  rw [hw8, hnum]
  clear hw8 w8
  have f28 : World.cell? (World.alloc (World.setCell (World.setCell w7 ⟨w2.heap.size, 0, none⟩ (.int .i64 0)) ⟨w2.heap.size, 1, none⟩ (.int .i64 0)) (.cells #[.int .i64 0, .int .i64 0] 23)) ⟨w2.heap.size, 0, none⟩ = some (.int .i64 0) := (HM.out.at 4 rfl).cell 0
  have f29 : World.cell? (World.alloc (World.setCell (World.setCell w7 ⟨w2.heap.size, 0, none⟩ (.int .i64 0)) ⟨w2.heap.size, 1, none⟩ (.int .i64 0)) (.cells #[.int .i64 0, .int .i64 0] 23)) ⟨w2.heap.size, 1, none⟩ = some (.int .i64 0) := (HM.out.at 4 rfl).cell 1
  have f30 : World.cell? (World.alloc (World.setCell (World.setCell w7 ⟨w2.heap.size, 0, none⟩ (.int .i64 0)) ⟨w2.heap.size, 1, none⟩ (.int .i64 0)) (.cells #[.int .i64 0, .int .i64 0] 23)) ⟨w1.heap.size + 1, 0, none⟩ = some (.int .i64 0) := (HM.out.at 6 rfl).cell 0
  have f31 : World.cell? (World.alloc (World.setCell (World.setCell w7 ⟨w2.heap.size, 0, none⟩ (.int .i64 0)) ⟨w2.heap.size, 1, none⟩ (.int .i64 0)) (.cells #[.int .i64 0, .int .i64 0] 23)) ⟨w1.heap.size + 1, 1, none⟩ = some (.int .i64 0) := (HM.out.at 6 rfl).cell 1
  have f32 : World.cell? (World.alloc (World.setCell (World.setCell w7 ⟨w2.heap.size, 0, none⟩ (.int .i64 0)) ⟨w2.heap.size, 1, none⟩ (.int .i64 0)) (.cells #[.int .i64 0, .int .i64 0] 23)) ⟨w6.heap.size, 0, none⟩ = some (.int .i64 0) := (HM.out.at 2 rfl).cell 0
  have f33 : World.cell? (World.alloc (World.setCell (World.setCell w7 ⟨w2.heap.size, 0, none⟩ (.int .i64 0)) ⟨w2.heap.size, 1, none⟩ (.int .i64 0)) (.cells #[.int .i64 0, .int .i64 0] 23)) ⟨w6.heap.size, 1, none⟩ = some (.int .i64 0) := (HM.out.at 2 rfl).cell 1
  have f34 : World.cell? (World.alloc (World.setCell (World.setCell w7 ⟨w2.heap.size, 0, none⟩ (.int .i64 0)) ⟨w2.heap.size, 1, none⟩ (.int .i64 0)) (.cells #[.int .i64 0, .int .i64 0] 23)) ⟨w7.heap.size, 0, none⟩ = some (.int .i64 0) := (HM.out.at 0 rfl).cell 0
  have f35 : World.cell? (World.alloc (World.setCell (World.setCell w7 ⟨w2.heap.size, 0, none⟩ (.int .i64 0)) ⟨w2.heap.size, 1, none⟩ (.int .i64 0)) (.cells #[.int .i64 0, .int .i64 0] 23)) ⟨w7.heap.size, 1, none⟩ = some (.int .i64 0) := (HM.out.at 0 rfl).cell 1
  have f36 : World.cell? (World.alloc (World.setCell (World.setCell w7 ⟨w2.heap.size, 0, none⟩ (.int .i64 0)) ⟨w2.heap.size, 1, none⟩ (.int .i64 0)) (.cells #[.int .i64 0, .int .i64 0] 23)) ⟨w5.heap.size, 0, none⟩ = some (.int .i64 t.x) := (HM.out.at 3 rfl).cell 0
  have f37 : World.cell? (World.alloc (World.setCell (World.setCell w7 ⟨w2.heap.size, 0, none⟩ (.int .i64 0)) ⟨w2.heap.size, 1, none⟩ (.int .i64 0)) (.cells #[.int .i64 0, .int .i64 0] 23)) ⟨w5.heap.size, 1, none⟩ = some (.int .i64 t.y) := (HM.out.at 3 rfl).cell 1
  have f38 : World.cell? (World.alloc (World.setCell (World.setCell w7 ⟨w2.heap.size, 0, none⟩ (.int .i64 0)) ⟨w2.heap.size, 1, none⟩ (.int .i64 0)) (.cells #[.int .i64 0, .int .i64 0] 23)) ⟨w5.heap.size, 2, none⟩ = some (.bool t.far) := (HM.out.at 3 rfl).cell 2
  have f39 : World.cell? (World.alloc (World.setCell (World.setCell w7 ⟨w2.heap.size, 0, none⟩ (.int .i64 0)) ⟨w2.heap.size, 1, none⟩ (.int .i64 0)) (.cells #[.int .i64 0, .int .i64 0] 23)) ⟨w.heap.size, 0, none⟩ = some (.int .i64 q.x) := (HM.out.at 9 rfl).cell 0
  have f40 : World.cell? (World.alloc (World.setCell (World.setCell w7 ⟨w2.heap.size, 0, none⟩ (.int .i64 0)) ⟨w2.heap.size, 1, none⟩ (.int .i64 0)) (.cells #[.int .i64 0, .int .i64 0] 23)) ⟨w.heap.size, 1, none⟩ = some (.int .i64 q.y) := (HM.out.at 9 rfl).cell 1
  have f41 : World.cell? (World.alloc (World.setCell (World.setCell w7 ⟨w2.heap.size, 0, none⟩ (.int .i64 0)) ⟨w2.heap.size, 1, none⟩ (.int .i64 0)) (.cells #[.int .i64 0, .int .i64 0] 23)) ⟨w.heap.size, 2, none⟩ = some (.bool q.far) := (HM.out.at 9 rfl).cell 2
  go_wp2_with fail
  refine (HCo.out _).mono ?_
  rintro e w9 ⟨rfl, k1⟩
  clear f20 f21 f22 f23 f24 f25 f26 f27 f28 f29 f30 f31 f32 f33 f34 f35 f36 f37 f38 f39 f40 f41
  have HM' : Hid (Mn [(w7.heap.size, [.int .i64 0, .int .i64 0], 23), (w6.heap.size + 1, [.int .i64 q.x, .int .i64 q.y, .bool q.far], 30), (w6.heap.size, [.int .i64 0, .int .i64 0], 23), (w5.heap.size, [.int .i64 t.x, .int .i64 t.y, .bool t.far], 30), (w2.heap.size, [.int .i64 0, .int .i64 0], 23), (w1.heap.size + 2, [.int .i64 q.x, .int .i64 q.y, .bool q.far, .int .i64 r.x, .int .i64 r.y, .bool r.far], 30), (w1.heap.size + 1, [.int .i64 0, .int .i64 0], 23), (w1.heap.size, [.int .i64 s.x, .int .i64 s.y, .bool s.far], 30), (w.heap.size + 1, [.int .i64 r.x, .int .i64 r.y, .bool r.far], 30), (w.heap.size, [.int .i64 q.x, .int .i64 q.y, .bool q.far], 30)] w w9) := HM.out.below k1
  clear HM k1
  have HM : Hid (Mn [(w7.heap.size, [.int .i64 0, .int .i64 0], 23), (w6.heap.size + 1, [.int .i64 q.x, .int .i64 q.y, .bool q.far], 30), (w6.heap.size, [.int .i64 0, .int .i64 0], 23), (w5.heap.size, [.int .i64 t.x, .int .i64 t.y, .bool t.far], 30), (w2.heap.size, [.int .i64 0, .int .i64 0], 23), (w1.heap.size + 2, [.int .i64 q.x, .int .i64 q.y, .bool q.far, .int .i64 r.x, .int .i64 r.y, .bool r.far], 30), (w1.heap.size + 1, [.int .i64 0, .int .i64 0], 23), (w1.heap.size, [.int .i64 s.x, .int .i64 s.y, .bool s.far], 30), (w.heap.size + 1, [.int .i64 r.x, .int .i64 r.y, .bool r.far], 30), (w.heap.size, [.int .i64 q.x, .int .i64 q.y, .bool q.far], 30)] w w9) := HM'
  clear HM'
  have f42 : World.cell? w9 ⟨w2.heap.size, 0, none⟩ = some (.int .i64 0) := (HM.out.at 4 rfl).cell 0
  have f43 : World.cell? w9 ⟨w2.heap.size, 1, none⟩ = some (.int .i64 0) := (HM.out.at 4 rfl).cell 1
  have HM' : Hid (Mn [(w9.heap.size, [.int .i64 0, .int .i64 0, .bool true], 30), (w7.heap.size, [.int .i64 0, .int .i64 0], 23), (w6.heap.size + 1, [.int .i64 q.x, .int .i64 q.y, .bool q.far], 30), (w6.heap.size, [.int .i64 0, .int .i64 0], 23), (w5.heap.size, [.int .i64 t.x, .int .i64 t.y, .bool t.far], 30), (w2.heap.size, [.int .i64 0, .int .i64 0], 23), (w1.heap.size + 2, [.int .i64 q.x, .int .i64 q.y, .bool q.far, .int .i64 r.x, .int .i64 r.y, .bool r.far], 30), (w1.heap.size + 1, [.int .i64 0, .int .i64 0], 23), (w1.heap.size, [.int .i64 s.x, .int .i64 s.y, .bool s.far], 30), (w.heap.size + 1, [.int .i64 r.x, .int .i64 r.y, .bool r.far], 30), (w.heap.size, [.int .i64 q.x, .int .i64 q.y, .bool q.far], 30)] w (World.alloc w9 (.cells #[.int .i64 0, .int .i64 0, .bool true] 30))) := HM.out.new [.int .i64 0, .int .i64 0, .bool true] 30 (by simp)
  clear HM
  have HM : Hid (Mn [(w9.heap.size, [.int .i64 0, .int .i64 0, .bool true], 30), (w7.heap.size, [.int .i64 0, .int .i64 0], 23), (w6.heap.size + 1, [.int .i64 q.x, .int .i64 q.y, .bool q.far], 30), (w6.heap.size, [.int .i64 0, .int .i64 0], 23), (w5.heap.size, [.int .i64 t.x, .int .i64 t.y, .bool t.far], 30), (w2.heap.size, [.int .i64 0, .int .i64 0], 23), (w1.heap.size + 2, [.int .i64 q.x, .int .i64 q.y, .bool q.far, .int .i64 r.x, .int .i64 r.y, .bool r.far], 30), (w1.heap.size + 1, [.int .i64 0, .int .i64 0], 23), (w1.heap.size, [.int .i64 s.x, .int .i64 s.y, .bool s.far], 30), (w.heap.size + 1, [.int .i64 r.x, .int .i64 r.y, .bool r.far], 30), (w.heap.size, [.int .i64 q.x, .int .i64 q.y, .bool q.far], 30)] w (World.alloc w9 (.cells #[.int .i64 0, .int .i64 0, .bool true] 30))) := HM'
  clear HM'
  obtain ⟨W9, hW9⟩ : ∃ W9, W9 = (World.alloc w9 (.cells #[.int .i64 0, .int .i64 0, .bool true] 30)) := ⟨_, rfl⟩
  rw [← hW9] at HM
  go_wp2
  rw [← hW9]
  clear hW9
  go_loopw [22] (fun iv wx => ∃ i : Nat, i ≤ R ∧ iv = .int .i64 i ∧ Hid (Mn [(w9.heap.size, Pl (EC.mu P a q i), 30), (w7.heap.size, [.int .i64 0, .int .i64 0], 23), (w6.heap.size + 1, [.int .i64 q.x, .int .i64 q.y, .bool q.far], 30), (w6.heap.size, [.int .i64 0, .int .i64 0], 23), (w5.heap.size, [.int .i64 t.x, .int .i64 t.y, .bool t.far], 30), (w2.heap.size, [.int .i64 0, .int .i64 0], 23), (w1.heap.size + 2, [.int .i64 q.x, .int .i64 q.y, .bool q.far, .int .i64 r.x, .int .i64 r.y, .bool r.far], 30), (w1.heap.size + 1, [.int .i64 0, .int .i64 0], 23), (w1.heap.size, [.int .i64 s.x, .int .i64 s.y, .bool s.far], 30), (w.heap.size + 1, [.int .i64 r.x, .int .i64 r.y, .bool r.far], 30), (w.heap.size, [.int .i64 q.x, .int .i64 q.y, .bool q.far], 30)] w wx)) (fun iv _ => R - (intOf iv).toNat)
  case atStart => exact ⟨0, by omega, rfl, HM.out⟩
  case round =>
    clear f42 f43
    obtain ⟨i, hi, rfl, HM'⟩ := hrel
    clear HM
    have HM : Hid (Mn [(w9.heap.size, Pl (EC.mu P a q i), 30), (w7.heap.size, [.int .i64 0, .int .i64 0], 23), (w6.heap.size + 1, [.int .i64 q.x, .int .i64 q.y, .bool q.far], 30), (w6.heap.size, [.int .i64 0, .int .i64 0], 23), (w5.heap.size, [.int .i64 t.x, .int .i64 t.y, .bool t.far], 30), (w2.heap.size, [.int .i64 0, .int .i64 0], 23), (w1.heap.size + 2, [.int .i64 q.x, .int .i64 q.y, .bool q.far, .int .i64 r.x, .int .i64 r.y, .bool r.far], 30), (w1.heap.size + 1, [.int .i64 0, .int .i64 0], 23), (w1.heap.size, [.int .i64 s.x, .int .i64 s.y, .bool s.far], 30), (w.heap.size + 1, [.int .i64 r.x, .int .i64 r.y, .bool r.far], 30), (w.heap.size, [.int .i64 q.x, .int .i64 q.y, .bool q.far], 30)] w wr) := HM'
    clear HM'
    by_cases hlt : i < R
    · have HAs : Hid (∀ w, Calls Tryd.prog 16 #[.int .i64 P, .int .i64 a, Pv (EC.mu P a q i), Pv q] w fun e w' => e = .returned (Pv (EC.mu P a q (i + 1))) ∧ Below w.heap.size w w') := fun w => Added_any P a b _ q w HC.out.1 (mu_on HC.out.1 HC.out.2 i) HC.out.2
      obtain ⟨u, hu⟩ : ∃ u, EC.mu P a q i = u := ⟨_, rfl⟩
      obtain ⟨v, hv⟩ : ∃ u, EC.mu P a q (i + 1) = u := ⟨_, rfl⟩
      have HV : Hid (EC.mu P a q (i + 1) = v) := hv
      rw [hu] at HM HAs
      rw [hv] at HAs
      clear hu hv
      unfold Pl at HM
      unfold Pv at HAs
      go_wp2_with fail
      refine (HLf.out _).mono ?_
      rintro e w10 ⟨rfl, hw10⟩
      rw [hw10]
      clear hw10 w10
      have f44 : World.cell? wr ⟨w9.heap.size, 0, none⟩ = some (.int .i64 u.x) := (HM.out.at 0 rfl).cell 0
      have f45 : World.cell? wr ⟨w9.heap.size, 1, none⟩ = some (.int .i64 u.y) := (HM.out.at 0 rfl).cell 1
      have f46 : World.cell? wr ⟨w9.heap.size, 2, none⟩ = some (.bool u.far) := (HM.out.at 0 rfl).cell 2
      have f47 : World.cell? wr ⟨w.heap.size, 0, none⟩ = some (.int .i64 q.x) := (HM.out.at 10 rfl).cell 0
      have f48 : World.cell? wr ⟨w.heap.size, 1, none⟩ = some (.int .i64 q.y) := (HM.out.at 10 rfl).cell 1
      have f49 : World.cell? wr ⟨w.heap.size, 2, none⟩ = some (.bool q.far) := (HM.out.at 10 rfl).cell 2
      go_wp2_with fail
      refine (HAs.out _).mono ?_
      rintro e w11 ⟨rfl, k1⟩
      clear f44 f45 f46 f47 f48 f49
      have HM' : Hid (Mn [(w9.heap.size, [.int .i64 u.x, .int .i64 u.y, .bool u.far], 30), (w7.heap.size, [.int .i64 0, .int .i64 0], 23), (w6.heap.size + 1, [.int .i64 q.x, .int .i64 q.y, .bool q.far], 30), (w6.heap.size, [.int .i64 0, .int .i64 0], 23), (w5.heap.size, [.int .i64 t.x, .int .i64 t.y, .bool t.far], 30), (w2.heap.size, [.int .i64 0, .int .i64 0], 23), (w1.heap.size + 2, [.int .i64 q.x, .int .i64 q.y, .bool q.far, .int .i64 r.x, .int .i64 r.y, .bool r.far], 30), (w1.heap.size + 1, [.int .i64 0, .int .i64 0], 23), (w1.heap.size, [.int .i64 s.x, .int .i64 s.y, .bool s.far], 30), (w.heap.size + 1, [.int .i64 r.x, .int .i64 r.y, .bool r.far], 30), (w.heap.size, [.int .i64 q.x, .int .i64 q.y, .bool q.far], 30)] w w11) := HM.out.below k1
      clear HM k1
      have HM : Hid (Mn [(w9.heap.size, [.int .i64 u.x, .int .i64 u.y, .bool u.far], 30), (w7.heap.size, [.int .i64 0, .int .i64 0], 23), (w6.heap.size + 1, [.int .i64 q.x, .int .i64 q.y, .bool q.far], 30), (w6.heap.size, [.int .i64 0, .int .i64 0], 23), (w5.heap.size, [.int .i64 t.x, .int .i64 t.y, .bool t.far], 30), (w2.heap.size, [.int .i64 0, .int .i64 0], 23), (w1.heap.size + 2, [.int .i64 q.x, .int .i64 q.y, .bool q.far, .int .i64 r.x, .int .i64 r.y, .bool r.far], 30), (w1.heap.size + 1, [.int .i64 0, .int .i64 0], 23), (w1.heap.size, [.int .i64 s.x, .int .i64 s.y, .bool s.far], 30), (w.heap.size + 1, [.int .i64 r.x, .int .i64 r.y, .bool r.far], 30), (w.heap.size, [.int .i64 q.x, .int .i64 q.y, .bool q.far], 30)] w w11) := HM'
      clear HM'
      have f50 : World.cell? w11 ⟨w9.heap.size, 0, none⟩ = some (.int .i64 u.x) := (HM.out.at 0 rfl).cell 0
      have f51 : World.cell? w11 ⟨w9.heap.size, 1, none⟩ = some (.int .i64 u.y) := (HM.out.at 0 rfl).cell 1
      have f52 : World.cell? w11 ⟨w9.heap.size, 2, none⟩ = some (.bool u.far) := (HM.out.at 0 rfl).cell 2
      have f53 : World.frozen? w11 ⟨w9.heap.size, 0, none⟩ = false := (HM.out.at 0 rfl).frozen 0
      have f54 : World.frozen? w11 ⟨w9.heap.size, 1, none⟩ = false := (HM.out.at 0 rfl).frozen 1
      have f55 : World.frozen? w11 ⟨w9.heap.size, 2, none⟩ = false := (HM.out.at 0 rfl).frozen 2
      have HM' : Hid (Mn [(w9.heap.size, [.int .i64 v.x, .int .i64 u.y, .bool u.far], 30), (w7.heap.size, [.int .i64 0, .int .i64 0], 23), (w6.heap.size + 1, [.int .i64 q.x, .int .i64 q.y, .bool q.far], 30), (w6.heap.size, [.int .i64 0, .int .i64 0], 23), (w5.heap.size, [.int .i64 t.x, .int .i64 t.y, .bool t.far], 30), (w2.heap.size, [.int .i64 0, .int .i64 0], 23), (w1.heap.size + 2, [.int .i64 q.x, .int .i64 q.y, .bool q.far, .int .i64 r.x, .int .i64 r.y, .bool r.far], 30), (w1.heap.size + 1, [.int .i64 0, .int .i64 0], 23), (w1.heap.size, [.int .i64 s.x, .int .i64 s.y, .bool s.far], 30), (w.heap.size + 1, [.int .i64 r.x, .int .i64 r.y, .bool r.far], 30), (w.heap.size, [.int .i64 q.x, .int .i64 q.y, .bool q.far], 30)] w (World.setCell w11 ⟨w9.heap.size, 0, none⟩ (.int .i64 v.x))) := HM.out.set 0 rfl 0 (.int .i64 v.x)
      clear HM
      have HM : Hid (Mn [(w9.heap.size, [.int .i64 v.x, .int .i64 u.y, .bool u.far], 30), (w7.heap.size, [.int .i64 0, .int .i64 0], 23), (w6.heap.size + 1, [.int .i64 q.x, .int .i64 q.y, .bool q.far], 30), (w6.heap.size, [.int .i64 0, .int .i64 0], 23), (w5.heap.size, [.int .i64 t.x, .int .i64 t.y, .bool t.far], 30), (w2.heap.size, [.int .i64 0, .int .i64 0], 23), (w1.heap.size + 2, [.int .i64 q.x, .int .i64 q.y, .bool q.far, .int .i64 r.x, .int .i64 r.y, .bool r.far], 30), (w1.heap.size + 1, [.int .i64 0, .int .i64 0], 23), (w1.heap.size, [.int .i64 s.x, .int .i64 s.y, .bool s.far], 30), (w.heap.size + 1, [.int .i64 r.x, .int .i64 r.y, .bool r.far], 30), (w.heap.size, [.int .i64 q.x, .int .i64 q.y, .bool q.far], 30)] w (World.setCell w11 ⟨w9.heap.size, 0, none⟩ (.int .i64 v.x))) := HM'
      clear HM'
      have HM' : Hid (Mn [(w9.heap.size, [.int .i64 v.x, .int .i64 v.y, .bool u.far], 30), (w7.heap.size, [.int .i64 0, .int .i64 0], 23), (w6.heap.size + 1, [.int .i64 q.x, .int .i64 q.y, .bool q.far], 30), (w6.heap.size, [.int .i64 0, .int .i64 0], 23), (w5.heap.size, [.int .i64 t.x, .int .i64 t.y, .bool t.far], 30), (w2.heap.size, [.int .i64 0, .int .i64 0], 23), (w1.heap.size + 2, [.int .i64 q.x, .int .i64 q.y, .bool q.far, .int .i64 r.x, .int .i64 r.y, .bool r.far], 30), (w1.heap.size + 1, [.int .i64 0, .int .i64 0], 23), (w1.heap.size, [.int .i64 s.x, .int .i64 s.y, .bool s.far], 30), (w.heap.size + 1, [.int .i64 r.x, .int .i64 r.y, .bool r.far], 30), (w.heap.size, [.int .i64 q.x, .int .i64 q.y, .bool q.far], 30)] w (World.setCell (World.setCell w11 ⟨w9.heap.size, 0, none⟩ (.int .i64 v.x)) ⟨w9.heap.size, 1, none⟩ (.int .i64 v.y))) := HM.out.set 0 rfl 1 (.int .i64 v.y)
      clear HM
      have HM : Hid (Mn [(w9.heap.size, [.int .i64 v.x, .int .i64 v.y, .bool u.far], 30), (w7.heap.size, [.int .i64 0, .int .i64 0], 23), (w6.heap.size + 1, [.int .i64 q.x, .int .i64 q.y, .bool q.far], 30), (w6.heap.size, [.int .i64 0, .int .i64 0], 23), (w5.heap.size, [.int .i64 t.x, .int .i64 t.y, .bool t.far], 30), (w2.heap.size, [.int .i64 0, .int .i64 0], 23), (w1.heap.size + 2, [.int .i64 q.x, .int .i64 q.y, .bool q.far, .int .i64 r.x, .int .i64 r.y, .bool r.far], 30), (w1.heap.size + 1, [.int .i64 0, .int .i64 0], 23), (w1.heap.size, [.int .i64 s.x, .int .i64 s.y, .bool s.far], 30), (w.heap.size + 1, [.int .i64 r.x, .int .i64 r.y, .bool r.far], 30), (w.heap.size, [.int .i64 q.x, .int .i64 q.y, .bool q.far], 30)] w (World.setCell (World.setCell w11 ⟨w9.heap.size, 0, none⟩ (.int .i64 v.x)) ⟨w9.heap.size, 1, none⟩ (.int .i64 v.y))) := HM'
      clear HM'
      have HM' : Hid (Mn [(w9.heap.size, [.int .i64 v.x, .int .i64 v.y, .bool v.far], 30), (w7.heap.size, [.int .i64 0, .int .i64 0], 23), (w6.heap.size + 1, [.int .i64 q.x, .int .i64 q.y, .bool q.far], 30), (w6.heap.size, [.int .i64 0, .int .i64 0], 23), (w5.heap.size, [.int .i64 t.x, .int .i64 t.y, .bool t.far], 30), (w2.heap.size, [.int .i64 0, .int .i64 0], 23), (w1.heap.size + 2, [.int .i64 q.x, .int .i64 q.y, .bool q.far, .int .i64 r.x, .int .i64 r.y, .bool r.far], 30), (w1.heap.size + 1, [.int .i64 0, .int .i64 0], 23), (w1.heap.size, [.int .i64 s.x, .int .i64 s.y, .bool s.far], 30), (w.heap.size + 1, [.int .i64 r.x, .int .i64 r.y, .bool r.far], 30), (w.heap.size, [.int .i64 q.x, .int .i64 q.y, .bool q.far], 30)] w (World.setCell (World.setCell (World.setCell w11 ⟨w9.heap.size, 0, none⟩ (.int .i64 v.x)) ⟨w9.heap.size, 1, none⟩ (.int .i64 v.y)) ⟨w9.heap.size, 2, none⟩ (.bool v.far))) := HM.out.set 0 rfl 2 (.bool v.far)
      clear HM
      have HM : Hid (Mn [(w9.heap.size, [.int .i64 v.x, .int .i64 v.y, .bool v.far], 30), (w7.heap.size, [.int .i64 0, .int .i64 0], 23), (w6.heap.size + 1, [.int .i64 q.x, .int .i64 q.y, .bool q.far], 30), (w6.heap.size, [.int .i64 0, .int .i64 0], 23), (w5.heap.size, [.int .i64 t.x, .int .i64 t.y, .bool t.far], 30), (w2.heap.size, [.int .i64 0, .int .i64 0], 23), (w1.heap.size + 2, [.int .i64 q.x, .int .i64 q.y, .bool q.far, .int .i64 r.x, .int .i64 r.y, .bool r.far], 30), (w1.heap.size + 1, [.int .i64 0, .int .i64 0], 23), (w1.heap.size, [.int .i64 s.x, .int .i64 s.y, .bool s.far], 30), (w.heap.size + 1, [.int .i64 r.x, .int .i64 r.y, .bool r.far], 30), (w.heap.size, [.int .i64 q.x, .int .i64 q.y, .bool q.far], 30)] w (World.setCell (World.setCell (World.setCell w11 ⟨w9.heap.size, 0, none⟩ (.int .i64 v.x)) ⟨w9.heap.size, 1, none⟩ (.int .i64 v.y)) ⟨w9.heap.size, 2, none⟩ (.bool v.far))) := HM'
      clear HM'
      go_wp2
      clear f50 f51 f52 f53 f54 f55
      go_roundw
      case rel => exact ⟨i + 1, by omega, by go_num, by rw [HV.out]; exact HM.out⟩
      case measure => simp [intOf]; omega
    · obtain rfl : R = i := by omega
      obtain ⟨u, hu⟩ : ∃ u, EC.mu P a q R = u := ⟨_, rfl⟩
      rw [hu] at HM
      have htu : t = u := by rw [← hu]; exact HTe.out
      subst htu
      clear hu
      unfold Pl at HM
      go_wp2_with fail
      refine (HLf.out _).mono ?_
      rintro e w10 ⟨rfl, hw10⟩
      rw [hw10]
      clear hw10 w10
      have f56 : World.cell? wr ⟨w9.heap.size, 0, none⟩ = some (.int .i64 t.x) := (HM.out.at 0 rfl).cell 0
      have f57 : World.cell? wr ⟨w9.heap.size, 1, none⟩ = some (.int .i64 t.y) := (HM.out.at 0 rfl).cell 1
      have f58 : World.cell? wr ⟨w9.heap.size, 2, none⟩ = some (.bool t.far) := (HM.out.at 0 rfl).cell 2
      have f59 : World.cell? wr ⟨w5.heap.size, 0, none⟩ = some (.int .i64 t.x) := (HM.out.at 4 rfl).cell 0
      have f60 : World.cell? wr ⟨w5.heap.size, 1, none⟩ = some (.int .i64 t.y) := (HM.out.at 4 rfl).cell 1
      have f61 : World.cell? wr ⟨w5.heap.size, 2, none⟩ = some (.bool t.far) := (HM.out.at 4 rfl).cell 2
      go_wp2
      go_ret
      exact ⟨rfl, HM.out.k⟩

theorem curve_adds (p a b n : Int) (q r : Pn) (w : World) (hT : Tb w) :
    Calls Tryd.prog 4 #[.int .i64 p, .int .i64 a, .int .i64 b, .int .i64 n, Pv q, Pv r] w fun e w' => e = .returned (.bool true) ∧ Below w.heap.size w w' := by
  obtain ⟨c, d, h⟩ := of_ex p a b [q, r]
  obtain ⟨c2, d2, h2⟩ := of_ex p a b [q]
  rcases h.cases with hc | ⟨rfl, rfl, P, rfl, hv, hon⟩
  · rcases h2.cases with hc2 | ⟨rfl, rfl, P, rfl, hv, hon⟩
    · exact adds_bad_bad p a b c d c2 d2 n q r w h hc h2 hc2 hT
    haveI := hv.nz
    have hq := hon q (by simp)
    obtain ⟨k, hk, hk2⟩ := od_ex hv hq
    have hk3 : k ≤ 4000001 := by
      have : P * P ≤ 2000 * 2000 := Nat.mul_le_mul hv.p2 hv.p2
      omega
    cases hnum : numB n
    · exact adds_bad_far P a b c d n q r k w h hc hv hq hk hk3 hnum hT
    · exact adds_bad_num P a b c d n q r k w h hc hv hq hk hk3 hnum hT
  · haveI := hv.nz
    have hq := hon q (by simp)
    have hr := hon r (by simp)
    obtain ⟨k, hk, hk2⟩ := od_ex hv hq
    have hk3 : k ≤ 4000001 := by
      have : P * P ≤ 2000 * 2000 := Nat.mul_le_mul hv.p2 hv.p2
      omega
    cases hnum : numB n
    · exact adds_ok_far P a b n q r k w hv hq hr hk hk3 hnum hT
    · exact adds_ok_num P a b n q r k w hv hq hr hk hk3 hnum hT

end Go.Proofs.YtbeceimopamllaaDoor
