/- FormGroup, the law's own walk: out of what is asked of the example and of Compose and Reduce. Written by group.py. -/
import Derived.Test.YtijkanilpblogaeFormCom
import Derived.Deep.CutBlock
set_option linter.unusedSimpArgs false
set_option linter.unusedVariables false
set_option maxRecDepth 100000
namespace Go.Proofs.Ytijkanilpblogae
open Go.RowKit

/-- What is asked of the example and of the two. -/
structure GroupIs (Bg : World → Prop) : Prop where
  keep : ∀ w w' : World, Bg w → Below w.heap.size w w' → Bg w'
  begun : ∀ w : World, Bg w → Calls Try.prog 9 #[] w fun e w' => e = .returned (.bool true) ∧ Below w.heap.size w w'
  compose : ∀ (f g : Qf) (w : World), Calls Try.prog 13 #[f.v, g.v] w fun e w' => ∃ h, e = .returned (.tuple #[h.v, ffv (compF f g)]) ∧ ComOut f g h ∧ Below w.heap.size w w'
  reduce : ∀ (f : Qf) (w : World), Calls Try.prog 20 #[f.v] w fun e w' => ∃ g m, e = .returned (.tuple #[g.v, m.v, ffv (ffault f)]) ∧ RedOut f g m ∧ Below w.heap.size w w'

theorem first_fault {f : Qf} (h : ffault f = (0, 0)) (hd : -1000000 ≤ f.disc) : ffault (firstOf f.disc) = (0, 0) := by
  obtain ⟨_, _, h2, _⟩ := ffault_ok h
  have o := firstOf_is (f := f)
  have hc : (firstOf f.disc).c = (if f.disc % 4 = 0 then -f.disc / 4 else (1 - f.disc) / 4) := by unfold firstOf; split <;> rfl
  have oa := o.a
  have ob := o.b
  refine ffault_of ⟨by omega, by omega, by omega, by omega, ?_, ?_⟩ (by omega) (by rw [o.disc]; exact h2) ?_
  · rw [hc]; split <;> omega
  · rw [hc]; split <;> omega
  · rw [oa]; simp
theorem bar_disc (f : Qf) : Qf.disc ⟨f.a, -f.b, f.c⟩ = f.disc := by unfold Qf.disc; simp only [Int.neg_mul_neg]
theorem bar_fault {f : Qf} (h : ffault f = (0, 0)) : ffault ⟨f.a, -f.b, f.c⟩ = (0, 0) := by
  obtain ⟨⟨a1, a2, a3, a4, a5, a6⟩, h1, h2, h3⟩ := ffault_ok h
  refine ffault_of ⟨a1, a2, by show -1000000 ≤ -f.b; omega, by show -f.b ≤ 1000000; omega, a5, a6⟩ h1 ?_ ?_
  · rw [bar_disc]; exact h2
  · simpa using h3
/-- The cells that are read. -/
abbrev S7 (f h : Qf) (c : Int) (b b2 : Nat) (W : World) : Prop :=
  W.cell? ⟨b, 0, none⟩ = some (.int .i64 f.a) ∧ W.cell? ⟨b, 1, none⟩ = some (.int .i64 f.b) ∧ W.cell? ⟨b, 2, none⟩ = some (.int .i64 f.c) ∧
  W.cell? ⟨b + 1 + 1, 0, none⟩ = some (.int .i64 h.a) ∧ W.cell? ⟨b + 1 + 1, 1, none⟩ = some (.int .i64 h.b) ∧ W.cell? ⟨b + 1 + 1, 2, none⟩ = some (.int .i64 h.c) ∧
  W.cell? ⟨b2 + 1, 0, none⟩ = some (.int .i64 c)

abbrev S3q (f : Qf) (b : Nat) (W : World) : Prop := W.cell? ⟨b, 0, none⟩ = some (.int .i64 f.a) ∧ W.cell? ⟨b, 1, none⟩ = some (.int .i64 f.b) ∧ W.cell? ⟨b, 2, none⟩ = some (.int .i64 f.c)

set_option maxRecDepth 100000 in
set_option maxHeartbeats 8000000 in
theorem fg_start (Bg : World → Prop) (G : GroupIs Bg) (f g h : Qf) (w : World) (hbg : Bg w) :
    Calls Try.prog 5 #[f.v, g.v, h.v] w fun e w' => e = .returned (.bool true) ∧ Below w.heap.size w w' := by
  have HG : Hid (GroupIs Bg) := G
  have HBG : Hid (Bg w) := hbg
  clear G hbg
  have HCo : Hid (∀ x y w, ffault x = (0, 0) → ffault y = (0, 0) → x.disc = y.disc → -1000000 ≤ x.disc → Calls Try.prog 13 #[x.v, y.v] w fun e w' => ∃ z : Qf, e = .returned (.tuple #[z.v, ffv (0, 0)]) ∧ (MQ.Cz x y z ∧ ffault z = (0, 0)) ∧ Below w.heap.size w w') := fun x y w h1 h2 h3 h4 => by
    have hc := compF_ok h1 h2 h3
    refine (HG.out.compose x y w).mono ?_
    rintro e w' ⟨z, rfl, ho, k⟩
    rw [hc]
    exact ⟨z, rfl, com_fault (ffault_ok h1).2.2.1 h4 (ho.good hc), k⟩
  have HRe : Hid (∀ x w, ffault x = (0, 0) → Calls Try.prog 20 #[x.v] w fun e w' => ∃ (z : Qf) (m : Mt), e = .returned (.tuple #[z.v, m.v, ffv (0, 0)]) ∧ Rd x z m ∧ Below w.heap.size w w') := fun x w h1 => by
    refine (HG.out.reduce x w).mono ?_
    rintro e w' ⟨z, m, rfl, ho, k⟩
    rw [h1]
    exact ⟨z, m, rfl, ho.good h1, k⟩
  obtain ⟨c, d, hcd⟩ : ∃ c d, compF f g = (c, d) := ⟨_, _, rfl⟩
  have HCD : Hid (compF f g = (c, d)) := hcd
  have HC1 : Hid (∀ w, Calls Try.prog 13 #[f.v, g.v] w fun e w' => ∃ z : Qf, e = .returned (.tuple #[z.v, ffv (c, d)]) ∧ ComOut f g z ∧ Below w.heap.size w w') := fun w => by rw [← hcd]; exact HG.out.compose f g w
  clear hcd
  have HFh : Hid (∀ w, Calls Try.prog 14 #[h.v] w fun e w' => e = .returned (.agg #[.int .i64 (ffault h).1, .int .i64 (ffault h).2]) ∧ Below w.heap.size w w') := fun w => refFormFault_any h w
  have HDh : Hid (∀ w, Calls Try.prog 15 #[h.v] w fun e w' => (∃ D : Int, e = .returned (.int .i64 D) ∧ (h.upto 1000000 → D = h.disc)) ∧ Below w.heap.size w w') := fun w => refDisc_wild h w
  unfold Qf.v at HC1 HFh HDh ⊢
  go_enter Try.func5, Try.ntmps5
  go_wp2_with fail
  have HM0 : Hid (Ms [(w.heap.size, f.l, 32), (w.heap.size + 1, g.l, 32), (w.heap.size + 1 + 1, h.l, 32)] w (((w.alloc (.cells #[.int .i64 f.a, .int .i64 f.b, .int .i64 f.c] 32)).alloc (.cells #[.int .i64 g.a, .int .i64 g.b, .int .i64 g.c] 32)).alloc (.cells #[.int .i64 h.a, .int .i64 h.b, .int .i64 h.c] 32))) := by
    refine ⟨fun x hx => ?_, ((al1 w _).trans ((al1 _ _).mono (by simp))).trans ((al1 _ _).mono (by simp; omega))⟩
    simp only [List.mem_cons, List.not_mem_nil, or_false] at hx
    rcases hx with rfl | rfl | rfl
    · exact ((Cl.new f.l _ w).alloc _).alloc _
    · exact (cl_new0 _ g.l _ _ (by simp)).alloc _
    · exact cl_new0 _ h.l _ _ (by simp)
  refine (HG.out.begun _ (HG.out.keep _ _ HBG.out HM0.out.2)).mono ?_
  rintro e w1 ⟨rfl, k1⟩
  have HM1 : Hid (Ms [(w.heap.size, f.l, 32), (w.heap.size + 1, g.l, 32), (w.heap.size + 1 + 1, h.l, 32)] w w1) := HM0.out.below k1
  clear HM0 k1
  have q0 : w1.cell? ⟨w.heap.size, 0, none⟩ = some (.int .i64 f.a) := (HM1.out.1 _ (.head _)).cell 0
  have q1 : w1.cell? ⟨w.heap.size, 1, none⟩ = some (.int .i64 f.b) := (HM1.out.1 _ (.head _)).cell 1
  have q2 : w1.cell? ⟨w.heap.size, 2, none⟩ = some (.int .i64 f.c) := (HM1.out.1 _ (.head _)).cell 2
  have q3 : w1.cell? ⟨w.heap.size + 1, 0, none⟩ = some (.int .i64 g.a) := (HM1.out.1 _ (.tail _ (.head _))).cell 0
  have q4 : w1.cell? ⟨w.heap.size + 1, 1, none⟩ = some (.int .i64 g.b) := (HM1.out.1 _ (.tail _ (.head _))).cell 1
  have q5 : w1.cell? ⟨w.heap.size + 1, 2, none⟩ = some (.int .i64 g.c) := (HM1.out.1 _ (.tail _ (.head _))).cell 2
  go_wp2_with fail
  refine (HC1.out _).mono ?_
  rintro e w2 ⟨a, rfl, ha, k2⟩
  have HA : Hid (ComOut f g a) := ha
  clear ha
  obtain ⟨W2, hW2⟩ : ∃ W, W = ((w2.alloc (.cells #[.int .i64 a.a, .int .i64 a.b, .int .i64 a.c] 32)).alloc (.cells #[.int .i64 c, .int .i64 d] 24)) := ⟨_, rfl⟩
  have HM2 : Hid (Ms [(w2.heap.size, a.l, 32), (w2.heap.size + 1, [.int .i64 c, .int .i64 d], 24), (w.heap.size, f.l, 32), (w.heap.size + 1, g.l, 32), (w.heap.size + 1 + 1, h.l, 32)] w W2) := by
    have M := HM1.out.below k2
    have cB := al1 w2 (.cells #[.int .i64 a.a, .int .i64 a.b, .int .i64 a.c] 32)
    have cB := cB.trans ((al1 (w2.alloc (.cells #[.int .i64 a.a, .int .i64 a.b, .int .i64 a.c] 32)) (.cells #[.int .i64 c, .int .i64 d] 24)).mono (by simp))
    rw [← hW2] at cB
    refine ⟨fun x hx => ?_, (M.below cB).2⟩
    simp only [List.mem_cons, List.not_mem_nil, or_false] at hx
    rcases hx with rfl | rfl | hx
    · rw [hW2]; exact Cl.alloc (cl_new0 _ a.l _ _ (by simp)) _
    · rw [hW2]; exact cl_new0 _ [.int .i64 c, .int .i64 d] _ _ (by simp)
    · exact (M.below cB).1 _ (by simp only [List.mem_cons, List.not_mem_nil, or_false]; exact hx)
  clear q0 q1 q2 q3 q4 q5 k2 HM1
  have q0 : W2.cell? ⟨w.heap.size, 0, none⟩ = some (.int .i64 f.a) := (HM2.out.1 _ (.tail _ (.tail _ (.head _)))).cell 0
  have q1 : W2.cell? ⟨w.heap.size, 1, none⟩ = some (.int .i64 f.b) := (HM2.out.1 _ (.tail _ (.tail _ (.head _)))).cell 1
  have q2 : W2.cell? ⟨w.heap.size, 2, none⟩ = some (.int .i64 f.c) := (HM2.out.1 _ (.tail _ (.tail _ (.head _)))).cell 2
  have q3 : W2.cell? ⟨w.heap.size + 1 + 1, 0, none⟩ = some (.int .i64 h.a) := (HM2.out.1 _ (.tail _ (.tail _ (.tail _ (.tail _ (.head _)))))).cell 0
  have q4 : W2.cell? ⟨w.heap.size + 1 + 1, 1, none⟩ = some (.int .i64 h.b) := (HM2.out.1 _ (.tail _ (.tail _ (.tail _ (.tail _ (.head _)))))).cell 1
  have q5 : W2.cell? ⟨w.heap.size + 1 + 1, 2, none⟩ = some (.int .i64 h.c) := (HM2.out.1 _ (.tail _ (.tail _ (.tail _ (.tail _ (.head _)))))).cell 2
  rw [hW2] at q0 q1 q2 q3 q4 q5
  have q6 : W2.cell? ⟨w2.heap.size + 1, 0, none⟩ = some (.int .i64 c) := (HM2.out.1 _ (.tail _ (.head _))).cell 0
  rw [hW2] at q6
  rcases compF_code HCD.out with ⟨rfl, rfl⟩ | hc
  · obtain ⟨hff, hfg, hdd⟩ := compF_of HCD.out
    have HF : Hid (ffault f = (0, 0) ∧ ffault g = (0, 0) ∧ f.disc = g.disc) := ⟨hff, hfg, hdd⟩
    have HCa0 : Hid (MQ.Cz f g a ∧ Int.gcd (Int.gcd a.a a.b) a.c = 1) := HA.out.good HCD.out
    obtain ⟨hfu, _, hdn, _⟩ := ffault_ok hff
    obtain ⟨D, hD⟩ : ∃ D, D = f.disc := ⟨_, rfl⟩
    have HDD : Hid (D = f.disc) := hD
    have hDb : -4000000000000 ≤ D ∧ D < 0 := by
      obtain ⟨a1, a2, a3, a4, a5, a6⟩ := hfu
      have x1 := sq_nn f.b
      have x2 := sq_bd a1 a2 a5 a6
      have x3 : 4 * f.a * f.c = 4 * (f.a * f.c) := Int.mul_assoc ..
      rw [hD]; unfold Qf.disc at hdn ⊢
      omega
    have HDf : Hid (∀ w, Calls Try.prog 15 #[f.v] w fun e w' => e = .returned (.int .i64 D) ∧ Below w.heap.size w w') := fun w => by rw [hD]; exact refDisc_any f w hfu
    obtain ⟨c2, d2, hc2⟩ : ∃ c d, ffault h = (c, d) := ⟨_, _, rfl⟩
    have HC2 : Hid (ffault h = (c2, d2)) := hc2
    rw [hc2] at HFh
    unfold Qf.v at HDf
    clear hff hfg hdd hfu hdn hD hc2 HA HC1
    go_wp2_with fail
    rw [← hW2]
    have M2 := HM2.out.below ((Below.refl W2.heap.size W2).drew)
    have hS2 : S7 f h 0 w.heap.size w2.heap.size W2 := ⟨(HM2.out.1 _ (.tail _ (.tail _ (.head _)))).cell 0, (HM2.out.1 _ (.tail _ (.tail _ (.head _)))).cell 1, (HM2.out.1 _ (.tail _ (.tail _ (.head _)))).cell 2, (HM2.out.1 _ (.tail _ (.tail _ (.tail _ (.tail _ (.head _)))))).cell 0, (HM2.out.1 _ (.tail _ (.tail _ (.tail _ (.tail _ (.head _)))))).cell 1, (HM2.out.1 _ (.tail _ (.tail _ (.tail _ (.tail _ (.head _)))))).cell 2, (HM2.out.1 _ (.tail _ (.head _))).cell 0⟩
    refine wp_region_G (S7 f h 0 w.heap.size w2.heap.size) 20 (by kernel_rfl) hS2 (fun hHeld => ?_)
    clear hW2 hS2 HM2 q0 q1 q2 q3 q4 q5 q6
    refine wpAnyG_take (i := 0) (v := ?v0x1) rfl (by kernel_rfl) (fun _ _ _ h => h) (Or.inl ⟨by rfl, ?y0x1⟩) hHeld ?r0x1
    case y0x1 => (intro wS hSw; obtain ⟨s1, s2, s3, s4, s5, s6, s7⟩ := hSw; go_simp; try with_reducible rfl)
    try simp only [Act.put, List.setIfInBounds_toArray, List.set_cons_zero, List.set_cons_succ]
    refine wpAnyG_take (i := 1) (v := ?v1x2) rfl (by kernel_rfl) (fun _ _ _ h => h) (Or.inl ⟨by rfl, ?y1x2⟩) hHeld ?r1x2
    case y1x2 => (intro wS hSw; obtain ⟨s1, s2, s3, s4, s5, s6, s7⟩ := hSw; go_simp; try with_reducible rfl)
    try simp only [Act.put, List.setIfInBounds_toArray, List.set_cons_zero, List.set_cons_succ]
    refine wpAnyG_take (i := 2) (v := .bool false) rfl (by kernel_rfl) (fun _ _ _ h => h) (Or.inl ⟨by kernel_rfl, ?y2x3⟩) hHeld ?r2x3
    case y2x3 => (intro wS hSw; (go_simp; try rfl))
    try simp only [Act.put, List.setIfInBounds_toArray, List.set_cons_zero, List.set_cons_succ]
    refine wpAnyG_take (i := 3) (v := .bool false) rfl (by kernel_rfl) (fun _ _ _ h => h) (Or.inl ⟨by kernel_rfl, ?y3x4⟩) hHeld ?r3x4
    case y3x4 => (intro wS hSw; (go_simp; try rfl))
    try simp only [Act.put, List.setIfInBounds_toArray, List.set_cons_zero, List.set_cons_succ]
    refine wpAnyG_take (i := 4) (v := ?v4x5) rfl (by kernel_rfl) (fun _ _ _ h => h) (Or.inl ⟨by kernel_rfl, ?y4x5⟩) hHeld ?r4x5
    case y4x5 => (intro wS hSw; have s1 := hSw; go_simp; try with_reducible rfl)
    try simp only [Act.put, List.setIfInBounds_toArray, List.set_cons_zero, List.set_cons_succ]
    refine wpAnyG_take (i := 6) (v := ?v6x6) rfl (by kernel_rfl) (fun _ _ _ h => h) (Or.inl ⟨by kernel_rfl, ?y6x6⟩) hHeld ?r6x6
    case y6x6 => (intro wS hSw; have s1 := hSw; go_simp; try with_reducible rfl)
    try simp only [Act.put, List.setIfInBounds_toArray, List.set_cons_zero, List.set_cons_succ]
    refine wpAnyG_one (i := 5) rfl (by kernel_rfl) (fun K hK => ?_)
    rw [if_pos (by kernel_rfl)]
    go_simp
    refine (HDf.out _).mono ?_
    rintro e ua ⟨rfl, kua⟩
    have Ma := M2.below kua
    refine hK.out _ _ ⟨(Ma.1 _ (.tail _ (.tail _ (.head _)))).cell 0, (Ma.1 _ (.tail _ (.tail _ (.head _)))).cell 1, (Ma.1 _ (.tail _ (.tail _ (.head _)))).cell 2, (Ma.1 _ (.tail _ (.tail _ (.tail _ (.tail _ (.head _)))))).cell 0, (Ma.1 _ (.tail _ (.tail _ (.tail _ (.tail _ (.head _)))))).cell 1, (Ma.1 _ (.tail _ (.tail _ (.tail _ (.tail _ (.head _)))))).cell 2, (Ma.1 _ (.tail _ (.head _))).cell 0⟩ ?_
    clear hK K
    try simp only [Act.put, List.setIfInBounds_toArray, List.set_cons_zero, List.set_cons_succ]
    clear hHeld
    have hHeld : S7 f h 0 w.heap.size w2.heap.size ua := ⟨(Ma.1 _ (.tail _ (.tail _ (.head _)))).cell 0, (Ma.1 _ (.tail _ (.tail _ (.head _)))).cell 1, (Ma.1 _ (.tail _ (.tail _ (.head _)))).cell 2, (Ma.1 _ (.tail _ (.tail _ (.tail _ (.tail _ (.head _)))))).cell 0, (Ma.1 _ (.tail _ (.tail _ (.tail _ (.tail _ (.head _)))))).cell 1, (Ma.1 _ (.tail _ (.tail _ (.tail _ (.tail _ (.head _)))))).cell 2, (Ma.1 _ (.tail _ (.head _))).cell 0⟩
    refine wpAnyG_one (i := 7) rfl (by kernel_rfl) (fun K hK => ?_)
    rw [if_pos (by kernel_rfl)]
    go_simp
    refine (HDh.out _).mono ?_
    rintro e ub ⟨⟨D2, rfl, hD2⟩, kub⟩
    have Mb := Ma.below kub
    refine hK.out _ _ ⟨(Mb.1 _ (.tail _ (.tail _ (.head _)))).cell 0, (Mb.1 _ (.tail _ (.tail _ (.head _)))).cell 1, (Mb.1 _ (.tail _ (.tail _ (.head _)))).cell 2, (Mb.1 _ (.tail _ (.tail _ (.tail _ (.tail _ (.head _)))))).cell 0, (Mb.1 _ (.tail _ (.tail _ (.tail _ (.tail _ (.head _)))))).cell 1, (Mb.1 _ (.tail _ (.tail _ (.tail _ (.tail _ (.head _)))))).cell 2, (Mb.1 _ (.tail _ (.head _))).cell 0⟩ ?_
    clear hK K
    try simp only [Act.put, List.setIfInBounds_toArray, List.set_cons_zero, List.set_cons_succ]
    clear hHeld
    have hHeld : S7 f h 0 w.heap.size w2.heap.size ub := ⟨(Mb.1 _ (.tail _ (.tail _ (.head _)))).cell 0, (Mb.1 _ (.tail _ (.tail _ (.head _)))).cell 1, (Mb.1 _ (.tail _ (.tail _ (.head _)))).cell 2, (Mb.1 _ (.tail _ (.tail _ (.tail _ (.tail _ (.head _)))))).cell 0, (Mb.1 _ (.tail _ (.tail _ (.tail _ (.tail _ (.head _)))))).cell 1, (Mb.1 _ (.tail _ (.tail _ (.tail _ (.tail _ (.head _)))))).cell 2, (Mb.1 _ (.tail _ (.head _))).cell 0⟩
    have HD2 : Hid (h.upto 1000000 → D2 = h.disc) := hD2
    clear hD2
    by_cases hDE : D = D2
    · obtain rfl := hDE
      refine wpAnyG_take (i := 8) (v := .bool false) rfl (by kernel_rfl) (fun _ _ _ h => h) (Or.inl ⟨by kernel_rfl, ?y8x7⟩) hHeld ?r8x7
      case y8x7 => (intro wS hSw; (go_simp; try simp))
      try simp only [Act.put, List.setIfInBounds_toArray, List.set_cons_zero, List.set_cons_succ]
      refine wpAnyG_take (i := 9) (v := .bool false) rfl (by kernel_rfl) (fun _ _ _ h => h) (Or.inl ⟨by kernel_rfl, ?y9x8⟩) hHeld ?r9x8
      case y9x8 => (intro wS hSw; (go_simp; try rfl))
      try simp only [Act.put, List.setIfInBounds_toArray, List.set_cons_zero, List.set_cons_succ]
      refine wpAnyG_take (i := 10) (v := .bool false) rfl (by kernel_rfl) (fun _ _ _ h => h) (Or.inl ⟨by kernel_rfl, ?y10x9⟩) hHeld ?r10x9
      case y10x9 => (intro wS hSw; (go_simp; try rfl))
      try simp only [Act.put, List.setIfInBounds_toArray, List.set_cons_zero, List.set_cons_succ]
      refine wpAnyG_take (i := 11) (v := ?v11x10) rfl (by kernel_rfl) (fun _ _ _ h => h) (Or.inl ⟨by kernel_rfl, ?y11x10⟩) hHeld ?r11x10
      case y11x10 => (intro wS hSw; have s1 := hSw; go_simp; try with_reducible rfl)
      try simp only [Act.put, List.setIfInBounds_toArray, List.set_cons_zero, List.set_cons_succ]
      refine wpAnyG_one (i := 12) rfl (by kernel_rfl) (fun K hK => ?_)
      rw [if_pos (by kernel_rfl)]
      go_simp
      refine (HFh.out _).mono ?_
      rintro e uc ⟨rfl, kuc⟩
      have Mc := Mb.below kuc
      refine hK.out _ _ ⟨(Mc.1 _ (.tail _ (.tail _ (.head _)))).cell 0, (Mc.1 _ (.tail _ (.tail _ (.head _)))).cell 1, (Mc.1 _ (.tail _ (.tail _ (.head _)))).cell 2, (Mc.1 _ (.tail _ (.tail _ (.tail _ (.tail _ (.head _)))))).cell 0, (Mc.1 _ (.tail _ (.tail _ (.tail _ (.tail _ (.head _)))))).cell 1, (Mc.1 _ (.tail _ (.tail _ (.tail _ (.tail _ (.head _)))))).cell 2, (Mc.1 _ (.tail _ (.head _))).cell 0⟩ ?_
      clear hK K
      try simp only [Act.put, List.setIfInBounds_toArray, List.set_cons_zero, List.set_cons_succ]
      clear hHeld
      have hHeld : S7 f h 0 w.heap.size w2.heap.size uc := ⟨(Mc.1 _ (.tail _ (.tail _ (.head _)))).cell 0, (Mc.1 _ (.tail _ (.tail _ (.head _)))).cell 1, (Mc.1 _ (.tail _ (.tail _ (.head _)))).cell 2, (Mc.1 _ (.tail _ (.tail _ (.tail _ (.tail _ (.head _)))))).cell 0, (Mc.1 _ (.tail _ (.tail _ (.tail _ (.tail _ (.head _)))))).cell 1, (Mc.1 _ (.tail _ (.tail _ (.tail _ (.tail _ (.head _)))))).cell 2, (Mc.1 _ (.tail _ (.head _))).cell 0⟩
      refine wpAnyG_take (i := 13) (v := .int .i64 c2) rfl (by kernel_rfl) (fun _ _ _ h => h) (Or.inl ⟨by kernel_rfl, ?y13x11⟩) hHeld ?r13x11
      case y13x11 => (intro wS hSw; (go_simp; try rfl))
      try simp only [Act.put, List.setIfInBounds_toArray, List.set_cons_zero, List.set_cons_succ]
      rcases ffault_code HC2.out with ⟨rfl, rfl⟩ | hc2
      · skip
        refine wpAnyG_take (i := 14) (v := .bool false) rfl (by kernel_rfl) (fun _ _ _ h => h) (Or.inl ⟨by kernel_rfl, ?y14x12⟩) hHeld ?r14x12
        case y14x12 => (intro wS hSw; (go_simp; try rfl))
        try simp only [Act.put, List.setIfInBounds_toArray, List.set_cons_zero, List.set_cons_succ]
        refine wpAnyG_take (i := 15) (v := .bool false) rfl (by kernel_rfl) (fun _ _ _ h => h) (Or.inl ⟨by kernel_rfl, ?y15x13⟩) hHeld ?r15x13
        case y15x13 => (intro wS hSw; (go_simp; try rfl))
        try simp only [Act.put, List.setIfInBounds_toArray, List.set_cons_zero, List.set_cons_succ]
        refine wpAnyG_take (i := 16) (v := .bool false) rfl (by kernel_rfl) (fun _ _ _ h => h) (Or.inl ⟨by kernel_rfl, ?y16x14⟩) hHeld ?r16x14
        case y16x14 => (intro wS hSw; (go_simp; try rfl))
        try simp only [Act.put, List.setIfInBounds_toArray, List.set_cons_zero, List.set_cons_succ]
        refine wpAnyG_take (i := 17) (v := ?v17x15) rfl (by kernel_rfl) (fun _ _ _ h => h) (Or.inl ⟨by kernel_rfl, ?y17x15⟩) hHeld ?r17x15
        case y17x15 => (intro wS hSw; have s1 := hSw; go_simp; try with_reducible rfl)
        try simp only [Act.put, List.setIfInBounds_toArray, List.set_cons_zero, List.set_cons_succ]
        refine wpAnyG_one (i := 18) rfl (by kernel_rfl) (fun K hK => ?_)
        rw [if_pos (by kernel_rfl)]
        go_simp
        refine (HDf.out _).mono ?_
        rintro e ud ⟨rfl, kud⟩
        have Md := Mc.below kud
        refine hK.out _ _ ⟨(Md.1 _ (.tail _ (.tail _ (.head _)))).cell 0, (Md.1 _ (.tail _ (.tail _ (.head _)))).cell 1, (Md.1 _ (.tail _ (.tail _ (.head _)))).cell 2, (Md.1 _ (.tail _ (.tail _ (.tail _ (.tail _ (.head _)))))).cell 0, (Md.1 _ (.tail _ (.tail _ (.tail _ (.tail _ (.head _)))))).cell 1, (Md.1 _ (.tail _ (.tail _ (.tail _ (.tail _ (.head _)))))).cell 2, (Md.1 _ (.tail _ (.head _))).cell 0⟩ ?_
        clear hK K
        try simp only [Act.put, List.setIfInBounds_toArray, List.set_cons_zero, List.set_cons_succ]
        clear hHeld
        have hHeld : S7 f h 0 w.heap.size w2.heap.size ud := ⟨(Md.1 _ (.tail _ (.tail _ (.head _)))).cell 0, (Md.1 _ (.tail _ (.tail _ (.head _)))).cell 1, (Md.1 _ (.tail _ (.tail _ (.head _)))).cell 2, (Md.1 _ (.tail _ (.tail _ (.tail _ (.tail _ (.head _)))))).cell 0, (Md.1 _ (.tail _ (.tail _ (.tail _ (.tail _ (.head _)))))).cell 1, (Md.1 _ (.tail _ (.tail _ (.tail _ (.tail _ (.head _)))))).cell 2, (Md.1 _ (.tail _ (.head _))).cell 0⟩
        by_cases hlow : D < -1000000
        · have hlb : decide (D < -1000000) = true := decide_eq_true hlow
          refine wpAnyG_take (i := 19) (v := .bool true) rfl (by kernel_rfl) (fun _ _ _ h => h) (Or.inl ⟨by kernel_rfl, ?y19x16⟩) hHeld ?r19x16
          case y19x16 => (intro wS hSw; (go_simp; try simp only [hlb]))
          try simp only [Act.put, List.setIfInBounds_toArray, List.set_cons_zero, List.set_cons_succ]
          refine wpAnyG_last (i := 20) rfl (by kernel_rfl) (by kernel_rfl) (fun K hK => ?_)
          go_simp
          refine hK.out _ _ ?_
          clear hK K
          try simp only [Act.put, List.setIfInBounds_toArray, List.set_cons_zero, List.set_cons_succ]
          refine wpAnyG_done (by kernel_rfl) ?_ _
          have HKe : Hid (Below w.heap.size w ud) := Md.2
          clear hHeld
          go_wp2_with fail
          go_ret
          exact ⟨rfl, HKe.out⟩
        · have hlb : decide (D < -1000000) = false := decide_eq_false hlow
          refine wpAnyG_take (i := 19) (v := .bool false) rfl (by kernel_rfl) (fun _ _ _ h => h) (Or.inl ⟨by kernel_rfl, ?y19x17⟩) hHeld ?r19x17
          case y19x17 => (intro wS hSw; (go_simp; try simp only [hlb]))
          try simp only [Act.put, List.setIfInBounds_toArray, List.set_cons_zero, List.set_cons_succ]
          refine wpAnyG_last (i := 20) rfl (by kernel_rfl) (by kernel_rfl) (fun K hK => ?_)
          go_simp
          refine hK.out _ _ ?_
          clear hK K
          try simp only [Act.put, List.setIfInBounds_toArray, List.set_cons_zero, List.set_cons_succ]
          refine wpAnyG_done (by kernel_rfl) ?_ _
          have HMd : Hid (Ms [(w2.heap.size, a.l, 32), (w2.heap.size + 1, [.int .i64 0, .int .i64 0], 24), (w.heap.size, f.l, 32), (w.heap.size + 1, g.l, 32), (w.heap.size + 1 + 1, h.l, 32)] w ud) := Md
          clear hHeld M2 Ma Mb Mc Md kua kub kuc kud hlb
          obtain ⟨hff, hfg, hdd⟩ := HF.out
          obtain ⟨hhu, _, _, _⟩ := ffault_ok HC2.out
          have hhd : h.disc = f.disc := by rw [← HDD.out]; exact (HD2.out hhu).symm
          have hgd : g.disc = f.disc := hdd.symm
          obtain ⟨hfu, hfa, hdn, hgc⟩ := ffault_ok hff
          have hlo : -1000000 ≤ f.disc := by rw [← HDD.out]; omega
          have HCa : Hid (MQ.Cz f g a ∧ ffault a = (0, 0)) := com_fault hdn hlo HCa0.out
          clear HCa0
          have had : a.disc = f.disc := HCa.out.1.disc
          have hfb : -1000000 ≤ f.b ∧ f.b ≤ 1000000 := ⟨hfu.2.2.1, hfu.2.2.2.1⟩
          obtain ⟨O, hO⟩ : ∃ O, O = firstOf D := ⟨_, rfl⟩
          have hOf : ffault O = (0, 0) := by rw [hO, HDD.out]; exact first_fault hff (by rw [← HDD.out]; omega)
          have hOi : MQ.Fst f O := by rw [hO, HDD.out]; exact firstOf_is
          have HFi : Hid (∀ w, Calls Try.prog 19 #[.int .i64 D] w fun e w' => e = .returned O.v ∧ Below w.heap.size w w') := fun w => by rw [hO]; exact First_any D w (by omega)
          have HCb : Hid (∀ w, Calls Try.prog 13 #[g.v, f.v] w fun e w' => ∃ z : Qf, e = .returned (.tuple #[z.v, ffv (0, 0)]) ∧ (MQ.Cz g f z ∧ ffault z = (0, 0)) ∧ Below w.heap.size w w') := fun w => HCo.out g f w hfg hff hgd (by rw [hgd]; exact hlo)
          have HCc : Hid (∀ w, Calls Try.prog 13 #[a.v, h.v] w fun e w' => ∃ z : Qf, e = .returned (.tuple #[z.v, ffv (0, 0)]) ∧ (MQ.Cz a h z ∧ ffault z = (0, 0)) ∧ Below w.heap.size w w') := fun w => HCo.out a h w HCa.out.2 HC2.out (by rw [had, hhd]) (by rw [had]; exact hlo)
          have HCd : Hid (∀ w, Calls Try.prog 13 #[g.v, h.v] w fun e w' => ∃ z : Qf, e = .returned (.tuple #[z.v, ffv (0, 0)]) ∧ (MQ.Cz g h z ∧ ffault z = (0, 0)) ∧ Below w.heap.size w w') := fun w => HCo.out g h w hfg HC2.out (by rw [hgd, hhd]) (by rw [hgd]; exact hlo)
          have HCk : Hid (∀ x : Qf, MQ.Cz g h x ∧ ffault x = (0, 0) → ∀ w, Calls Try.prog 13 #[f.v, x.v] w fun e w' => ∃ z : Qf, e = .returned (.tuple #[z.v, ffv (0, 0)]) ∧ (MQ.Cz f x z ∧ ffault z = (0, 0)) ∧ Below w.heap.size w w') := fun x hx w => HCo.out f x w hff hx.2 (by rw [hx.1.disc, hgd]) hlo
          have HCt : Hid (∀ w, Calls Try.prog 13 #[f.v, O.v] w fun e w' => ∃ z : Qf, e = .returned (.tuple #[z.v, ffv (0, 0)]) ∧ (MQ.Cz f O z ∧ ffault z = (0, 0)) ∧ Below w.heap.size w w') := fun w => HCo.out f O w hff hOf hOi.disc.symm hlo
          have HCu : Hid (∀ w, Calls Try.prog 13 #[f.v, Qf.v ⟨f.a, -f.b, f.c⟩] w fun e w' => ∃ z : Qf, e = .returned (.tuple #[z.v, ffv (0, 0)]) ∧ (MQ.Cz f ⟨f.a, -f.b, f.c⟩ z ∧ ffault z = (0, 0)) ∧ Below w.heap.size w w') := fun w => HCo.out f _ w hff (bar_fault hff) (bar_disc f).symm hlo
          have HRf : Hid (∀ w, Calls Try.prog 20 #[f.v] w fun e w' => ∃ (z : Qf) (m : Mt), e = .returned (.tuple #[z.v, m.v, ffv (0, 0)]) ∧ Rd f z m ∧ Below w.heap.size w w') := fun w => HRe.out f w hff
          have HRo : Hid (∀ w, Calls Try.prog 20 #[O.v] w fun e w' => ∃ (z : Qf) (m : Mt), e = .returned (.tuple #[z.v, m.v, ffv (0, 0)]) ∧ Rd O z m ∧ Below w.heap.size w w') := fun w => HRe.out O w hOf
          have HAll : Hid (g.disc = f.disc ∧ h.disc = f.disc ∧ 0 < f.a ∧ 0 < g.a ∧ f.disc < 0 ∧ MQ.Pm f ∧ MQ.Fst f O ∧ ffault f = (0, 0) ∧ ffault O = (0, 0)) := ⟨hgd, hhd, by omega, by obtain ⟨_, h1, _, _⟩ := ffault_ok hfg; omega, hdn, MQ.Pm.of_gcd hgc, hOi, hff, hOf⟩
          unfold Qf.v at HFi HCb HCc HCd HCk HCt HCu HRf HRo
          unfold Mt.v at HRf HRo
          clear hlo hff hfg hdd hhu hhd hgd hfu hfa hdn hgc had hO hOf hOi HF HD2 HDD HC2 HCo HRe HG HBG HFh HDh HCD
          have q0 : ud.cell? ⟨w.heap.size + 1, 0, none⟩ = some (.int .i64 g.a) := (HMd.out.1 _ (.tail _ (.tail _ (.tail _ (.head _))))).cell 0
          have q1 : ud.cell? ⟨w.heap.size + 1, 1, none⟩ = some (.int .i64 g.b) := (HMd.out.1 _ (.tail _ (.tail _ (.tail _ (.head _))))).cell 1
          have q2 : ud.cell? ⟨w.heap.size + 1, 2, none⟩ = some (.int .i64 g.c) := (HMd.out.1 _ (.tail _ (.tail _ (.tail _ (.head _))))).cell 2
          have q3 : ud.cell? ⟨w.heap.size, 0, none⟩ = some (.int .i64 f.a) := (HMd.out.1 _ (.tail _ (.tail _ (.head _)))).cell 0
          have q4 : ud.cell? ⟨w.heap.size, 1, none⟩ = some (.int .i64 f.b) := (HMd.out.1 _ (.tail _ (.tail _ (.head _)))).cell 1
          have q5 : ud.cell? ⟨w.heap.size, 2, none⟩ = some (.int .i64 f.c) := (HMd.out.1 _ (.tail _ (.tail _ (.head _)))).cell 2
          go_wp2_with fail
          refine (HCb.out _).mono ?_
          rintro e w6 ⟨b, rfl, hb, k6⟩
          have HB : Hid (MQ.Cz g f b) := hb.1
          clear hb
          obtain ⟨W6, hW6⟩ : ∃ W, W = ((w6.alloc (.cells #[.int .i64 b.a, .int .i64 b.b, .int .i64 b.c] 32)).alloc (.cells #[.int .i64 0, .int .i64 0] 24)) := ⟨_, rfl⟩
          have HM6 : Hid (Ms [(w6.heap.size, b.l, 32), (w6.heap.size + 1, [.int .i64 0, .int .i64 0], 24), (w2.heap.size, a.l, 32), (w2.heap.size + 1, [.int .i64 0, .int .i64 0], 24), (w.heap.size, f.l, 32), (w.heap.size + 1, g.l, 32), (w.heap.size + 1 + 1, h.l, 32)] w W6) := by
            have M := HMd.out.below k6
            have cB := al1 w6 (.cells #[.int .i64 b.a, .int .i64 b.b, .int .i64 b.c] 32)
            have cB := cB.trans ((al1 (w6.alloc (.cells #[.int .i64 b.a, .int .i64 b.b, .int .i64 b.c] 32)) (.cells #[.int .i64 0, .int .i64 0] 24)).mono (by simp))
            rw [← hW6] at cB
            refine ⟨fun x hx => ?_, (M.below cB).2⟩
            simp only [List.mem_cons, List.not_mem_nil, or_false] at hx
            rcases hx with rfl | rfl | hx
            · rw [hW6]; exact Cl.alloc (cl_new0 _ b.l _ _ (by simp)) _
            · rw [hW6]; exact cl_new0 _ [.int .i64 0, .int .i64 0] _ _ (by simp)
            · exact (M.below cB).1 _ (by simp only [List.mem_cons, List.not_mem_nil, or_false]; exact hx)
          clear q0 q1 q2 q3 q4 q5 k6 HMd
          have q0 : W6.cell? ⟨w2.heap.size, 0, none⟩ = some (.int .i64 a.a) := (HM6.out.1 _ (.tail _ (.tail _ (.head _)))).cell 0
          have q1 : W6.cell? ⟨w2.heap.size, 1, none⟩ = some (.int .i64 a.b) := (HM6.out.1 _ (.tail _ (.tail _ (.head _)))).cell 1
          have q2 : W6.cell? ⟨w2.heap.size, 2, none⟩ = some (.int .i64 a.c) := (HM6.out.1 _ (.tail _ (.tail _ (.head _)))).cell 2
          have q3 : W6.cell? ⟨w.heap.size + 1 + 1, 0, none⟩ = some (.int .i64 h.a) := (HM6.out.1 _ (.tail _ (.tail _ (.tail _ (.tail _ (.tail _ (.tail _ (.head _)))))))).cell 0
          have q4 : W6.cell? ⟨w.heap.size + 1 + 1, 1, none⟩ = some (.int .i64 h.b) := (HM6.out.1 _ (.tail _ (.tail _ (.tail _ (.tail _ (.tail _ (.tail _ (.head _)))))))).cell 1
          have q5 : W6.cell? ⟨w.heap.size + 1 + 1, 2, none⟩ = some (.int .i64 h.c) := (HM6.out.1 _ (.tail _ (.tail _ (.tail _ (.tail _ (.tail _ (.tail _ (.head _)))))))).cell 2
          rw [hW6] at q0 q1 q2 q3 q4 q5
          go_wp2_with fail
          rw [← hW6]
          clear hW6
          refine (HCc.out _).mono ?_
          rintro e w7 ⟨c, rfl, hc, k7⟩
          have HC : Hid (MQ.Cz a h c) := hc.1
          clear hc
          obtain ⟨W7, hW7⟩ : ∃ W, W = ((w7.alloc (.cells #[.int .i64 c.a, .int .i64 c.b, .int .i64 c.c] 32)).alloc (.cells #[.int .i64 0, .int .i64 0] 24)) := ⟨_, rfl⟩
          have HM7 : Hid (Ms [(w7.heap.size, c.l, 32), (w7.heap.size + 1, [.int .i64 0, .int .i64 0], 24), (w6.heap.size, b.l, 32), (w6.heap.size + 1, [.int .i64 0, .int .i64 0], 24), (w2.heap.size, a.l, 32), (w2.heap.size + 1, [.int .i64 0, .int .i64 0], 24), (w.heap.size, f.l, 32), (w.heap.size + 1, g.l, 32), (w.heap.size + 1 + 1, h.l, 32)] w W7) := by
            have M := HM6.out.below k7
            have cB := al1 w7 (.cells #[.int .i64 c.a, .int .i64 c.b, .int .i64 c.c] 32)
            have cB := cB.trans ((al1 (w7.alloc (.cells #[.int .i64 c.a, .int .i64 c.b, .int .i64 c.c] 32)) (.cells #[.int .i64 0, .int .i64 0] 24)).mono (by simp))
            rw [← hW7] at cB
            refine ⟨fun x hx => ?_, (M.below cB).2⟩
            simp only [List.mem_cons, List.not_mem_nil, or_false] at hx
            rcases hx with rfl | rfl | hx
            · rw [hW7]; exact Cl.alloc (cl_new0 _ c.l _ _ (by simp)) _
            · rw [hW7]; exact cl_new0 _ [.int .i64 0, .int .i64 0] _ _ (by simp)
            · exact (M.below cB).1 _ (by simp only [List.mem_cons, List.not_mem_nil, or_false]; exact hx)
          clear q0 q1 q2 q3 q4 q5 k7 HM6
          have q0 : W7.cell? ⟨w.heap.size + 1, 0, none⟩ = some (.int .i64 g.a) := (HM7.out.1 _ (.tail _ (.tail _ (.tail _ (.tail _ (.tail _ (.tail _ (.tail _ (.head _))))))))).cell 0
          have q1 : W7.cell? ⟨w.heap.size + 1, 1, none⟩ = some (.int .i64 g.b) := (HM7.out.1 _ (.tail _ (.tail _ (.tail _ (.tail _ (.tail _ (.tail _ (.tail _ (.head _))))))))).cell 1
          have q2 : W7.cell? ⟨w.heap.size + 1, 2, none⟩ = some (.int .i64 g.c) := (HM7.out.1 _ (.tail _ (.tail _ (.tail _ (.tail _ (.tail _ (.tail _ (.tail _ (.head _))))))))).cell 2
          have q3 : W7.cell? ⟨w.heap.size + 1 + 1, 0, none⟩ = some (.int .i64 h.a) := (HM7.out.1 _ (.tail _ (.tail _ (.tail _ (.tail _ (.tail _ (.tail _ (.tail _ (.tail _ (.head _)))))))))).cell 0
          have q4 : W7.cell? ⟨w.heap.size + 1 + 1, 1, none⟩ = some (.int .i64 h.b) := (HM7.out.1 _ (.tail _ (.tail _ (.tail _ (.tail _ (.tail _ (.tail _ (.tail _ (.tail _ (.head _)))))))))).cell 1
          have q5 : W7.cell? ⟨w.heap.size + 1 + 1, 2, none⟩ = some (.int .i64 h.c) := (HM7.out.1 _ (.tail _ (.tail _ (.tail _ (.tail _ (.tail _ (.tail _ (.tail _ (.tail _ (.head _)))))))))).cell 2
          rw [hW7] at q0 q1 q2 q3 q4 q5
          go_wp2_with fail
          rw [← hW7]
          clear hW7
          refine (HCd.out _).mono ?_
          rintro e w8 ⟨d, rfl, hd, k8⟩
          have HD : Hid (MQ.Cz g h d ∧ ffault d = (0, 0)) := hd
          clear hd
          obtain ⟨W8, hW8⟩ : ∃ W, W = ((w8.alloc (.cells #[.int .i64 d.a, .int .i64 d.b, .int .i64 d.c] 32)).alloc (.cells #[.int .i64 0, .int .i64 0] 24)) := ⟨_, rfl⟩
          have HM8 : Hid (Ms [(w8.heap.size, d.l, 32), (w8.heap.size + 1, [.int .i64 0, .int .i64 0], 24), (w7.heap.size, c.l, 32), (w7.heap.size + 1, [.int .i64 0, .int .i64 0], 24), (w6.heap.size, b.l, 32), (w6.heap.size + 1, [.int .i64 0, .int .i64 0], 24), (w2.heap.size, a.l, 32), (w2.heap.size + 1, [.int .i64 0, .int .i64 0], 24), (w.heap.size, f.l, 32), (w.heap.size + 1, g.l, 32), (w.heap.size + 1 + 1, h.l, 32)] w W8) := by
            have M := HM7.out.below k8
            have cB := al1 w8 (.cells #[.int .i64 d.a, .int .i64 d.b, .int .i64 d.c] 32)
            have cB := cB.trans ((al1 (w8.alloc (.cells #[.int .i64 d.a, .int .i64 d.b, .int .i64 d.c] 32)) (.cells #[.int .i64 0, .int .i64 0] 24)).mono (by simp))
            rw [← hW8] at cB
            refine ⟨fun x hx => ?_, (M.below cB).2⟩
            simp only [List.mem_cons, List.not_mem_nil, or_false] at hx
            rcases hx with rfl | rfl | hx
            · rw [hW8]; exact Cl.alloc (cl_new0 _ d.l _ _ (by simp)) _
            · rw [hW8]; exact cl_new0 _ [.int .i64 0, .int .i64 0] _ _ (by simp)
            · exact (M.below cB).1 _ (by simp only [List.mem_cons, List.not_mem_nil, or_false]; exact hx)
          clear q0 q1 q2 q3 q4 q5 k8 HM7
          have q0 : W8.cell? ⟨w.heap.size, 0, none⟩ = some (.int .i64 f.a) := (HM8.out.1 _ (.tail _ (.tail _ (.tail _ (.tail _ (.tail _ (.tail _ (.tail _ (.tail _ (.head _)))))))))).cell 0
          have q1 : W8.cell? ⟨w.heap.size, 1, none⟩ = some (.int .i64 f.b) := (HM8.out.1 _ (.tail _ (.tail _ (.tail _ (.tail _ (.tail _ (.tail _ (.tail _ (.tail _ (.head _)))))))))).cell 1
          have q2 : W8.cell? ⟨w.heap.size, 2, none⟩ = some (.int .i64 f.c) := (HM8.out.1 _ (.tail _ (.tail _ (.tail _ (.tail _ (.tail _ (.tail _ (.tail _ (.tail _ (.head _)))))))))).cell 2
          have q3 : W8.cell? ⟨w8.heap.size, 0, none⟩ = some (.int .i64 d.a) := (HM8.out.1 _ (.head _)).cell 0
          have q4 : W8.cell? ⟨w8.heap.size, 1, none⟩ = some (.int .i64 d.b) := (HM8.out.1 _ (.head _)).cell 1
          have q5 : W8.cell? ⟨w8.heap.size, 2, none⟩ = some (.int .i64 d.c) := (HM8.out.1 _ (.head _)).cell 2
          rw [hW8] at q0 q1 q2 q3 q4 q5
          go_wp2_with fail
          rw [← hW8]
          clear hW8
          refine (HCk.out d HD.out _).mono ?_
          rintro e w9 ⟨k, rfl, hk, k9⟩
          have HK9 : Hid (MQ.Cz f d k) := hk.1
          clear hk
          obtain ⟨W9, hW9⟩ : ∃ W, W = ((w9.alloc (.cells #[.int .i64 k.a, .int .i64 k.b, .int .i64 k.c] 32)).alloc (.cells #[.int .i64 0, .int .i64 0] 24)) := ⟨_, rfl⟩
          have HM9 : Hid (Ms [(w9.heap.size, k.l, 32), (w9.heap.size + 1, [.int .i64 0, .int .i64 0], 24), (w8.heap.size, d.l, 32), (w8.heap.size + 1, [.int .i64 0, .int .i64 0], 24), (w7.heap.size, c.l, 32), (w7.heap.size + 1, [.int .i64 0, .int .i64 0], 24), (w6.heap.size, b.l, 32), (w6.heap.size + 1, [.int .i64 0, .int .i64 0], 24), (w2.heap.size, a.l, 32), (w2.heap.size + 1, [.int .i64 0, .int .i64 0], 24), (w.heap.size, f.l, 32), (w.heap.size + 1, g.l, 32), (w.heap.size + 1 + 1, h.l, 32)] w W9) := by
            have M := HM8.out.below k9
            have cB := al1 w9 (.cells #[.int .i64 k.a, .int .i64 k.b, .int .i64 k.c] 32)
            have cB := cB.trans ((al1 (w9.alloc (.cells #[.int .i64 k.a, .int .i64 k.b, .int .i64 k.c] 32)) (.cells #[.int .i64 0, .int .i64 0] 24)).mono (by simp))
            rw [← hW9] at cB
            refine ⟨fun x hx => ?_, (M.below cB).2⟩
            simp only [List.mem_cons, List.not_mem_nil, or_false] at hx
            rcases hx with rfl | rfl | hx
            · rw [hW9]; exact Cl.alloc (cl_new0 _ k.l _ _ (by simp)) _
            · rw [hW9]; exact cl_new0 _ [.int .i64 0, .int .i64 0] _ _ (by simp)
            · exact (M.below cB).1 _ (by simp only [List.mem_cons, List.not_mem_nil, or_false]; exact hx)
          clear q0 q1 q2 q3 q4 q5 k9 HM8
          have q0 : W9.cell? ⟨w.heap.size, 0, none⟩ = some (.int .i64 f.a) := (HM9.out.1 _ (.tail _ (.tail _ (.tail _ (.tail _ (.tail _ (.tail _ (.tail _ (.tail _ (.tail _ (.tail _ (.head _)))))))))))).cell 0
          have q1 : W9.cell? ⟨w.heap.size, 1, none⟩ = some (.int .i64 f.b) := (HM9.out.1 _ (.tail _ (.tail _ (.tail _ (.tail _ (.tail _ (.tail _ (.tail _ (.tail _ (.tail _ (.tail _ (.head _)))))))))))).cell 1
          have q2 : W9.cell? ⟨w.heap.size, 2, none⟩ = some (.int .i64 f.c) := (HM9.out.1 _ (.tail _ (.tail _ (.tail _ (.tail _ (.tail _ (.tail _ (.tail _ (.tail _ (.tail _ (.tail _ (.head _)))))))))))).cell 2
          rw [hW9] at q0 q1 q2
          go_wp2_with fail
          rw [← hW9]
          clear hW9 q0 q1 q2
          go_cut [17, 18] from 80 to 88 (fun pv qv wx => ∃ B17 B18 : Nat, pv = .pointer (some ⟨B17, 0, none⟩) ∧ qv = .pointer (some ⟨B18, 0, none⟩) ∧ Hid (∃ t : Qf, MQ.Cz f O t ∧ Ms [(B17, t.l, 32), (B18, [.int .i64 0, .int .i64 0], 24), (w9.heap.size, k.l, 32), (w9.heap.size + 1, [.int .i64 0, .int .i64 0], 24), (w8.heap.size, d.l, 32), (w8.heap.size + 1, [.int .i64 0, .int .i64 0], 24), (w7.heap.size, c.l, 32), (w7.heap.size + 1, [.int .i64 0, .int .i64 0], 24), (w6.heap.size, b.l, 32), (w6.heap.size + 1, [.int .i64 0, .int .i64 0], 24), (w2.heap.size, a.l, 32), (w2.heap.size + 1, [.int .i64 0, .int .i64 0], 24), (w.heap.size, f.l, 32), (w.heap.size + 1, g.l, 32), (w.heap.size + 1 + 1, h.l, 32)] w wx))
          case first =>
            refine wp_region_G (S3q f w.heap.size) 11 (by kernel_rfl) ⟨(HM9.out.1 _ (.tail _ (.tail _ (.tail _ (.tail _ (.tail _ (.tail _ (.tail _ (.tail _ (.tail _ (.tail _ (.head _)))))))))))).cell 0, (HM9.out.1 _ (.tail _ (.tail _ (.tail _ (.tail _ (.tail _ (.tail _ (.tail _ (.tail _ (.tail _ (.tail _ (.head _)))))))))))).cell 1, (HM9.out.1 _ (.tail _ (.tail _ (.tail _ (.tail _ (.tail _ (.tail _ (.tail _ (.tail _ (.tail _ (.tail _ (.head _)))))))))))).cell 2⟩ (fun hHeld => ?_)
            have N0 := HM9.out.below ((Below.refl W9.heap.size W9).drew)
            refine wpAnyG_take (i := 0) (v := ?v0x18) rfl (by kernel_rfl) (fun _ _ _ h => h) (Or.inl ⟨by rfl, ?y0x18⟩) hHeld ?r0x18
            case y0x18 => (intro wS hSw; obtain ⟨s1, s2, s3⟩ := hSw; go_simp; try with_reducible rfl)
            try simp only [Act.put, List.setIfInBounds_toArray, List.set_cons_zero, List.set_cons_succ]
            refine wpAnyG_take (i := 1) (v := ?v1x19) rfl (by kernel_rfl) (fun _ _ _ h => h) (Or.inl ⟨by rfl, ?y1x19⟩) hHeld ?r1x19
            case y1x19 => (intro wS hSw; obtain ⟨s1, s2, s3⟩ := hSw; go_simp; try with_reducible rfl)
            try simp only [Act.put, List.setIfInBounds_toArray, List.set_cons_zero, List.set_cons_succ]
            refine wpAnyG_three (i := 2) (j := 8) (k := 9) rfl rfl rfl (by kernel_rfl) (fun K hK => ?_) (fun K hK => ?_) (fun K hK => ?_)
            · go_simp
              refine (HDf.out _).mono ?_
              rintro e v1 ⟨rfl, kv1⟩
              have N1 := N0.below kv1
              refine hK.out _ _ ⟨(N1.1 _ (.tail _ (.tail _ (.tail _ (.tail _ (.tail _ (.tail _ (.tail _ (.tail _ (.tail _ (.tail _ (.head _)))))))))))).cell 0, (N1.1 _ (.tail _ (.tail _ (.tail _ (.tail _ (.tail _ (.tail _ (.tail _ (.tail _ (.tail _ (.tail _ (.head _)))))))))))).cell 1, (N1.1 _ (.tail _ (.tail _ (.tail _ (.tail _ (.tail _ (.tail _ (.tail _ (.tail _ (.tail _ (.tail _ (.head _)))))))))))).cell 2⟩ ?_
              clear hK K
              try simp only [Act.put, List.setIfInBounds_toArray, List.set_cons_zero, List.set_cons_succ]
              refine wpAnyG_three (i := 3) (j := 8) (k := 9) rfl rfl rfl (by kernel_rfl) (fun K hK => ?_) (fun K hK => ?_) (fun K hK => ?_)
              · go_simp
                refine (HFi.out _).mono ?_
                rintro e v2 ⟨rfl, kv2⟩
                have N2 := N1.below kv2
                refine hK.out _ _ ⟨(N2.1 _ (.tail _ (.tail _ (.tail _ (.tail _ (.tail _ (.tail _ (.tail _ (.tail _ (.tail _ (.tail _ (.head _)))))))))))).cell 0, (N2.1 _ (.tail _ (.tail _ (.tail _ (.tail _ (.tail _ (.tail _ (.tail _ (.tail _ (.tail _ (.tail _ (.head _)))))))))))).cell 1, (N2.1 _ (.tail _ (.tail _ (.tail _ (.tail _ (.tail _ (.tail _ (.tail _ (.tail _ (.tail _ (.tail _ (.head _)))))))))))).cell 2⟩ ?_
                clear hK K
                try simp only [Act.put, List.setIfInBounds_toArray, List.set_cons_zero, List.set_cons_succ]
                refine wpAnyG_three (i := 4) (j := 8) (k := 9) rfl rfl rfl (by kernel_rfl) (fun K hK => ?_) (fun K hK => ?_) (fun K hK => ?_)
                · go_simp
                  refine (HCt.out _).mono ?_
                  rintro e v3 ⟨t, rfl, ht, kv3⟩
                  have N3 := N2.below kv3
                  refine hK.out _ _ ⟨(N3.1 _ (.tail _ (.tail _ (.tail _ (.tail _ (.tail _ (.tail _ (.tail _ (.tail _ (.tail _ (.tail _ (.head _)))))))))))).cell 0, (N3.1 _ (.tail _ (.tail _ (.tail _ (.tail _ (.tail _ (.tail _ (.tail _ (.tail _ (.tail _ (.tail _ (.head _)))))))))))).cell 1, (N3.1 _ (.tail _ (.tail _ (.tail _ (.tail _ (.tail _ (.tail _ (.tail _ (.tail _ (.tail _ (.tail _ (.head _)))))))))))).cell 2⟩ ?_
                  clear hK K
                  try simp only [Act.put, List.setIfInBounds_toArray, List.set_cons_zero, List.set_cons_succ]
                  clear hHeld
                  have hHeld : S3q f w.heap.size v3 := ⟨(N3.1 _ (.tail _ (.tail _ (.tail _ (.tail _ (.tail _ (.tail _ (.tail _ (.tail _ (.tail _ (.tail _ (.head _)))))))))))).cell 0, (N3.1 _ (.tail _ (.tail _ (.tail _ (.tail _ (.tail _ (.tail _ (.tail _ (.tail _ (.tail _ (.tail _ (.head _)))))))))))).cell 1, (N3.1 _ (.tail _ (.tail _ (.tail _ (.tail _ (.tail _ (.tail _ (.tail _ (.tail _ (.tail _ (.tail _ (.head _)))))))))))).cell 2⟩
                  refine wpAnyG_take (i := 5) (v := ?v5x20) rfl (by kernel_rfl) (fun _ _ _ h => h) (Or.inl ⟨by rfl, ?y5x20⟩) hHeld ?r5x20
                  case y5x20 => (intro wS hSw; obtain ⟨s1, s2, s3⟩ := hSw; go_simp; try with_reducible rfl)
                  try simp only [Act.put, List.setIfInBounds_toArray, List.set_cons_zero, List.set_cons_succ]
                  refine wpAnyG_take (i := 6) (v := ?v6x21) rfl (by kernel_rfl) (fun _ _ _ h => h) (Or.inl ⟨by rfl, ?y6x21⟩) hHeld ?r6x21
                  case y6x21 => (intro wS hSw; obtain ⟨s1, s2, s3⟩ := hSw; go_simp; try with_reducible rfl)
                  try simp only [Act.put, List.setIfInBounds_toArray, List.set_cons_zero, List.set_cons_succ]
                  refine wpAnyG_take (i := 7) (v := ?v7x22) rfl (by kernel_rfl) (fun _ _ _ h => h) (Or.inl ⟨by rfl, ?y7x22⟩) hHeld ?r7x22
                  case y7x22 => (intro wS hSw; obtain ⟨s1, s2, s3⟩ := hSw; go_simp; try with_reducible rfl)
                  try simp only [Act.put, List.setIfInBounds_toArray, List.set_cons_zero, List.set_cons_succ]
                  refine wpAnyG_two (i := 8) (j := 9) rfl rfl (by kernel_rfl) (fun K hK => ?_) (fun K hK => ?_)
                  · go_simp
                    obtain ⟨p4, hp4⟩ : ∃ p, p = v3.heap.size := ⟨_, rfl⟩
                    have L4 := N3.lt
                    have S4 := N3.2.size
                    have N4 := N3.new [.int .i64 0, .int .i64 0, .int .i64 0] 32
                    rw [← hp4] at L4 S4 N4
                    refine hK.out _ _ ⟨(N4.1 _ (.tail _ (.tail _ (.tail _ (.tail _ (.tail _ (.tail _ (.tail _ (.tail _ (.tail _ (.tail _ (.tail _ (.head _))))))))))))).cell 0, (N4.1 _ (.tail _ (.tail _ (.tail _ (.tail _ (.tail _ (.tail _ (.tail _ (.tail _ (.tail _ (.tail _ (.tail _ (.head _))))))))))))).cell 1, (N4.1 _ (.tail _ (.tail _ (.tail _ (.tail _ (.tail _ (.tail _ (.tail _ (.tail _ (.tail _ (.tail _ (.tail _ (.head _))))))))))))).cell 2⟩ ?_
                    clear hK K
                    try simp only [Act.put, List.setIfInBounds_toArray, List.set_cons_zero, List.set_cons_succ]
                    generalize hv4 : World.alloc _ _ = v4
                    rw [← hp4]
                    rw [show v3.alloc (.cells #[.int .i64 0, .int .i64 0, .int .i64 0] 32) = v4 from hv4] at N4
                    clear hv4 hp4
                    refine wpAnyG_one (i := 9) rfl (by kernel_rfl) (fun K hK => ?_)
                    go_simp
                    obtain ⟨p5, hp5⟩ : ∃ p, p = v4.heap.size := ⟨_, rfl⟩
                    have L5 := N4.lt
                    have S5 := N4.2.size
                    have N5 := N4.new [.int .i64 0, .int .i64 0] 24
                    rw [← hp5] at L5 S5 N5
                    refine hK.out _ _ ⟨(N5.1 _ (.tail _ (.tail _ (.tail _ (.tail _ (.tail _ (.tail _ (.tail _ (.tail _ (.tail _ (.tail _ (.tail _ (.tail _ (.head _)))))))))))))).cell 0, (N5.1 _ (.tail _ (.tail _ (.tail _ (.tail _ (.tail _ (.tail _ (.tail _ (.tail _ (.tail _ (.tail _ (.tail _ (.tail _ (.head _)))))))))))))).cell 1, (N5.1 _ (.tail _ (.tail _ (.tail _ (.tail _ (.tail _ (.tail _ (.tail _ (.tail _ (.tail _ (.tail _ (.tail _ (.tail _ (.head _)))))))))))))).cell 2⟩ ?_
                    clear hK K
                    try simp only [Act.put, List.setIfInBounds_toArray, List.set_cons_zero, List.set_cons_succ]
                    generalize hv5 : World.alloc _ _ = v5
                    rw [← hp5]
                    rw [show v4.alloc (.cells #[.int .i64 0, .int .i64 0] 24) = v5 from hv5] at N5
                    clear hv5 hp5
                    have E6 : Cl p4 [.int .i64 0, .int .i64 0, .int .i64 0] 32 v5 := N5.1 _ (.tail _ (.head _))
                    have ne6 : ∀ x ∈ [(p5, [.int .i64 0, .int .i64 0], 24), (w9.heap.size, k.l, 32), (w9.heap.size + 1, [.int .i64 0, .int .i64 0], 24), (w8.heap.size, d.l, 32), (w8.heap.size + 1, [.int .i64 0, .int .i64 0], 24), (w7.heap.size, c.l, 32), (w7.heap.size + 1, [.int .i64 0, .int .i64 0], 24), (w6.heap.size, b.l, 32), (w6.heap.size + 1, [.int .i64 0, .int .i64 0], 24), (w2.heap.size, a.l, 32), (w2.heap.size + 1, [.int .i64 0, .int .i64 0], 24), (w.heap.size, f.l, 32), (w.heap.size + 1, g.l, 32), (w.heap.size + 1 + 1, h.l, 32)], x.1 ≠ p4 := by
                      intro x hx
                      simp only [List.mem_cons, List.not_mem_nil, or_false] at hx
                      rcases hx with rfl | hx
                      · have := L5 _ (.head _); omega
                      · have := L4 x (by simp only [List.mem_cons, List.not_mem_nil, or_false]; exact hx); omega
                    have T6 := (N5.mono (l' := [(p5, [.int .i64 0, .int .i64 0], 24), (w9.heap.size, k.l, 32), (w9.heap.size + 1, [.int .i64 0, .int .i64 0], 24), (w8.heap.size, d.l, 32), (w8.heap.size + 1, [.int .i64 0, .int .i64 0], 24), (w7.heap.size, c.l, 32), (w7.heap.size + 1, [.int .i64 0, .int .i64 0], 24), (w6.heap.size, b.l, 32), (w6.heap.size + 1, [.int .i64 0, .int .i64 0], 24), (w2.heap.size, a.l, 32), (w2.heap.size + 1, [.int .i64 0, .int .i64 0], 24), (w.heap.size, f.l, 32), (w.heap.size + 1, g.l, 32), (w.heap.size + 1 + 1, h.l, 32)]) (fun x hx => by simp only [List.mem_cons, List.not_mem_nil, or_false] at hx ⊢; rcases hx with hx | hx; exact .inl hx; exact .inr (.inr hx))).set3 E6 ne6 S4 (.int .i64 t.a) (.int .i64 t.b) (.int .i64 t.c)
                    have c60 := E6.cell 0
                    have f60 := E6.frozen 0
                    have c61 := E6.cell 1
                    have f61 := E6.frozen 1
                    have c62 := E6.cell 2
                    have f62 := E6.frozen 2
                    have l6 := E6.lt
                    simp at c60 c61 c62
                    refine wpAnyG_one (i := 10) rfl (by kernel_rfl) (fun K hK => ?_)
                    go_simp
                    refine hK.out _ _ ⟨(T6.1 _ (.tail _ (.tail _ (.tail _ (.tail _ (.tail _ (.tail _ (.tail _ (.tail _ (.tail _ (.tail _ (.tail _ (.tail _ (.head _)))))))))))))).cell 0, (T6.1 _ (.tail _ (.tail _ (.tail _ (.tail _ (.tail _ (.tail _ (.tail _ (.tail _ (.tail _ (.tail _ (.tail _ (.tail _ (.head _)))))))))))))).cell 1, (T6.1 _ (.tail _ (.tail _ (.tail _ (.tail _ (.tail _ (.tail _ (.tail _ (.tail _ (.tail _ (.tail _ (.tail _ (.tail _ (.head _)))))))))))))).cell 2⟩ ?_
                    clear hK K
                    try simp only [Act.put, List.setIfInBounds_toArray, List.set_cons_zero, List.set_cons_succ]
                    generalize hx6 : World.setCell _ _ _ = x6
                    rw [hx6] at T6
                    clear hx6 c60 f60 c61 f61 c62 f62 l6
                    have U6 : Cl p5 [.int .i64 0, .int .i64 0] 24 x6 := T6.1 _ (.tail _ (.head _))
                    have c60 := U6.cell 0
                    have f60 := U6.frozen 0
                    have c61 := U6.cell 1
                    have f61 := U6.frozen 1
                    have l6 := U6.lt
                    simp at c60 c61
                    have me6 : ∀ x ∈ [(p4, t.l, 32), (w9.heap.size, k.l, 32), (w9.heap.size + 1, [.int .i64 0, .int .i64 0], 24), (w8.heap.size, d.l, 32), (w8.heap.size + 1, [.int .i64 0, .int .i64 0], 24), (w7.heap.size, c.l, 32), (w7.heap.size + 1, [.int .i64 0, .int .i64 0], 24), (w6.heap.size, b.l, 32), (w6.heap.size + 1, [.int .i64 0, .int .i64 0], 24), (w2.heap.size, a.l, 32), (w2.heap.size + 1, [.int .i64 0, .int .i64 0], 24), (w.heap.size, f.l, 32), (w.heap.size + 1, g.l, 32), (w.heap.size + 1 + 1, h.l, 32)], x.1 ≠ p5 := by
                      intro x hx
                      simp only [List.mem_cons, List.not_mem_nil, or_false] at hx
                      rcases hx with rfl | hx
                      · have := L5 _ (.head _); omega
                      · have := L5 x (by simp only [List.mem_cons, List.not_mem_nil, or_false]; exact .inr hx); omega
                    have V6 := (T6.mono (l' := [(p4, t.l, 32), (w9.heap.size, k.l, 32), (w9.heap.size + 1, [.int .i64 0, .int .i64 0], 24), (w8.heap.size, d.l, 32), (w8.heap.size + 1, [.int .i64 0, .int .i64 0], 24), (w7.heap.size, c.l, 32), (w7.heap.size + 1, [.int .i64 0, .int .i64 0], 24), (w6.heap.size, b.l, 32), (w6.heap.size + 1, [.int .i64 0, .int .i64 0], 24), (w2.heap.size, a.l, 32), (w2.heap.size + 1, [.int .i64 0, .int .i64 0], 24), (w.heap.size, f.l, 32), (w.heap.size + 1, g.l, 32), (w.heap.size + 1 + 1, h.l, 32)]) (fun x hx => by simp only [List.mem_cons, List.not_mem_nil, or_false] at hx ⊢; rcases hx with hx | hx; exact .inl hx; exact .inr (.inr hx))).set2 U6 me6 S5 (.int .i64 0) (.int .i64 0)
                    refine wpAnyG_last (i := 11) rfl (by kernel_rfl) (by kernel_rfl) (fun K hK => ?_)
                    go_simp
                    refine hK.out _ _ ?_
                    clear hK K
                    try simp only [Act.put, List.setIfInBounds_toArray, List.set_cons_zero, List.set_cons_succ]
                    refine wpAnyG_done (by kernel_rfl) ?_ _
                    generalize hx6 : World.setCell _ _ _ = y6
                    rw [hx6] at V6
                    clear hx6
                    go_wp2
                    go_meet
                    exact ⟨_, _, rfl, rfl, t, ht.1, V6.mono (fun x hx => by simp only [List.mem_cons, List.not_mem_nil, or_false] at hx ⊢; rcases hx with hx | hx | hx; exact .inr (.inl hx); exact .inl hx; exact .inr (.inr hx))⟩
                  · go_simp
                    obtain ⟨p7, hp7⟩ : ∃ p, p = v3.heap.size := ⟨_, rfl⟩
                    have L7 := N3.lt
                    have S7 := N3.2.size
                    have N7 := N3.new [.int .i64 0, .int .i64 0] 24
                    rw [← hp7] at L7 S7 N7
                    refine hK.out _ _ ⟨(N7.1 _ (.tail _ (.tail _ (.tail _ (.tail _ (.tail _ (.tail _ (.tail _ (.tail _ (.tail _ (.tail _ (.tail _ (.head _))))))))))))).cell 0, (N7.1 _ (.tail _ (.tail _ (.tail _ (.tail _ (.tail _ (.tail _ (.tail _ (.tail _ (.tail _ (.tail _ (.tail _ (.head _))))))))))))).cell 1, (N7.1 _ (.tail _ (.tail _ (.tail _ (.tail _ (.tail _ (.tail _ (.tail _ (.tail _ (.tail _ (.tail _ (.tail _ (.head _))))))))))))).cell 2⟩ ?_
                    clear hK K
                    try simp only [Act.put, List.setIfInBounds_toArray, List.set_cons_zero, List.set_cons_succ]
                    generalize hv7 : World.alloc _ _ = v7
                    rw [← hp7]
                    rw [show v3.alloc (.cells #[.int .i64 0, .int .i64 0] 24) = v7 from hv7] at N7
                    clear hv7 hp7
                    refine wpAnyG_one (i := 8) rfl (by kernel_rfl) (fun K hK => ?_)
                    go_simp
                    obtain ⟨p8, hp8⟩ : ∃ p, p = v7.heap.size := ⟨_, rfl⟩
                    have L8 := N7.lt
                    have S8 := N7.2.size
                    have N8 := N7.new [.int .i64 0, .int .i64 0, .int .i64 0] 32
                    rw [← hp8] at L8 S8 N8
                    refine hK.out _ _ ⟨(N8.1 _ (.tail _ (.tail _ (.tail _ (.tail _ (.tail _ (.tail _ (.tail _ (.tail _ (.tail _ (.tail _ (.tail _ (.tail _ (.head _)))))))))))))).cell 0, (N8.1 _ (.tail _ (.tail _ (.tail _ (.tail _ (.tail _ (.tail _ (.tail _ (.tail _ (.tail _ (.tail _ (.tail _ (.tail _ (.head _)))))))))))))).cell 1, (N8.1 _ (.tail _ (.tail _ (.tail _ (.tail _ (.tail _ (.tail _ (.tail _ (.tail _ (.tail _ (.tail _ (.tail _ (.tail _ (.head _)))))))))))))).cell 2⟩ ?_
                    clear hK K
                    try simp only [Act.put, List.setIfInBounds_toArray, List.set_cons_zero, List.set_cons_succ]
                    generalize hv8 : World.alloc _ _ = v8
                    rw [← hp8]
                    rw [show v7.alloc (.cells #[.int .i64 0, .int .i64 0, .int .i64 0] 32) = v8 from hv8] at N8
                    clear hv8 hp8
                    have E9 : Cl p8 [.int .i64 0, .int .i64 0, .int .i64 0] 32 v8 := N8.1 _ (.head _)
                    have ne9 : ∀ x ∈ [(p7, [.int .i64 0, .int .i64 0], 24), (w9.heap.size, k.l, 32), (w9.heap.size + 1, [.int .i64 0, .int .i64 0], 24), (w8.heap.size, d.l, 32), (w8.heap.size + 1, [.int .i64 0, .int .i64 0], 24), (w7.heap.size, c.l, 32), (w7.heap.size + 1, [.int .i64 0, .int .i64 0], 24), (w6.heap.size, b.l, 32), (w6.heap.size + 1, [.int .i64 0, .int .i64 0], 24), (w2.heap.size, a.l, 32), (w2.heap.size + 1, [.int .i64 0, .int .i64 0], 24), (w.heap.size, f.l, 32), (w.heap.size + 1, g.l, 32), (w.heap.size + 1 + 1, h.l, 32)], x.1 ≠ p8 := by
                      intro x hx
                      simp only [List.mem_cons, List.not_mem_nil, or_false] at hx
                      rcases hx with rfl | hx
                      · have := L8 _ (.head _); omega
                      · have := L8 x (by simp only [List.mem_cons, List.not_mem_nil, or_false]; exact .inr hx); omega
                    have T9 := (N8.mono (l' := [(p7, [.int .i64 0, .int .i64 0], 24), (w9.heap.size, k.l, 32), (w9.heap.size + 1, [.int .i64 0, .int .i64 0], 24), (w8.heap.size, d.l, 32), (w8.heap.size + 1, [.int .i64 0, .int .i64 0], 24), (w7.heap.size, c.l, 32), (w7.heap.size + 1, [.int .i64 0, .int .i64 0], 24), (w6.heap.size, b.l, 32), (w6.heap.size + 1, [.int .i64 0, .int .i64 0], 24), (w2.heap.size, a.l, 32), (w2.heap.size + 1, [.int .i64 0, .int .i64 0], 24), (w.heap.size, f.l, 32), (w.heap.size + 1, g.l, 32), (w.heap.size + 1 + 1, h.l, 32)]) (fun x hx => by simp only [List.mem_cons, List.not_mem_nil, or_false] at hx ⊢; exact .inr hx)).set3 E9 ne9 S8 (.int .i64 t.a) (.int .i64 t.b) (.int .i64 t.c)
                    have c90 := E9.cell 0
                    have f90 := E9.frozen 0
                    have c91 := E9.cell 1
                    have f91 := E9.frozen 1
                    have c92 := E9.cell 2
                    have f92 := E9.frozen 2
                    have l9 := E9.lt
                    simp at c90 c91 c92
                    refine wpAnyG_one (i := 10) rfl (by kernel_rfl) (fun K hK => ?_)
                    go_simp
                    refine hK.out _ _ ⟨(T9.1 _ (.tail _ (.tail _ (.tail _ (.tail _ (.tail _ (.tail _ (.tail _ (.tail _ (.tail _ (.tail _ (.tail _ (.tail _ (.head _)))))))))))))).cell 0, (T9.1 _ (.tail _ (.tail _ (.tail _ (.tail _ (.tail _ (.tail _ (.tail _ (.tail _ (.tail _ (.tail _ (.tail _ (.tail _ (.head _)))))))))))))).cell 1, (T9.1 _ (.tail _ (.tail _ (.tail _ (.tail _ (.tail _ (.tail _ (.tail _ (.tail _ (.tail _ (.tail _ (.tail _ (.tail _ (.head _)))))))))))))).cell 2⟩ ?_
                    clear hK K
                    try simp only [Act.put, List.setIfInBounds_toArray, List.set_cons_zero, List.set_cons_succ]
                    generalize hx9 : World.setCell _ _ _ = x9
                    rw [hx9] at T9
                    clear hx9 c90 f90 c91 f91 c92 f92 l9
                    have U9 : Cl p7 [.int .i64 0, .int .i64 0] 24 x9 := T9.1 _ (.tail _ (.head _))
                    have c90 := U9.cell 0
                    have f90 := U9.frozen 0
                    have c91 := U9.cell 1
                    have f91 := U9.frozen 1
                    have l9 := U9.lt
                    simp at c90 c91
                    have me9 : ∀ x ∈ [(p8, t.l, 32), (w9.heap.size, k.l, 32), (w9.heap.size + 1, [.int .i64 0, .int .i64 0], 24), (w8.heap.size, d.l, 32), (w8.heap.size + 1, [.int .i64 0, .int .i64 0], 24), (w7.heap.size, c.l, 32), (w7.heap.size + 1, [.int .i64 0, .int .i64 0], 24), (w6.heap.size, b.l, 32), (w6.heap.size + 1, [.int .i64 0, .int .i64 0], 24), (w2.heap.size, a.l, 32), (w2.heap.size + 1, [.int .i64 0, .int .i64 0], 24), (w.heap.size, f.l, 32), (w.heap.size + 1, g.l, 32), (w.heap.size + 1 + 1, h.l, 32)], x.1 ≠ p7 := by
                      intro x hx
                      simp only [List.mem_cons, List.not_mem_nil, or_false] at hx
                      rcases hx with rfl | hx
                      · have := L8 _ (.head _); omega
                      · have := L7 x (by simp only [List.mem_cons, List.not_mem_nil, or_false]; exact hx); omega
                    have V9 := (T9.mono (l' := [(p8, t.l, 32), (w9.heap.size, k.l, 32), (w9.heap.size + 1, [.int .i64 0, .int .i64 0], 24), (w8.heap.size, d.l, 32), (w8.heap.size + 1, [.int .i64 0, .int .i64 0], 24), (w7.heap.size, c.l, 32), (w7.heap.size + 1, [.int .i64 0, .int .i64 0], 24), (w6.heap.size, b.l, 32), (w6.heap.size + 1, [.int .i64 0, .int .i64 0], 24), (w2.heap.size, a.l, 32), (w2.heap.size + 1, [.int .i64 0, .int .i64 0], 24), (w.heap.size, f.l, 32), (w.heap.size + 1, g.l, 32), (w.heap.size + 1 + 1, h.l, 32)]) (fun x hx => by simp only [List.mem_cons, List.not_mem_nil, or_false] at hx ⊢; rcases hx with hx | hx; exact .inl hx; exact .inr (.inr hx))).set2 U9 me9 S7 (.int .i64 0) (.int .i64 0)
                    refine wpAnyG_last (i := 11) rfl (by kernel_rfl) (by kernel_rfl) (fun K hK => ?_)
                    go_simp
                    refine hK.out _ _ ?_
                    clear hK K
                    try simp only [Act.put, List.setIfInBounds_toArray, List.set_cons_zero, List.set_cons_succ]
                    refine wpAnyG_done (by kernel_rfl) ?_ _
                    generalize hx9 : World.setCell _ _ _ = y9
                    rw [hx9] at V9
                    clear hx9
                    go_wp2
                    go_meet
                    exact ⟨_, _, rfl, rfl, t, ht.1, V9.mono (fun x hx => by simp only [List.mem_cons, List.not_mem_nil, or_false] at hx ⊢; rcases hx with hx | hx | hx; exact .inr (.inl hx); exact .inl hx; exact .inr (.inr hx))⟩
                · go_simp
                  obtain ⟨p10, hp10⟩ : ∃ p, p = v2.heap.size := ⟨_, rfl⟩
                  have L10 := N2.lt
                  have S10 := N2.2.size
                  have N10 := N2.new [.int .i64 0, .int .i64 0, .int .i64 0] 32
                  rw [← hp10] at L10 S10 N10
                  refine hK.out _ _ ⟨(N10.1 _ (.tail _ (.tail _ (.tail _ (.tail _ (.tail _ (.tail _ (.tail _ (.tail _ (.tail _ (.tail _ (.tail _ (.head _))))))))))))).cell 0, (N10.1 _ (.tail _ (.tail _ (.tail _ (.tail _ (.tail _ (.tail _ (.tail _ (.tail _ (.tail _ (.tail _ (.tail _ (.head _))))))))))))).cell 1, (N10.1 _ (.tail _ (.tail _ (.tail _ (.tail _ (.tail _ (.tail _ (.tail _ (.tail _ (.tail _ (.tail _ (.tail _ (.head _))))))))))))).cell 2⟩ ?_
                  clear hK K
                  try simp only [Act.put, List.setIfInBounds_toArray, List.set_cons_zero, List.set_cons_succ]
                  generalize hv10 : World.alloc _ _ = v10
                  rw [← hp10]
                  rw [show v2.alloc (.cells #[.int .i64 0, .int .i64 0, .int .i64 0] 32) = v10 from hv10] at N10
                  clear hv10 hp10
                  refine wpAnyG_two (i := 4) (j := 9) rfl rfl (by kernel_rfl) (fun K hK => ?_) (fun K hK => ?_)
                  · go_simp
                    refine (HCt.out _).mono ?_
                    rintro e v11 ⟨t, rfl, ht, kv11⟩
                    have N11 := N10.below kv11
                    refine hK.out _ _ ⟨(N11.1 _ (.tail _ (.tail _ (.tail _ (.tail _ (.tail _ (.tail _ (.tail _ (.tail _ (.tail _ (.tail _ (.tail _ (.head _))))))))))))).cell 0, (N11.1 _ (.tail _ (.tail _ (.tail _ (.tail _ (.tail _ (.tail _ (.tail _ (.tail _ (.tail _ (.tail _ (.tail _ (.head _))))))))))))).cell 1, (N11.1 _ (.tail _ (.tail _ (.tail _ (.tail _ (.tail _ (.tail _ (.tail _ (.tail _ (.tail _ (.tail _ (.tail _ (.head _))))))))))))).cell 2⟩ ?_
                    clear hK K
                    try simp only [Act.put, List.setIfInBounds_toArray, List.set_cons_zero, List.set_cons_succ]
                    clear hHeld
                    have hHeld : S3q f w.heap.size v11 := ⟨(N11.1 _ (.tail _ (.tail _ (.tail _ (.tail _ (.tail _ (.tail _ (.tail _ (.tail _ (.tail _ (.tail _ (.tail _ (.head _))))))))))))).cell 0, (N11.1 _ (.tail _ (.tail _ (.tail _ (.tail _ (.tail _ (.tail _ (.tail _ (.tail _ (.tail _ (.tail _ (.tail _ (.head _))))))))))))).cell 1, (N11.1 _ (.tail _ (.tail _ (.tail _ (.tail _ (.tail _ (.tail _ (.tail _ (.tail _ (.tail _ (.tail _ (.tail _ (.head _))))))))))))).cell 2⟩
                    refine wpAnyG_take (i := 5) (v := ?v5x23) rfl (by kernel_rfl) (fun _ _ _ h => h) (Or.inl ⟨by rfl, ?y5x23⟩) hHeld ?r5x23
                    case y5x23 => (intro wS hSw; obtain ⟨s1, s2, s3⟩ := hSw; go_simp; try with_reducible rfl)
                    try simp only [Act.put, List.setIfInBounds_toArray, List.set_cons_zero, List.set_cons_succ]
                    refine wpAnyG_take (i := 6) (v := ?v6x24) rfl (by kernel_rfl) (fun _ _ _ h => h) (Or.inl ⟨by rfl, ?y6x24⟩) hHeld ?r6x24
                    case y6x24 => (intro wS hSw; obtain ⟨s1, s2, s3⟩ := hSw; go_simp; try with_reducible rfl)
                    try simp only [Act.put, List.setIfInBounds_toArray, List.set_cons_zero, List.set_cons_succ]
                    refine wpAnyG_take (i := 7) (v := ?v7x25) rfl (by kernel_rfl) (fun _ _ _ h => h) (Or.inl ⟨by rfl, ?y7x25⟩) hHeld ?r7x25
                    case y7x25 => (intro wS hSw; obtain ⟨s1, s2, s3⟩ := hSw; go_simp; try with_reducible rfl)
                    try simp only [Act.put, List.setIfInBounds_toArray, List.set_cons_zero, List.set_cons_succ]
                    refine wpAnyG_one (i := 9) rfl (by kernel_rfl) (fun K hK => ?_)
                    go_simp
                    obtain ⟨p12, hp12⟩ : ∃ p, p = v11.heap.size := ⟨_, rfl⟩
                    have L12 := N11.lt
                    have S12 := N11.2.size
                    have N12 := N11.new [.int .i64 0, .int .i64 0] 24
                    rw [← hp12] at L12 S12 N12
                    refine hK.out _ _ ⟨(N12.1 _ (.tail _ (.tail _ (.tail _ (.tail _ (.tail _ (.tail _ (.tail _ (.tail _ (.tail _ (.tail _ (.tail _ (.tail _ (.head _)))))))))))))).cell 0, (N12.1 _ (.tail _ (.tail _ (.tail _ (.tail _ (.tail _ (.tail _ (.tail _ (.tail _ (.tail _ (.tail _ (.tail _ (.tail _ (.head _)))))))))))))).cell 1, (N12.1 _ (.tail _ (.tail _ (.tail _ (.tail _ (.tail _ (.tail _ (.tail _ (.tail _ (.tail _ (.tail _ (.tail _ (.tail _ (.head _)))))))))))))).cell 2⟩ ?_
                    clear hK K
                    try simp only [Act.put, List.setIfInBounds_toArray, List.set_cons_zero, List.set_cons_succ]
                    generalize hv12 : World.alloc _ _ = v12
                    rw [← hp12]
                    rw [show v11.alloc (.cells #[.int .i64 0, .int .i64 0] 24) = v12 from hv12] at N12
                    clear hv12 hp12
                    have E13 : Cl p10 [.int .i64 0, .int .i64 0, .int .i64 0] 32 v12 := N12.1 _ (.tail _ (.head _))
                    have ne13 : ∀ x ∈ [(p12, [.int .i64 0, .int .i64 0], 24), (w9.heap.size, k.l, 32), (w9.heap.size + 1, [.int .i64 0, .int .i64 0], 24), (w8.heap.size, d.l, 32), (w8.heap.size + 1, [.int .i64 0, .int .i64 0], 24), (w7.heap.size, c.l, 32), (w7.heap.size + 1, [.int .i64 0, .int .i64 0], 24), (w6.heap.size, b.l, 32), (w6.heap.size + 1, [.int .i64 0, .int .i64 0], 24), (w2.heap.size, a.l, 32), (w2.heap.size + 1, [.int .i64 0, .int .i64 0], 24), (w.heap.size, f.l, 32), (w.heap.size + 1, g.l, 32), (w.heap.size + 1 + 1, h.l, 32)], x.1 ≠ p10 := by
                      intro x hx
                      simp only [List.mem_cons, List.not_mem_nil, or_false] at hx
                      rcases hx with rfl | hx
                      · have := L12 _ (.head _); omega
                      · have := L10 x (by simp only [List.mem_cons, List.not_mem_nil, or_false]; exact hx); omega
                    have T13 := (N12.mono (l' := [(p12, [.int .i64 0, .int .i64 0], 24), (w9.heap.size, k.l, 32), (w9.heap.size + 1, [.int .i64 0, .int .i64 0], 24), (w8.heap.size, d.l, 32), (w8.heap.size + 1, [.int .i64 0, .int .i64 0], 24), (w7.heap.size, c.l, 32), (w7.heap.size + 1, [.int .i64 0, .int .i64 0], 24), (w6.heap.size, b.l, 32), (w6.heap.size + 1, [.int .i64 0, .int .i64 0], 24), (w2.heap.size, a.l, 32), (w2.heap.size + 1, [.int .i64 0, .int .i64 0], 24), (w.heap.size, f.l, 32), (w.heap.size + 1, g.l, 32), (w.heap.size + 1 + 1, h.l, 32)]) (fun x hx => by simp only [List.mem_cons, List.not_mem_nil, or_false] at hx ⊢; rcases hx with hx | hx; exact .inl hx; exact .inr (.inr hx))).set3 E13 ne13 S10 (.int .i64 t.a) (.int .i64 t.b) (.int .i64 t.c)
                    have c130 := E13.cell 0
                    have f130 := E13.frozen 0
                    have c131 := E13.cell 1
                    have f131 := E13.frozen 1
                    have c132 := E13.cell 2
                    have f132 := E13.frozen 2
                    have l13 := E13.lt
                    simp at c130 c131 c132
                    refine wpAnyG_one (i := 10) rfl (by kernel_rfl) (fun K hK => ?_)
                    go_simp
                    refine hK.out _ _ ⟨(T13.1 _ (.tail _ (.tail _ (.tail _ (.tail _ (.tail _ (.tail _ (.tail _ (.tail _ (.tail _ (.tail _ (.tail _ (.tail _ (.head _)))))))))))))).cell 0, (T13.1 _ (.tail _ (.tail _ (.tail _ (.tail _ (.tail _ (.tail _ (.tail _ (.tail _ (.tail _ (.tail _ (.tail _ (.tail _ (.head _)))))))))))))).cell 1, (T13.1 _ (.tail _ (.tail _ (.tail _ (.tail _ (.tail _ (.tail _ (.tail _ (.tail _ (.tail _ (.tail _ (.tail _ (.tail _ (.head _)))))))))))))).cell 2⟩ ?_
                    clear hK K
                    try simp only [Act.put, List.setIfInBounds_toArray, List.set_cons_zero, List.set_cons_succ]
                    generalize hx13 : World.setCell _ _ _ = x13
                    rw [hx13] at T13
                    clear hx13 c130 f130 c131 f131 c132 f132 l13
                    have U13 : Cl p12 [.int .i64 0, .int .i64 0] 24 x13 := T13.1 _ (.tail _ (.head _))
                    have c130 := U13.cell 0
                    have f130 := U13.frozen 0
                    have c131 := U13.cell 1
                    have f131 := U13.frozen 1
                    have l13 := U13.lt
                    simp at c130 c131
                    have me13 : ∀ x ∈ [(p10, t.l, 32), (w9.heap.size, k.l, 32), (w9.heap.size + 1, [.int .i64 0, .int .i64 0], 24), (w8.heap.size, d.l, 32), (w8.heap.size + 1, [.int .i64 0, .int .i64 0], 24), (w7.heap.size, c.l, 32), (w7.heap.size + 1, [.int .i64 0, .int .i64 0], 24), (w6.heap.size, b.l, 32), (w6.heap.size + 1, [.int .i64 0, .int .i64 0], 24), (w2.heap.size, a.l, 32), (w2.heap.size + 1, [.int .i64 0, .int .i64 0], 24), (w.heap.size, f.l, 32), (w.heap.size + 1, g.l, 32), (w.heap.size + 1 + 1, h.l, 32)], x.1 ≠ p12 := by
                      intro x hx
                      simp only [List.mem_cons, List.not_mem_nil, or_false] at hx
                      rcases hx with rfl | hx
                      · have := L12 _ (.head _); omega
                      · have := L12 x (by simp only [List.mem_cons, List.not_mem_nil, or_false]; exact .inr hx); omega
                    have V13 := (T13.mono (l' := [(p10, t.l, 32), (w9.heap.size, k.l, 32), (w9.heap.size + 1, [.int .i64 0, .int .i64 0], 24), (w8.heap.size, d.l, 32), (w8.heap.size + 1, [.int .i64 0, .int .i64 0], 24), (w7.heap.size, c.l, 32), (w7.heap.size + 1, [.int .i64 0, .int .i64 0], 24), (w6.heap.size, b.l, 32), (w6.heap.size + 1, [.int .i64 0, .int .i64 0], 24), (w2.heap.size, a.l, 32), (w2.heap.size + 1, [.int .i64 0, .int .i64 0], 24), (w.heap.size, f.l, 32), (w.heap.size + 1, g.l, 32), (w.heap.size + 1 + 1, h.l, 32)]) (fun x hx => by simp only [List.mem_cons, List.not_mem_nil, or_false] at hx ⊢; rcases hx with hx | hx; exact .inl hx; exact .inr (.inr hx))).set2 U13 me13 S12 (.int .i64 0) (.int .i64 0)
                    refine wpAnyG_last (i := 11) rfl (by kernel_rfl) (by kernel_rfl) (fun K hK => ?_)
                    go_simp
                    refine hK.out _ _ ?_
                    clear hK K
                    try simp only [Act.put, List.setIfInBounds_toArray, List.set_cons_zero, List.set_cons_succ]
                    refine wpAnyG_done (by kernel_rfl) ?_ _
                    generalize hx13 : World.setCell _ _ _ = y13
                    rw [hx13] at V13
                    clear hx13
                    go_wp2
                    go_meet
                    exact ⟨_, _, rfl, rfl, t, ht.1, V13.mono (fun x hx => by simp only [List.mem_cons, List.not_mem_nil, or_false] at hx ⊢; rcases hx with hx | hx | hx; exact .inr (.inl hx); exact .inl hx; exact .inr (.inr hx))⟩
                  · go_simp
                    obtain ⟨p14, hp14⟩ : ∃ p, p = v10.heap.size := ⟨_, rfl⟩
                    have L14 := N10.lt
                    have S14 := N10.2.size
                    have N14 := N10.new [.int .i64 0, .int .i64 0] 24
                    rw [← hp14] at L14 S14 N14
                    refine hK.out _ _ ⟨(N14.1 _ (.tail _ (.tail _ (.tail _ (.tail _ (.tail _ (.tail _ (.tail _ (.tail _ (.tail _ (.tail _ (.tail _ (.tail _ (.head _)))))))))))))).cell 0, (N14.1 _ (.tail _ (.tail _ (.tail _ (.tail _ (.tail _ (.tail _ (.tail _ (.tail _ (.tail _ (.tail _ (.tail _ (.tail _ (.head _)))))))))))))).cell 1, (N14.1 _ (.tail _ (.tail _ (.tail _ (.tail _ (.tail _ (.tail _ (.tail _ (.tail _ (.tail _ (.tail _ (.tail _ (.tail _ (.head _)))))))))))))).cell 2⟩ ?_
                    clear hK K
                    try simp only [Act.put, List.setIfInBounds_toArray, List.set_cons_zero, List.set_cons_succ]
                    generalize hv14 : World.alloc _ _ = v14
                    rw [← hp14]
                    rw [show v10.alloc (.cells #[.int .i64 0, .int .i64 0] 24) = v14 from hv14] at N14
                    clear hv14 hp14
                    refine wpAnyG_one (i := 4) rfl (by kernel_rfl) (fun K hK => ?_)
                    go_simp
                    refine (HCt.out _).mono ?_
                    rintro e v15 ⟨t, rfl, ht, kv15⟩
                    have N15 := N14.below kv15
                    refine hK.out _ _ ⟨(N15.1 _ (.tail _ (.tail _ (.tail _ (.tail _ (.tail _ (.tail _ (.tail _ (.tail _ (.tail _ (.tail _ (.tail _ (.tail _ (.head _)))))))))))))).cell 0, (N15.1 _ (.tail _ (.tail _ (.tail _ (.tail _ (.tail _ (.tail _ (.tail _ (.tail _ (.tail _ (.tail _ (.tail _ (.tail _ (.head _)))))))))))))).cell 1, (N15.1 _ (.tail _ (.tail _ (.tail _ (.tail _ (.tail _ (.tail _ (.tail _ (.tail _ (.tail _ (.tail _ (.tail _ (.tail _ (.head _)))))))))))))).cell 2⟩ ?_
                    clear hK K
                    try simp only [Act.put, List.setIfInBounds_toArray, List.set_cons_zero, List.set_cons_succ]
                    clear hHeld
                    have hHeld : S3q f w.heap.size v15 := ⟨(N15.1 _ (.tail _ (.tail _ (.tail _ (.tail _ (.tail _ (.tail _ (.tail _ (.tail _ (.tail _ (.tail _ (.tail _ (.tail _ (.head _)))))))))))))).cell 0, (N15.1 _ (.tail _ (.tail _ (.tail _ (.tail _ (.tail _ (.tail _ (.tail _ (.tail _ (.tail _ (.tail _ (.tail _ (.tail _ (.head _)))))))))))))).cell 1, (N15.1 _ (.tail _ (.tail _ (.tail _ (.tail _ (.tail _ (.tail _ (.tail _ (.tail _ (.tail _ (.tail _ (.tail _ (.tail _ (.head _)))))))))))))).cell 2⟩
                    refine wpAnyG_take (i := 5) (v := ?v5x26) rfl (by kernel_rfl) (fun _ _ _ h => h) (Or.inl ⟨by rfl, ?y5x26⟩) hHeld ?r5x26
                    case y5x26 => (intro wS hSw; obtain ⟨s1, s2, s3⟩ := hSw; go_simp; try with_reducible rfl)
                    try simp only [Act.put, List.setIfInBounds_toArray, List.set_cons_zero, List.set_cons_succ]
                    refine wpAnyG_take (i := 6) (v := ?v6x27) rfl (by kernel_rfl) (fun _ _ _ h => h) (Or.inl ⟨by rfl, ?y6x27⟩) hHeld ?r6x27
                    case y6x27 => (intro wS hSw; obtain ⟨s1, s2, s3⟩ := hSw; go_simp; try with_reducible rfl)
                    try simp only [Act.put, List.setIfInBounds_toArray, List.set_cons_zero, List.set_cons_succ]
                    refine wpAnyG_take (i := 7) (v := ?v7x28) rfl (by kernel_rfl) (fun _ _ _ h => h) (Or.inl ⟨by rfl, ?y7x28⟩) hHeld ?r7x28
                    case y7x28 => (intro wS hSw; obtain ⟨s1, s2, s3⟩ := hSw; go_simp; try with_reducible rfl)
                    try simp only [Act.put, List.setIfInBounds_toArray, List.set_cons_zero, List.set_cons_succ]
                    have E16 : Cl p10 [.int .i64 0, .int .i64 0, .int .i64 0] 32 v15 := N15.1 _ (.tail _ (.head _))
                    have ne16 : ∀ x ∈ [(p14, [.int .i64 0, .int .i64 0], 24), (w9.heap.size, k.l, 32), (w9.heap.size + 1, [.int .i64 0, .int .i64 0], 24), (w8.heap.size, d.l, 32), (w8.heap.size + 1, [.int .i64 0, .int .i64 0], 24), (w7.heap.size, c.l, 32), (w7.heap.size + 1, [.int .i64 0, .int .i64 0], 24), (w6.heap.size, b.l, 32), (w6.heap.size + 1, [.int .i64 0, .int .i64 0], 24), (w2.heap.size, a.l, 32), (w2.heap.size + 1, [.int .i64 0, .int .i64 0], 24), (w.heap.size, f.l, 32), (w.heap.size + 1, g.l, 32), (w.heap.size + 1 + 1, h.l, 32)], x.1 ≠ p10 := by
                      intro x hx
                      simp only [List.mem_cons, List.not_mem_nil, or_false] at hx
                      rcases hx with rfl | hx
                      · have := L14 _ (.head _); omega
                      · have := L10 x (by simp only [List.mem_cons, List.not_mem_nil, or_false]; exact hx); omega
                    have T16 := (N15.mono (l' := [(p14, [.int .i64 0, .int .i64 0], 24), (w9.heap.size, k.l, 32), (w9.heap.size + 1, [.int .i64 0, .int .i64 0], 24), (w8.heap.size, d.l, 32), (w8.heap.size + 1, [.int .i64 0, .int .i64 0], 24), (w7.heap.size, c.l, 32), (w7.heap.size + 1, [.int .i64 0, .int .i64 0], 24), (w6.heap.size, b.l, 32), (w6.heap.size + 1, [.int .i64 0, .int .i64 0], 24), (w2.heap.size, a.l, 32), (w2.heap.size + 1, [.int .i64 0, .int .i64 0], 24), (w.heap.size, f.l, 32), (w.heap.size + 1, g.l, 32), (w.heap.size + 1 + 1, h.l, 32)]) (fun x hx => by simp only [List.mem_cons, List.not_mem_nil, or_false] at hx ⊢; rcases hx with hx | hx; exact .inl hx; exact .inr (.inr hx))).set3 E16 ne16 S10 (.int .i64 t.a) (.int .i64 t.b) (.int .i64 t.c)
                    have c160 := E16.cell 0
                    have f160 := E16.frozen 0
                    have c161 := E16.cell 1
                    have f161 := E16.frozen 1
                    have c162 := E16.cell 2
                    have f162 := E16.frozen 2
                    have l16 := E16.lt
                    simp at c160 c161 c162
                    refine wpAnyG_one (i := 10) rfl (by kernel_rfl) (fun K hK => ?_)
                    go_simp
                    refine hK.out _ _ ⟨(T16.1 _ (.tail _ (.tail _ (.tail _ (.tail _ (.tail _ (.tail _ (.tail _ (.tail _ (.tail _ (.tail _ (.tail _ (.tail _ (.head _)))))))))))))).cell 0, (T16.1 _ (.tail _ (.tail _ (.tail _ (.tail _ (.tail _ (.tail _ (.tail _ (.tail _ (.tail _ (.tail _ (.tail _ (.tail _ (.head _)))))))))))))).cell 1, (T16.1 _ (.tail _ (.tail _ (.tail _ (.tail _ (.tail _ (.tail _ (.tail _ (.tail _ (.tail _ (.tail _ (.tail _ (.tail _ (.head _)))))))))))))).cell 2⟩ ?_
                    clear hK K
                    try simp only [Act.put, List.setIfInBounds_toArray, List.set_cons_zero, List.set_cons_succ]
                    generalize hx16 : World.setCell _ _ _ = x16
                    rw [hx16] at T16
                    clear hx16 c160 f160 c161 f161 c162 f162 l16
                    have U16 : Cl p14 [.int .i64 0, .int .i64 0] 24 x16 := T16.1 _ (.tail _ (.head _))
                    have c160 := U16.cell 0
                    have f160 := U16.frozen 0
                    have c161 := U16.cell 1
                    have f161 := U16.frozen 1
                    have l16 := U16.lt
                    simp at c160 c161
                    have me16 : ∀ x ∈ [(p10, t.l, 32), (w9.heap.size, k.l, 32), (w9.heap.size + 1, [.int .i64 0, .int .i64 0], 24), (w8.heap.size, d.l, 32), (w8.heap.size + 1, [.int .i64 0, .int .i64 0], 24), (w7.heap.size, c.l, 32), (w7.heap.size + 1, [.int .i64 0, .int .i64 0], 24), (w6.heap.size, b.l, 32), (w6.heap.size + 1, [.int .i64 0, .int .i64 0], 24), (w2.heap.size, a.l, 32), (w2.heap.size + 1, [.int .i64 0, .int .i64 0], 24), (w.heap.size, f.l, 32), (w.heap.size + 1, g.l, 32), (w.heap.size + 1 + 1, h.l, 32)], x.1 ≠ p14 := by
                      intro x hx
                      simp only [List.mem_cons, List.not_mem_nil, or_false] at hx
                      rcases hx with rfl | hx
                      · have := L14 _ (.head _); omega
                      · have := L14 x (by simp only [List.mem_cons, List.not_mem_nil, or_false]; exact .inr hx); omega
                    have V16 := (T16.mono (l' := [(p10, t.l, 32), (w9.heap.size, k.l, 32), (w9.heap.size + 1, [.int .i64 0, .int .i64 0], 24), (w8.heap.size, d.l, 32), (w8.heap.size + 1, [.int .i64 0, .int .i64 0], 24), (w7.heap.size, c.l, 32), (w7.heap.size + 1, [.int .i64 0, .int .i64 0], 24), (w6.heap.size, b.l, 32), (w6.heap.size + 1, [.int .i64 0, .int .i64 0], 24), (w2.heap.size, a.l, 32), (w2.heap.size + 1, [.int .i64 0, .int .i64 0], 24), (w.heap.size, f.l, 32), (w.heap.size + 1, g.l, 32), (w.heap.size + 1 + 1, h.l, 32)]) (fun x hx => by simp only [List.mem_cons, List.not_mem_nil, or_false] at hx ⊢; rcases hx with hx | hx; exact .inl hx; exact .inr (.inr hx))).set2 U16 me16 S14 (.int .i64 0) (.int .i64 0)
                    refine wpAnyG_last (i := 11) rfl (by kernel_rfl) (by kernel_rfl) (fun K hK => ?_)
                    go_simp
                    refine hK.out _ _ ?_
                    clear hK K
                    try simp only [Act.put, List.setIfInBounds_toArray, List.set_cons_zero, List.set_cons_succ]
                    refine wpAnyG_done (by kernel_rfl) ?_ _
                    generalize hx16 : World.setCell _ _ _ = y16
                    rw [hx16] at V16
                    clear hx16
                    go_wp2
                    go_meet
                    exact ⟨_, _, rfl, rfl, t, ht.1, V16.mono (fun x hx => by simp only [List.mem_cons, List.not_mem_nil, or_false] at hx ⊢; rcases hx with hx | hx | hx; exact .inr (.inl hx); exact .inl hx; exact .inr (.inr hx))⟩
                · go_simp
                  obtain ⟨p17, hp17⟩ : ∃ p, p = v2.heap.size := ⟨_, rfl⟩
                  have L17 := N2.lt
                  have S17 := N2.2.size
                  have N17 := N2.new [.int .i64 0, .int .i64 0] 24
                  rw [← hp17] at L17 S17 N17
                  refine hK.out _ _ ⟨(N17.1 _ (.tail _ (.tail _ (.tail _ (.tail _ (.tail _ (.tail _ (.tail _ (.tail _ (.tail _ (.tail _ (.tail _ (.head _))))))))))))).cell 0, (N17.1 _ (.tail _ (.tail _ (.tail _ (.tail _ (.tail _ (.tail _ (.tail _ (.tail _ (.tail _ (.tail _ (.tail _ (.head _))))))))))))).cell 1, (N17.1 _ (.tail _ (.tail _ (.tail _ (.tail _ (.tail _ (.tail _ (.tail _ (.tail _ (.tail _ (.tail _ (.tail _ (.head _))))))))))))).cell 2⟩ ?_
                  clear hK K
                  try simp only [Act.put, List.setIfInBounds_toArray, List.set_cons_zero, List.set_cons_succ]
                  generalize hv17 : World.alloc _ _ = v17
                  rw [← hp17]
                  rw [show v2.alloc (.cells #[.int .i64 0, .int .i64 0] 24) = v17 from hv17] at N17
                  clear hv17 hp17
                  refine wpAnyG_two (i := 4) (j := 8) rfl rfl (by kernel_rfl) (fun K hK => ?_) (fun K hK => ?_)
                  · go_simp
                    refine (HCt.out _).mono ?_
                    rintro e v18 ⟨t, rfl, ht, kv18⟩
                    have N18 := N17.below kv18
                    refine hK.out _ _ ⟨(N18.1 _ (.tail _ (.tail _ (.tail _ (.tail _ (.tail _ (.tail _ (.tail _ (.tail _ (.tail _ (.tail _ (.tail _ (.head _))))))))))))).cell 0, (N18.1 _ (.tail _ (.tail _ (.tail _ (.tail _ (.tail _ (.tail _ (.tail _ (.tail _ (.tail _ (.tail _ (.tail _ (.head _))))))))))))).cell 1, (N18.1 _ (.tail _ (.tail _ (.tail _ (.tail _ (.tail _ (.tail _ (.tail _ (.tail _ (.tail _ (.tail _ (.tail _ (.head _))))))))))))).cell 2⟩ ?_
                    clear hK K
                    try simp only [Act.put, List.setIfInBounds_toArray, List.set_cons_zero, List.set_cons_succ]
                    clear hHeld
                    have hHeld : S3q f w.heap.size v18 := ⟨(N18.1 _ (.tail _ (.tail _ (.tail _ (.tail _ (.tail _ (.tail _ (.tail _ (.tail _ (.tail _ (.tail _ (.tail _ (.head _))))))))))))).cell 0, (N18.1 _ (.tail _ (.tail _ (.tail _ (.tail _ (.tail _ (.tail _ (.tail _ (.tail _ (.tail _ (.tail _ (.tail _ (.head _))))))))))))).cell 1, (N18.1 _ (.tail _ (.tail _ (.tail _ (.tail _ (.tail _ (.tail _ (.tail _ (.tail _ (.tail _ (.tail _ (.tail _ (.head _))))))))))))).cell 2⟩
                    refine wpAnyG_take (i := 5) (v := ?v5x29) rfl (by kernel_rfl) (fun _ _ _ h => h) (Or.inl ⟨by rfl, ?y5x29⟩) hHeld ?r5x29
                    case y5x29 => (intro wS hSw; obtain ⟨s1, s2, s3⟩ := hSw; go_simp; try with_reducible rfl)
                    try simp only [Act.put, List.setIfInBounds_toArray, List.set_cons_zero, List.set_cons_succ]
                    refine wpAnyG_take (i := 6) (v := ?v6x30) rfl (by kernel_rfl) (fun _ _ _ h => h) (Or.inl ⟨by rfl, ?y6x30⟩) hHeld ?r6x30
                    case y6x30 => (intro wS hSw; obtain ⟨s1, s2, s3⟩ := hSw; go_simp; try with_reducible rfl)
                    try simp only [Act.put, List.setIfInBounds_toArray, List.set_cons_zero, List.set_cons_succ]
                    refine wpAnyG_take (i := 7) (v := ?v7x31) rfl (by kernel_rfl) (fun _ _ _ h => h) (Or.inl ⟨by rfl, ?y7x31⟩) hHeld ?r7x31
                    case y7x31 => (intro wS hSw; obtain ⟨s1, s2, s3⟩ := hSw; go_simp; try with_reducible rfl)
                    try simp only [Act.put, List.setIfInBounds_toArray, List.set_cons_zero, List.set_cons_succ]
                    refine wpAnyG_one (i := 8) rfl (by kernel_rfl) (fun K hK => ?_)
                    go_simp
                    obtain ⟨p19, hp19⟩ : ∃ p, p = v18.heap.size := ⟨_, rfl⟩
                    have L19 := N18.lt
                    have S19 := N18.2.size
                    have N19 := N18.new [.int .i64 0, .int .i64 0, .int .i64 0] 32
                    rw [← hp19] at L19 S19 N19
                    refine hK.out _ _ ⟨(N19.1 _ (.tail _ (.tail _ (.tail _ (.tail _ (.tail _ (.tail _ (.tail _ (.tail _ (.tail _ (.tail _ (.tail _ (.tail _ (.head _)))))))))))))).cell 0, (N19.1 _ (.tail _ (.tail _ (.tail _ (.tail _ (.tail _ (.tail _ (.tail _ (.tail _ (.tail _ (.tail _ (.tail _ (.tail _ (.head _)))))))))))))).cell 1, (N19.1 _ (.tail _ (.tail _ (.tail _ (.tail _ (.tail _ (.tail _ (.tail _ (.tail _ (.tail _ (.tail _ (.tail _ (.tail _ (.head _)))))))))))))).cell 2⟩ ?_
                    clear hK K
                    try simp only [Act.put, List.setIfInBounds_toArray, List.set_cons_zero, List.set_cons_succ]
                    generalize hv19 : World.alloc _ _ = v19
                    rw [← hp19]
                    rw [show v18.alloc (.cells #[.int .i64 0, .int .i64 0, .int .i64 0] 32) = v19 from hv19] at N19
                    clear hv19 hp19
                    have E20 : Cl p19 [.int .i64 0, .int .i64 0, .int .i64 0] 32 v19 := N19.1 _ (.head _)
                    have ne20 : ∀ x ∈ [(p17, [.int .i64 0, .int .i64 0], 24), (w9.heap.size, k.l, 32), (w9.heap.size + 1, [.int .i64 0, .int .i64 0], 24), (w8.heap.size, d.l, 32), (w8.heap.size + 1, [.int .i64 0, .int .i64 0], 24), (w7.heap.size, c.l, 32), (w7.heap.size + 1, [.int .i64 0, .int .i64 0], 24), (w6.heap.size, b.l, 32), (w6.heap.size + 1, [.int .i64 0, .int .i64 0], 24), (w2.heap.size, a.l, 32), (w2.heap.size + 1, [.int .i64 0, .int .i64 0], 24), (w.heap.size, f.l, 32), (w.heap.size + 1, g.l, 32), (w.heap.size + 1 + 1, h.l, 32)], x.1 ≠ p19 := by
                      intro x hx
                      simp only [List.mem_cons, List.not_mem_nil, or_false] at hx
                      rcases hx with rfl | hx
                      · have := L19 _ (.head _); omega
                      · have := L19 x (by simp only [List.mem_cons, List.not_mem_nil, or_false]; exact .inr hx); omega
                    have T20 := (N19.mono (l' := [(p17, [.int .i64 0, .int .i64 0], 24), (w9.heap.size, k.l, 32), (w9.heap.size + 1, [.int .i64 0, .int .i64 0], 24), (w8.heap.size, d.l, 32), (w8.heap.size + 1, [.int .i64 0, .int .i64 0], 24), (w7.heap.size, c.l, 32), (w7.heap.size + 1, [.int .i64 0, .int .i64 0], 24), (w6.heap.size, b.l, 32), (w6.heap.size + 1, [.int .i64 0, .int .i64 0], 24), (w2.heap.size, a.l, 32), (w2.heap.size + 1, [.int .i64 0, .int .i64 0], 24), (w.heap.size, f.l, 32), (w.heap.size + 1, g.l, 32), (w.heap.size + 1 + 1, h.l, 32)]) (fun x hx => by simp only [List.mem_cons, List.not_mem_nil, or_false] at hx ⊢; exact .inr hx)).set3 E20 ne20 S19 (.int .i64 t.a) (.int .i64 t.b) (.int .i64 t.c)
                    have c200 := E20.cell 0
                    have f200 := E20.frozen 0
                    have c201 := E20.cell 1
                    have f201 := E20.frozen 1
                    have c202 := E20.cell 2
                    have f202 := E20.frozen 2
                    have l20 := E20.lt
                    simp at c200 c201 c202
                    refine wpAnyG_one (i := 10) rfl (by kernel_rfl) (fun K hK => ?_)
                    go_simp
                    refine hK.out _ _ ⟨(T20.1 _ (.tail _ (.tail _ (.tail _ (.tail _ (.tail _ (.tail _ (.tail _ (.tail _ (.tail _ (.tail _ (.tail _ (.tail _ (.head _)))))))))))))).cell 0, (T20.1 _ (.tail _ (.tail _ (.tail _ (.tail _ (.tail _ (.tail _ (.tail _ (.tail _ (.tail _ (.tail _ (.tail _ (.tail _ (.head _)))))))))))))).cell 1, (T20.1 _ (.tail _ (.tail _ (.tail _ (.tail _ (.tail _ (.tail _ (.tail _ (.tail _ (.tail _ (.tail _ (.tail _ (.tail _ (.head _)))))))))))))).cell 2⟩ ?_
                    clear hK K
                    try simp only [Act.put, List.setIfInBounds_toArray, List.set_cons_zero, List.set_cons_succ]
                    generalize hx20 : World.setCell _ _ _ = x20
                    rw [hx20] at T20
                    clear hx20 c200 f200 c201 f201 c202 f202 l20
                    have U20 : Cl p17 [.int .i64 0, .int .i64 0] 24 x20 := T20.1 _ (.tail _ (.head _))
                    have c200 := U20.cell 0
                    have f200 := U20.frozen 0
                    have c201 := U20.cell 1
                    have f201 := U20.frozen 1
                    have l20 := U20.lt
                    simp at c200 c201
                    have me20 : ∀ x ∈ [(p19, t.l, 32), (w9.heap.size, k.l, 32), (w9.heap.size + 1, [.int .i64 0, .int .i64 0], 24), (w8.heap.size, d.l, 32), (w8.heap.size + 1, [.int .i64 0, .int .i64 0], 24), (w7.heap.size, c.l, 32), (w7.heap.size + 1, [.int .i64 0, .int .i64 0], 24), (w6.heap.size, b.l, 32), (w6.heap.size + 1, [.int .i64 0, .int .i64 0], 24), (w2.heap.size, a.l, 32), (w2.heap.size + 1, [.int .i64 0, .int .i64 0], 24), (w.heap.size, f.l, 32), (w.heap.size + 1, g.l, 32), (w.heap.size + 1 + 1, h.l, 32)], x.1 ≠ p17 := by
                      intro x hx
                      simp only [List.mem_cons, List.not_mem_nil, or_false] at hx
                      rcases hx with rfl | hx
                      · have := L19 _ (.head _); omega
                      · have := L17 x (by simp only [List.mem_cons, List.not_mem_nil, or_false]; exact hx); omega
                    have V20 := (T20.mono (l' := [(p19, t.l, 32), (w9.heap.size, k.l, 32), (w9.heap.size + 1, [.int .i64 0, .int .i64 0], 24), (w8.heap.size, d.l, 32), (w8.heap.size + 1, [.int .i64 0, .int .i64 0], 24), (w7.heap.size, c.l, 32), (w7.heap.size + 1, [.int .i64 0, .int .i64 0], 24), (w6.heap.size, b.l, 32), (w6.heap.size + 1, [.int .i64 0, .int .i64 0], 24), (w2.heap.size, a.l, 32), (w2.heap.size + 1, [.int .i64 0, .int .i64 0], 24), (w.heap.size, f.l, 32), (w.heap.size + 1, g.l, 32), (w.heap.size + 1 + 1, h.l, 32)]) (fun x hx => by simp only [List.mem_cons, List.not_mem_nil, or_false] at hx ⊢; rcases hx with hx | hx; exact .inl hx; exact .inr (.inr hx))).set2 U20 me20 S17 (.int .i64 0) (.int .i64 0)
                    refine wpAnyG_last (i := 11) rfl (by kernel_rfl) (by kernel_rfl) (fun K hK => ?_)
                    go_simp
                    refine hK.out _ _ ?_
                    clear hK K
                    try simp only [Act.put, List.setIfInBounds_toArray, List.set_cons_zero, List.set_cons_succ]
                    refine wpAnyG_done (by kernel_rfl) ?_ _
                    generalize hx20 : World.setCell _ _ _ = y20
                    rw [hx20] at V20
                    clear hx20
                    go_wp2
                    go_meet
                    exact ⟨_, _, rfl, rfl, t, ht.1, V20.mono (fun x hx => by simp only [List.mem_cons, List.not_mem_nil, or_false] at hx ⊢; rcases hx with hx | hx | hx; exact .inr (.inl hx); exact .inl hx; exact .inr (.inr hx))⟩
                  · go_simp
                    obtain ⟨p21, hp21⟩ : ∃ p, p = v17.heap.size := ⟨_, rfl⟩
                    have L21 := N17.lt
                    have S21 := N17.2.size
                    have N21 := N17.new [.int .i64 0, .int .i64 0, .int .i64 0] 32
                    rw [← hp21] at L21 S21 N21
                    refine hK.out _ _ ⟨(N21.1 _ (.tail _ (.tail _ (.tail _ (.tail _ (.tail _ (.tail _ (.tail _ (.tail _ (.tail _ (.tail _ (.tail _ (.tail _ (.head _)))))))))))))).cell 0, (N21.1 _ (.tail _ (.tail _ (.tail _ (.tail _ (.tail _ (.tail _ (.tail _ (.tail _ (.tail _ (.tail _ (.tail _ (.tail _ (.head _)))))))))))))).cell 1, (N21.1 _ (.tail _ (.tail _ (.tail _ (.tail _ (.tail _ (.tail _ (.tail _ (.tail _ (.tail _ (.tail _ (.tail _ (.tail _ (.head _)))))))))))))).cell 2⟩ ?_
                    clear hK K
                    try simp only [Act.put, List.setIfInBounds_toArray, List.set_cons_zero, List.set_cons_succ]
                    generalize hv21 : World.alloc _ _ = v21
                    rw [← hp21]
                    rw [show v17.alloc (.cells #[.int .i64 0, .int .i64 0, .int .i64 0] 32) = v21 from hv21] at N21
                    clear hv21 hp21
                    refine wpAnyG_one (i := 4) rfl (by kernel_rfl) (fun K hK => ?_)
                    go_simp
                    refine (HCt.out _).mono ?_
                    rintro e v22 ⟨t, rfl, ht, kv22⟩
                    have N22 := N21.below kv22
                    refine hK.out _ _ ⟨(N22.1 _ (.tail _ (.tail _ (.tail _ (.tail _ (.tail _ (.tail _ (.tail _ (.tail _ (.tail _ (.tail _ (.tail _ (.tail _ (.head _)))))))))))))).cell 0, (N22.1 _ (.tail _ (.tail _ (.tail _ (.tail _ (.tail _ (.tail _ (.tail _ (.tail _ (.tail _ (.tail _ (.tail _ (.tail _ (.head _)))))))))))))).cell 1, (N22.1 _ (.tail _ (.tail _ (.tail _ (.tail _ (.tail _ (.tail _ (.tail _ (.tail _ (.tail _ (.tail _ (.tail _ (.tail _ (.head _)))))))))))))).cell 2⟩ ?_
                    clear hK K
                    try simp only [Act.put, List.setIfInBounds_toArray, List.set_cons_zero, List.set_cons_succ]
                    clear hHeld
                    have hHeld : S3q f w.heap.size v22 := ⟨(N22.1 _ (.tail _ (.tail _ (.tail _ (.tail _ (.tail _ (.tail _ (.tail _ (.tail _ (.tail _ (.tail _ (.tail _ (.tail _ (.head _)))))))))))))).cell 0, (N22.1 _ (.tail _ (.tail _ (.tail _ (.tail _ (.tail _ (.tail _ (.tail _ (.tail _ (.tail _ (.tail _ (.tail _ (.tail _ (.head _)))))))))))))).cell 1, (N22.1 _ (.tail _ (.tail _ (.tail _ (.tail _ (.tail _ (.tail _ (.tail _ (.tail _ (.tail _ (.tail _ (.tail _ (.tail _ (.head _)))))))))))))).cell 2⟩
                    refine wpAnyG_take (i := 5) (v := ?v5x32) rfl (by kernel_rfl) (fun _ _ _ h => h) (Or.inl ⟨by rfl, ?y5x32⟩) hHeld ?r5x32
                    case y5x32 => (intro wS hSw; obtain ⟨s1, s2, s3⟩ := hSw; go_simp; try with_reducible rfl)
                    try simp only [Act.put, List.setIfInBounds_toArray, List.set_cons_zero, List.set_cons_succ]
                    refine wpAnyG_take (i := 6) (v := ?v6x33) rfl (by kernel_rfl) (fun _ _ _ h => h) (Or.inl ⟨by rfl, ?y6x33⟩) hHeld ?r6x33
                    case y6x33 => (intro wS hSw; obtain ⟨s1, s2, s3⟩ := hSw; go_simp; try with_reducible rfl)
                    try simp only [Act.put, List.setIfInBounds_toArray, List.set_cons_zero, List.set_cons_succ]
                    refine wpAnyG_take (i := 7) (v := ?v7x34) rfl (by kernel_rfl) (fun _ _ _ h => h) (Or.inl ⟨by rfl, ?y7x34⟩) hHeld ?r7x34
                    case y7x34 => (intro wS hSw; obtain ⟨s1, s2, s3⟩ := hSw; go_simp; try with_reducible rfl)
                    try simp only [Act.put, List.setIfInBounds_toArray, List.set_cons_zero, List.set_cons_succ]
                    have E23 : Cl p21 [.int .i64 0, .int .i64 0, .int .i64 0] 32 v22 := N22.1 _ (.head _)
                    have ne23 : ∀ x ∈ [(p17, [.int .i64 0, .int .i64 0], 24), (w9.heap.size, k.l, 32), (w9.heap.size + 1, [.int .i64 0, .int .i64 0], 24), (w8.heap.size, d.l, 32), (w8.heap.size + 1, [.int .i64 0, .int .i64 0], 24), (w7.heap.size, c.l, 32), (w7.heap.size + 1, [.int .i64 0, .int .i64 0], 24), (w6.heap.size, b.l, 32), (w6.heap.size + 1, [.int .i64 0, .int .i64 0], 24), (w2.heap.size, a.l, 32), (w2.heap.size + 1, [.int .i64 0, .int .i64 0], 24), (w.heap.size, f.l, 32), (w.heap.size + 1, g.l, 32), (w.heap.size + 1 + 1, h.l, 32)], x.1 ≠ p21 := by
                      intro x hx
                      simp only [List.mem_cons, List.not_mem_nil, or_false] at hx
                      rcases hx with rfl | hx
                      · have := L21 _ (.head _); omega
                      · have := L21 x (by simp only [List.mem_cons, List.not_mem_nil, or_false]; exact .inr hx); omega
                    have T23 := (N22.mono (l' := [(p17, [.int .i64 0, .int .i64 0], 24), (w9.heap.size, k.l, 32), (w9.heap.size + 1, [.int .i64 0, .int .i64 0], 24), (w8.heap.size, d.l, 32), (w8.heap.size + 1, [.int .i64 0, .int .i64 0], 24), (w7.heap.size, c.l, 32), (w7.heap.size + 1, [.int .i64 0, .int .i64 0], 24), (w6.heap.size, b.l, 32), (w6.heap.size + 1, [.int .i64 0, .int .i64 0], 24), (w2.heap.size, a.l, 32), (w2.heap.size + 1, [.int .i64 0, .int .i64 0], 24), (w.heap.size, f.l, 32), (w.heap.size + 1, g.l, 32), (w.heap.size + 1 + 1, h.l, 32)]) (fun x hx => by simp only [List.mem_cons, List.not_mem_nil, or_false] at hx ⊢; exact .inr hx)).set3 E23 ne23 S21 (.int .i64 t.a) (.int .i64 t.b) (.int .i64 t.c)
                    have c230 := E23.cell 0
                    have f230 := E23.frozen 0
                    have c231 := E23.cell 1
                    have f231 := E23.frozen 1
                    have c232 := E23.cell 2
                    have f232 := E23.frozen 2
                    have l23 := E23.lt
                    simp at c230 c231 c232
                    refine wpAnyG_one (i := 10) rfl (by kernel_rfl) (fun K hK => ?_)
                    go_simp
                    refine hK.out _ _ ⟨(T23.1 _ (.tail _ (.tail _ (.tail _ (.tail _ (.tail _ (.tail _ (.tail _ (.tail _ (.tail _ (.tail _ (.tail _ (.tail _ (.head _)))))))))))))).cell 0, (T23.1 _ (.tail _ (.tail _ (.tail _ (.tail _ (.tail _ (.tail _ (.tail _ (.tail _ (.tail _ (.tail _ (.tail _ (.tail _ (.head _)))))))))))))).cell 1, (T23.1 _ (.tail _ (.tail _ (.tail _ (.tail _ (.tail _ (.tail _ (.tail _ (.tail _ (.tail _ (.tail _ (.tail _ (.tail _ (.head _)))))))))))))).cell 2⟩ ?_
                    clear hK K
                    try simp only [Act.put, List.setIfInBounds_toArray, List.set_cons_zero, List.set_cons_succ]
                    generalize hx23 : World.setCell _ _ _ = x23
                    rw [hx23] at T23
                    clear hx23 c230 f230 c231 f231 c232 f232 l23
                    have U23 : Cl p17 [.int .i64 0, .int .i64 0] 24 x23 := T23.1 _ (.tail _ (.head _))
                    have c230 := U23.cell 0
                    have f230 := U23.frozen 0
                    have c231 := U23.cell 1
                    have f231 := U23.frozen 1
                    have l23 := U23.lt
                    simp at c230 c231
                    have me23 : ∀ x ∈ [(p21, t.l, 32), (w9.heap.size, k.l, 32), (w9.heap.size + 1, [.int .i64 0, .int .i64 0], 24), (w8.heap.size, d.l, 32), (w8.heap.size + 1, [.int .i64 0, .int .i64 0], 24), (w7.heap.size, c.l, 32), (w7.heap.size + 1, [.int .i64 0, .int .i64 0], 24), (w6.heap.size, b.l, 32), (w6.heap.size + 1, [.int .i64 0, .int .i64 0], 24), (w2.heap.size, a.l, 32), (w2.heap.size + 1, [.int .i64 0, .int .i64 0], 24), (w.heap.size, f.l, 32), (w.heap.size + 1, g.l, 32), (w.heap.size + 1 + 1, h.l, 32)], x.1 ≠ p17 := by
                      intro x hx
                      simp only [List.mem_cons, List.not_mem_nil, or_false] at hx
                      rcases hx with rfl | hx
                      · have := L21 _ (.head _); omega
                      · have := L17 x (by simp only [List.mem_cons, List.not_mem_nil, or_false]; exact hx); omega
                    have V23 := (T23.mono (l' := [(p21, t.l, 32), (w9.heap.size, k.l, 32), (w9.heap.size + 1, [.int .i64 0, .int .i64 0], 24), (w8.heap.size, d.l, 32), (w8.heap.size + 1, [.int .i64 0, .int .i64 0], 24), (w7.heap.size, c.l, 32), (w7.heap.size + 1, [.int .i64 0, .int .i64 0], 24), (w6.heap.size, b.l, 32), (w6.heap.size + 1, [.int .i64 0, .int .i64 0], 24), (w2.heap.size, a.l, 32), (w2.heap.size + 1, [.int .i64 0, .int .i64 0], 24), (w.heap.size, f.l, 32), (w.heap.size + 1, g.l, 32), (w.heap.size + 1 + 1, h.l, 32)]) (fun x hx => by simp only [List.mem_cons, List.not_mem_nil, or_false] at hx ⊢; rcases hx with hx | hx; exact .inl hx; exact .inr (.inr hx))).set2 U23 me23 S17 (.int .i64 0) (.int .i64 0)
                    refine wpAnyG_last (i := 11) rfl (by kernel_rfl) (by kernel_rfl) (fun K hK => ?_)
                    go_simp
                    refine hK.out _ _ ?_
                    clear hK K
                    try simp only [Act.put, List.setIfInBounds_toArray, List.set_cons_zero, List.set_cons_succ]
                    refine wpAnyG_done (by kernel_rfl) ?_ _
                    generalize hx23 : World.setCell _ _ _ = y23
                    rw [hx23] at V23
                    clear hx23
                    go_wp2
                    go_meet
                    exact ⟨_, _, rfl, rfl, t, ht.1, V23.mono (fun x hx => by simp only [List.mem_cons, List.not_mem_nil, or_false] at hx ⊢; rcases hx with hx | hx | hx; exact .inr (.inl hx); exact .inl hx; exact .inr (.inr hx))⟩
              · go_simp
                obtain ⟨p24, hp24⟩ : ∃ p, p = v1.heap.size := ⟨_, rfl⟩
                have L24 := N1.lt
                have S24 := N1.2.size
                have N24 := N1.new [.int .i64 0, .int .i64 0, .int .i64 0] 32
                rw [← hp24] at L24 S24 N24
                refine hK.out _ _ ⟨(N24.1 _ (.tail _ (.tail _ (.tail _ (.tail _ (.tail _ (.tail _ (.tail _ (.tail _ (.tail _ (.tail _ (.tail _ (.head _))))))))))))).cell 0, (N24.1 _ (.tail _ (.tail _ (.tail _ (.tail _ (.tail _ (.tail _ (.tail _ (.tail _ (.tail _ (.tail _ (.tail _ (.head _))))))))))))).cell 1, (N24.1 _ (.tail _ (.tail _ (.tail _ (.tail _ (.tail _ (.tail _ (.tail _ (.tail _ (.tail _ (.tail _ (.tail _ (.head _))))))))))))).cell 2⟩ ?_
                clear hK K
                try simp only [Act.put, List.setIfInBounds_toArray, List.set_cons_zero, List.set_cons_succ]
                generalize hv24 : World.alloc _ _ = v24
                rw [← hp24]
                rw [show v1.alloc (.cells #[.int .i64 0, .int .i64 0, .int .i64 0] 32) = v24 from hv24] at N24
                clear hv24 hp24
                refine wpAnyG_two (i := 3) (j := 9) rfl rfl (by kernel_rfl) (fun K hK => ?_) (fun K hK => ?_)
                · go_simp
                  refine (HFi.out _).mono ?_
                  rintro e v25 ⟨rfl, kv25⟩
                  have N25 := N24.below kv25
                  refine hK.out _ _ ⟨(N25.1 _ (.tail _ (.tail _ (.tail _ (.tail _ (.tail _ (.tail _ (.tail _ (.tail _ (.tail _ (.tail _ (.tail _ (.head _))))))))))))).cell 0, (N25.1 _ (.tail _ (.tail _ (.tail _ (.tail _ (.tail _ (.tail _ (.tail _ (.tail _ (.tail _ (.tail _ (.tail _ (.head _))))))))))))).cell 1, (N25.1 _ (.tail _ (.tail _ (.tail _ (.tail _ (.tail _ (.tail _ (.tail _ (.tail _ (.tail _ (.tail _ (.tail _ (.head _))))))))))))).cell 2⟩ ?_
                  clear hK K
                  try simp only [Act.put, List.setIfInBounds_toArray, List.set_cons_zero, List.set_cons_succ]
                  refine wpAnyG_two (i := 4) (j := 9) rfl rfl (by kernel_rfl) (fun K hK => ?_) (fun K hK => ?_)
                  · go_simp
                    refine (HCt.out _).mono ?_
                    rintro e v26 ⟨t, rfl, ht, kv26⟩
                    have N26 := N25.below kv26
                    refine hK.out _ _ ⟨(N26.1 _ (.tail _ (.tail _ (.tail _ (.tail _ (.tail _ (.tail _ (.tail _ (.tail _ (.tail _ (.tail _ (.tail _ (.head _))))))))))))).cell 0, (N26.1 _ (.tail _ (.tail _ (.tail _ (.tail _ (.tail _ (.tail _ (.tail _ (.tail _ (.tail _ (.tail _ (.tail _ (.head _))))))))))))).cell 1, (N26.1 _ (.tail _ (.tail _ (.tail _ (.tail _ (.tail _ (.tail _ (.tail _ (.tail _ (.tail _ (.tail _ (.tail _ (.head _))))))))))))).cell 2⟩ ?_
                    clear hK K
                    try simp only [Act.put, List.setIfInBounds_toArray, List.set_cons_zero, List.set_cons_succ]
                    clear hHeld
                    have hHeld : S3q f w.heap.size v26 := ⟨(N26.1 _ (.tail _ (.tail _ (.tail _ (.tail _ (.tail _ (.tail _ (.tail _ (.tail _ (.tail _ (.tail _ (.tail _ (.head _))))))))))))).cell 0, (N26.1 _ (.tail _ (.tail _ (.tail _ (.tail _ (.tail _ (.tail _ (.tail _ (.tail _ (.tail _ (.tail _ (.tail _ (.head _))))))))))))).cell 1, (N26.1 _ (.tail _ (.tail _ (.tail _ (.tail _ (.tail _ (.tail _ (.tail _ (.tail _ (.tail _ (.tail _ (.tail _ (.head _))))))))))))).cell 2⟩
                    refine wpAnyG_take (i := 5) (v := ?v5x35) rfl (by kernel_rfl) (fun _ _ _ h => h) (Or.inl ⟨by rfl, ?y5x35⟩) hHeld ?r5x35
                    case y5x35 => (intro wS hSw; obtain ⟨s1, s2, s3⟩ := hSw; go_simp; try with_reducible rfl)
                    try simp only [Act.put, List.setIfInBounds_toArray, List.set_cons_zero, List.set_cons_succ]
                    refine wpAnyG_take (i := 6) (v := ?v6x36) rfl (by kernel_rfl) (fun _ _ _ h => h) (Or.inl ⟨by rfl, ?y6x36⟩) hHeld ?r6x36
                    case y6x36 => (intro wS hSw; obtain ⟨s1, s2, s3⟩ := hSw; go_simp; try with_reducible rfl)
                    try simp only [Act.put, List.setIfInBounds_toArray, List.set_cons_zero, List.set_cons_succ]
                    refine wpAnyG_take (i := 7) (v := ?v7x37) rfl (by kernel_rfl) (fun _ _ _ h => h) (Or.inl ⟨by rfl, ?y7x37⟩) hHeld ?r7x37
                    case y7x37 => (intro wS hSw; obtain ⟨s1, s2, s3⟩ := hSw; go_simp; try with_reducible rfl)
                    try simp only [Act.put, List.setIfInBounds_toArray, List.set_cons_zero, List.set_cons_succ]
                    refine wpAnyG_one (i := 9) rfl (by kernel_rfl) (fun K hK => ?_)
                    go_simp
                    obtain ⟨p27, hp27⟩ : ∃ p, p = v26.heap.size := ⟨_, rfl⟩
                    have L27 := N26.lt
                    have S27 := N26.2.size
                    have N27 := N26.new [.int .i64 0, .int .i64 0] 24
                    rw [← hp27] at L27 S27 N27
                    refine hK.out _ _ ⟨(N27.1 _ (.tail _ (.tail _ (.tail _ (.tail _ (.tail _ (.tail _ (.tail _ (.tail _ (.tail _ (.tail _ (.tail _ (.tail _ (.head _)))))))))))))).cell 0, (N27.1 _ (.tail _ (.tail _ (.tail _ (.tail _ (.tail _ (.tail _ (.tail _ (.tail _ (.tail _ (.tail _ (.tail _ (.tail _ (.head _)))))))))))))).cell 1, (N27.1 _ (.tail _ (.tail _ (.tail _ (.tail _ (.tail _ (.tail _ (.tail _ (.tail _ (.tail _ (.tail _ (.tail _ (.tail _ (.head _)))))))))))))).cell 2⟩ ?_
                    clear hK K
                    try simp only [Act.put, List.setIfInBounds_toArray, List.set_cons_zero, List.set_cons_succ]
                    generalize hv27 : World.alloc _ _ = v27
                    rw [← hp27]
                    rw [show v26.alloc (.cells #[.int .i64 0, .int .i64 0] 24) = v27 from hv27] at N27
                    clear hv27 hp27
                    have E28 : Cl p24 [.int .i64 0, .int .i64 0, .int .i64 0] 32 v27 := N27.1 _ (.tail _ (.head _))
                    have ne28 : ∀ x ∈ [(p27, [.int .i64 0, .int .i64 0], 24), (w9.heap.size, k.l, 32), (w9.heap.size + 1, [.int .i64 0, .int .i64 0], 24), (w8.heap.size, d.l, 32), (w8.heap.size + 1, [.int .i64 0, .int .i64 0], 24), (w7.heap.size, c.l, 32), (w7.heap.size + 1, [.int .i64 0, .int .i64 0], 24), (w6.heap.size, b.l, 32), (w6.heap.size + 1, [.int .i64 0, .int .i64 0], 24), (w2.heap.size, a.l, 32), (w2.heap.size + 1, [.int .i64 0, .int .i64 0], 24), (w.heap.size, f.l, 32), (w.heap.size + 1, g.l, 32), (w.heap.size + 1 + 1, h.l, 32)], x.1 ≠ p24 := by
                      intro x hx
                      simp only [List.mem_cons, List.not_mem_nil, or_false] at hx
                      rcases hx with rfl | hx
                      · have := L27 _ (.head _); omega
                      · have := L24 x (by simp only [List.mem_cons, List.not_mem_nil, or_false]; exact hx); omega
                    have T28 := (N27.mono (l' := [(p27, [.int .i64 0, .int .i64 0], 24), (w9.heap.size, k.l, 32), (w9.heap.size + 1, [.int .i64 0, .int .i64 0], 24), (w8.heap.size, d.l, 32), (w8.heap.size + 1, [.int .i64 0, .int .i64 0], 24), (w7.heap.size, c.l, 32), (w7.heap.size + 1, [.int .i64 0, .int .i64 0], 24), (w6.heap.size, b.l, 32), (w6.heap.size + 1, [.int .i64 0, .int .i64 0], 24), (w2.heap.size, a.l, 32), (w2.heap.size + 1, [.int .i64 0, .int .i64 0], 24), (w.heap.size, f.l, 32), (w.heap.size + 1, g.l, 32), (w.heap.size + 1 + 1, h.l, 32)]) (fun x hx => by simp only [List.mem_cons, List.not_mem_nil, or_false] at hx ⊢; rcases hx with hx | hx; exact .inl hx; exact .inr (.inr hx))).set3 E28 ne28 S24 (.int .i64 t.a) (.int .i64 t.b) (.int .i64 t.c)
                    have c280 := E28.cell 0
                    have f280 := E28.frozen 0
                    have c281 := E28.cell 1
                    have f281 := E28.frozen 1
                    have c282 := E28.cell 2
                    have f282 := E28.frozen 2
                    have l28 := E28.lt
                    simp at c280 c281 c282
                    refine wpAnyG_one (i := 10) rfl (by kernel_rfl) (fun K hK => ?_)
                    go_simp
                    refine hK.out _ _ ⟨(T28.1 _ (.tail _ (.tail _ (.tail _ (.tail _ (.tail _ (.tail _ (.tail _ (.tail _ (.tail _ (.tail _ (.tail _ (.tail _ (.head _)))))))))))))).cell 0, (T28.1 _ (.tail _ (.tail _ (.tail _ (.tail _ (.tail _ (.tail _ (.tail _ (.tail _ (.tail _ (.tail _ (.tail _ (.tail _ (.head _)))))))))))))).cell 1, (T28.1 _ (.tail _ (.tail _ (.tail _ (.tail _ (.tail _ (.tail _ (.tail _ (.tail _ (.tail _ (.tail _ (.tail _ (.tail _ (.head _)))))))))))))).cell 2⟩ ?_
                    clear hK K
                    try simp only [Act.put, List.setIfInBounds_toArray, List.set_cons_zero, List.set_cons_succ]
                    generalize hx28 : World.setCell _ _ _ = x28
                    rw [hx28] at T28
                    clear hx28 c280 f280 c281 f281 c282 f282 l28
                    have U28 : Cl p27 [.int .i64 0, .int .i64 0] 24 x28 := T28.1 _ (.tail _ (.head _))
                    have c280 := U28.cell 0
                    have f280 := U28.frozen 0
                    have c281 := U28.cell 1
                    have f281 := U28.frozen 1
                    have l28 := U28.lt
                    simp at c280 c281
                    have me28 : ∀ x ∈ [(p24, t.l, 32), (w9.heap.size, k.l, 32), (w9.heap.size + 1, [.int .i64 0, .int .i64 0], 24), (w8.heap.size, d.l, 32), (w8.heap.size + 1, [.int .i64 0, .int .i64 0], 24), (w7.heap.size, c.l, 32), (w7.heap.size + 1, [.int .i64 0, .int .i64 0], 24), (w6.heap.size, b.l, 32), (w6.heap.size + 1, [.int .i64 0, .int .i64 0], 24), (w2.heap.size, a.l, 32), (w2.heap.size + 1, [.int .i64 0, .int .i64 0], 24), (w.heap.size, f.l, 32), (w.heap.size + 1, g.l, 32), (w.heap.size + 1 + 1, h.l, 32)], x.1 ≠ p27 := by
                      intro x hx
                      simp only [List.mem_cons, List.not_mem_nil, or_false] at hx
                      rcases hx with rfl | hx
                      · have := L27 _ (.head _); omega
                      · have := L27 x (by simp only [List.mem_cons, List.not_mem_nil, or_false]; exact .inr hx); omega
                    have V28 := (T28.mono (l' := [(p24, t.l, 32), (w9.heap.size, k.l, 32), (w9.heap.size + 1, [.int .i64 0, .int .i64 0], 24), (w8.heap.size, d.l, 32), (w8.heap.size + 1, [.int .i64 0, .int .i64 0], 24), (w7.heap.size, c.l, 32), (w7.heap.size + 1, [.int .i64 0, .int .i64 0], 24), (w6.heap.size, b.l, 32), (w6.heap.size + 1, [.int .i64 0, .int .i64 0], 24), (w2.heap.size, a.l, 32), (w2.heap.size + 1, [.int .i64 0, .int .i64 0], 24), (w.heap.size, f.l, 32), (w.heap.size + 1, g.l, 32), (w.heap.size + 1 + 1, h.l, 32)]) (fun x hx => by simp only [List.mem_cons, List.not_mem_nil, or_false] at hx ⊢; rcases hx with hx | hx; exact .inl hx; exact .inr (.inr hx))).set2 U28 me28 S27 (.int .i64 0) (.int .i64 0)
                    refine wpAnyG_last (i := 11) rfl (by kernel_rfl) (by kernel_rfl) (fun K hK => ?_)
                    go_simp
                    refine hK.out _ _ ?_
                    clear hK K
                    try simp only [Act.put, List.setIfInBounds_toArray, List.set_cons_zero, List.set_cons_succ]
                    refine wpAnyG_done (by kernel_rfl) ?_ _
                    generalize hx28 : World.setCell _ _ _ = y28
                    rw [hx28] at V28
                    clear hx28
                    go_wp2
                    go_meet
                    exact ⟨_, _, rfl, rfl, t, ht.1, V28.mono (fun x hx => by simp only [List.mem_cons, List.not_mem_nil, or_false] at hx ⊢; rcases hx with hx | hx | hx; exact .inr (.inl hx); exact .inl hx; exact .inr (.inr hx))⟩
                  · go_simp
                    obtain ⟨p29, hp29⟩ : ∃ p, p = v25.heap.size := ⟨_, rfl⟩
                    have L29 := N25.lt
                    have S29 := N25.2.size
                    have N29 := N25.new [.int .i64 0, .int .i64 0] 24
                    rw [← hp29] at L29 S29 N29
                    refine hK.out _ _ ⟨(N29.1 _ (.tail _ (.tail _ (.tail _ (.tail _ (.tail _ (.tail _ (.tail _ (.tail _ (.tail _ (.tail _ (.tail _ (.tail _ (.head _)))))))))))))).cell 0, (N29.1 _ (.tail _ (.tail _ (.tail _ (.tail _ (.tail _ (.tail _ (.tail _ (.tail _ (.tail _ (.tail _ (.tail _ (.tail _ (.head _)))))))))))))).cell 1, (N29.1 _ (.tail _ (.tail _ (.tail _ (.tail _ (.tail _ (.tail _ (.tail _ (.tail _ (.tail _ (.tail _ (.tail _ (.tail _ (.head _)))))))))))))).cell 2⟩ ?_
                    clear hK K
                    try simp only [Act.put, List.setIfInBounds_toArray, List.set_cons_zero, List.set_cons_succ]
                    generalize hv29 : World.alloc _ _ = v29
                    rw [← hp29]
                    rw [show v25.alloc (.cells #[.int .i64 0, .int .i64 0] 24) = v29 from hv29] at N29
                    clear hv29 hp29
                    refine wpAnyG_one (i := 4) rfl (by kernel_rfl) (fun K hK => ?_)
                    go_simp
                    refine (HCt.out _).mono ?_
                    rintro e v30 ⟨t, rfl, ht, kv30⟩
                    have N30 := N29.below kv30
                    refine hK.out _ _ ⟨(N30.1 _ (.tail _ (.tail _ (.tail _ (.tail _ (.tail _ (.tail _ (.tail _ (.tail _ (.tail _ (.tail _ (.tail _ (.tail _ (.head _)))))))))))))).cell 0, (N30.1 _ (.tail _ (.tail _ (.tail _ (.tail _ (.tail _ (.tail _ (.tail _ (.tail _ (.tail _ (.tail _ (.tail _ (.tail _ (.head _)))))))))))))).cell 1, (N30.1 _ (.tail _ (.tail _ (.tail _ (.tail _ (.tail _ (.tail _ (.tail _ (.tail _ (.tail _ (.tail _ (.tail _ (.tail _ (.head _)))))))))))))).cell 2⟩ ?_
                    clear hK K
                    try simp only [Act.put, List.setIfInBounds_toArray, List.set_cons_zero, List.set_cons_succ]
                    clear hHeld
                    have hHeld : S3q f w.heap.size v30 := ⟨(N30.1 _ (.tail _ (.tail _ (.tail _ (.tail _ (.tail _ (.tail _ (.tail _ (.tail _ (.tail _ (.tail _ (.tail _ (.tail _ (.head _)))))))))))))).cell 0, (N30.1 _ (.tail _ (.tail _ (.tail _ (.tail _ (.tail _ (.tail _ (.tail _ (.tail _ (.tail _ (.tail _ (.tail _ (.tail _ (.head _)))))))))))))).cell 1, (N30.1 _ (.tail _ (.tail _ (.tail _ (.tail _ (.tail _ (.tail _ (.tail _ (.tail _ (.tail _ (.tail _ (.tail _ (.tail _ (.head _)))))))))))))).cell 2⟩
                    refine wpAnyG_take (i := 5) (v := ?v5x38) rfl (by kernel_rfl) (fun _ _ _ h => h) (Or.inl ⟨by rfl, ?y5x38⟩) hHeld ?r5x38
                    case y5x38 => (intro wS hSw; obtain ⟨s1, s2, s3⟩ := hSw; go_simp; try with_reducible rfl)
                    try simp only [Act.put, List.setIfInBounds_toArray, List.set_cons_zero, List.set_cons_succ]
                    refine wpAnyG_take (i := 6) (v := ?v6x39) rfl (by kernel_rfl) (fun _ _ _ h => h) (Or.inl ⟨by rfl, ?y6x39⟩) hHeld ?r6x39
                    case y6x39 => (intro wS hSw; obtain ⟨s1, s2, s3⟩ := hSw; go_simp; try with_reducible rfl)
                    try simp only [Act.put, List.setIfInBounds_toArray, List.set_cons_zero, List.set_cons_succ]
                    refine wpAnyG_take (i := 7) (v := ?v7x40) rfl (by kernel_rfl) (fun _ _ _ h => h) (Or.inl ⟨by rfl, ?y7x40⟩) hHeld ?r7x40
                    case y7x40 => (intro wS hSw; obtain ⟨s1, s2, s3⟩ := hSw; go_simp; try with_reducible rfl)
                    try simp only [Act.put, List.setIfInBounds_toArray, List.set_cons_zero, List.set_cons_succ]
                    have E31 : Cl p24 [.int .i64 0, .int .i64 0, .int .i64 0] 32 v30 := N30.1 _ (.tail _ (.head _))
                    have ne31 : ∀ x ∈ [(p29, [.int .i64 0, .int .i64 0], 24), (w9.heap.size, k.l, 32), (w9.heap.size + 1, [.int .i64 0, .int .i64 0], 24), (w8.heap.size, d.l, 32), (w8.heap.size + 1, [.int .i64 0, .int .i64 0], 24), (w7.heap.size, c.l, 32), (w7.heap.size + 1, [.int .i64 0, .int .i64 0], 24), (w6.heap.size, b.l, 32), (w6.heap.size + 1, [.int .i64 0, .int .i64 0], 24), (w2.heap.size, a.l, 32), (w2.heap.size + 1, [.int .i64 0, .int .i64 0], 24), (w.heap.size, f.l, 32), (w.heap.size + 1, g.l, 32), (w.heap.size + 1 + 1, h.l, 32)], x.1 ≠ p24 := by
                      intro x hx
                      simp only [List.mem_cons, List.not_mem_nil, or_false] at hx
                      rcases hx with rfl | hx
                      · have := L29 _ (.head _); omega
                      · have := L24 x (by simp only [List.mem_cons, List.not_mem_nil, or_false]; exact hx); omega
                    have T31 := (N30.mono (l' := [(p29, [.int .i64 0, .int .i64 0], 24), (w9.heap.size, k.l, 32), (w9.heap.size + 1, [.int .i64 0, .int .i64 0], 24), (w8.heap.size, d.l, 32), (w8.heap.size + 1, [.int .i64 0, .int .i64 0], 24), (w7.heap.size, c.l, 32), (w7.heap.size + 1, [.int .i64 0, .int .i64 0], 24), (w6.heap.size, b.l, 32), (w6.heap.size + 1, [.int .i64 0, .int .i64 0], 24), (w2.heap.size, a.l, 32), (w2.heap.size + 1, [.int .i64 0, .int .i64 0], 24), (w.heap.size, f.l, 32), (w.heap.size + 1, g.l, 32), (w.heap.size + 1 + 1, h.l, 32)]) (fun x hx => by simp only [List.mem_cons, List.not_mem_nil, or_false] at hx ⊢; rcases hx with hx | hx; exact .inl hx; exact .inr (.inr hx))).set3 E31 ne31 S24 (.int .i64 t.a) (.int .i64 t.b) (.int .i64 t.c)
                    have c310 := E31.cell 0
                    have f310 := E31.frozen 0
                    have c311 := E31.cell 1
                    have f311 := E31.frozen 1
                    have c312 := E31.cell 2
                    have f312 := E31.frozen 2
                    have l31 := E31.lt
                    simp at c310 c311 c312
                    refine wpAnyG_one (i := 10) rfl (by kernel_rfl) (fun K hK => ?_)
                    go_simp
                    refine hK.out _ _ ⟨(T31.1 _ (.tail _ (.tail _ (.tail _ (.tail _ (.tail _ (.tail _ (.tail _ (.tail _ (.tail _ (.tail _ (.tail _ (.tail _ (.head _)))))))))))))).cell 0, (T31.1 _ (.tail _ (.tail _ (.tail _ (.tail _ (.tail _ (.tail _ (.tail _ (.tail _ (.tail _ (.tail _ (.tail _ (.tail _ (.head _)))))))))))))).cell 1, (T31.1 _ (.tail _ (.tail _ (.tail _ (.tail _ (.tail _ (.tail _ (.tail _ (.tail _ (.tail _ (.tail _ (.tail _ (.tail _ (.head _)))))))))))))).cell 2⟩ ?_
                    clear hK K
                    try simp only [Act.put, List.setIfInBounds_toArray, List.set_cons_zero, List.set_cons_succ]
                    generalize hx31 : World.setCell _ _ _ = x31
                    rw [hx31] at T31
                    clear hx31 c310 f310 c311 f311 c312 f312 l31
                    have U31 : Cl p29 [.int .i64 0, .int .i64 0] 24 x31 := T31.1 _ (.tail _ (.head _))
                    have c310 := U31.cell 0
                    have f310 := U31.frozen 0
                    have c311 := U31.cell 1
                    have f311 := U31.frozen 1
                    have l31 := U31.lt
                    simp at c310 c311
                    have me31 : ∀ x ∈ [(p24, t.l, 32), (w9.heap.size, k.l, 32), (w9.heap.size + 1, [.int .i64 0, .int .i64 0], 24), (w8.heap.size, d.l, 32), (w8.heap.size + 1, [.int .i64 0, .int .i64 0], 24), (w7.heap.size, c.l, 32), (w7.heap.size + 1, [.int .i64 0, .int .i64 0], 24), (w6.heap.size, b.l, 32), (w6.heap.size + 1, [.int .i64 0, .int .i64 0], 24), (w2.heap.size, a.l, 32), (w2.heap.size + 1, [.int .i64 0, .int .i64 0], 24), (w.heap.size, f.l, 32), (w.heap.size + 1, g.l, 32), (w.heap.size + 1 + 1, h.l, 32)], x.1 ≠ p29 := by
                      intro x hx
                      simp only [List.mem_cons, List.not_mem_nil, or_false] at hx
                      rcases hx with rfl | hx
                      · have := L29 _ (.head _); omega
                      · have := L29 x (by simp only [List.mem_cons, List.not_mem_nil, or_false]; exact .inr hx); omega
                    have V31 := (T31.mono (l' := [(p24, t.l, 32), (w9.heap.size, k.l, 32), (w9.heap.size + 1, [.int .i64 0, .int .i64 0], 24), (w8.heap.size, d.l, 32), (w8.heap.size + 1, [.int .i64 0, .int .i64 0], 24), (w7.heap.size, c.l, 32), (w7.heap.size + 1, [.int .i64 0, .int .i64 0], 24), (w6.heap.size, b.l, 32), (w6.heap.size + 1, [.int .i64 0, .int .i64 0], 24), (w2.heap.size, a.l, 32), (w2.heap.size + 1, [.int .i64 0, .int .i64 0], 24), (w.heap.size, f.l, 32), (w.heap.size + 1, g.l, 32), (w.heap.size + 1 + 1, h.l, 32)]) (fun x hx => by simp only [List.mem_cons, List.not_mem_nil, or_false] at hx ⊢; rcases hx with hx | hx; exact .inl hx; exact .inr (.inr hx))).set2 U31 me31 S29 (.int .i64 0) (.int .i64 0)
                    refine wpAnyG_last (i := 11) rfl (by kernel_rfl) (by kernel_rfl) (fun K hK => ?_)
                    go_simp
                    refine hK.out _ _ ?_
                    clear hK K
                    try simp only [Act.put, List.setIfInBounds_toArray, List.set_cons_zero, List.set_cons_succ]
                    refine wpAnyG_done (by kernel_rfl) ?_ _
                    generalize hx31 : World.setCell _ _ _ = y31
                    rw [hx31] at V31
                    clear hx31
                    go_wp2
                    go_meet
                    exact ⟨_, _, rfl, rfl, t, ht.1, V31.mono (fun x hx => by simp only [List.mem_cons, List.not_mem_nil, or_false] at hx ⊢; rcases hx with hx | hx | hx; exact .inr (.inl hx); exact .inl hx; exact .inr (.inr hx))⟩
                · go_simp
                  obtain ⟨p32, hp32⟩ : ∃ p, p = v24.heap.size := ⟨_, rfl⟩
                  have L32 := N24.lt
                  have S32 := N24.2.size
                  have N32 := N24.new [.int .i64 0, .int .i64 0] 24
                  rw [← hp32] at L32 S32 N32
                  refine hK.out _ _ ⟨(N32.1 _ (.tail _ (.tail _ (.tail _ (.tail _ (.tail _ (.tail _ (.tail _ (.tail _ (.tail _ (.tail _ (.tail _ (.tail _ (.head _)))))))))))))).cell 0, (N32.1 _ (.tail _ (.tail _ (.tail _ (.tail _ (.tail _ (.tail _ (.tail _ (.tail _ (.tail _ (.tail _ (.tail _ (.tail _ (.head _)))))))))))))).cell 1, (N32.1 _ (.tail _ (.tail _ (.tail _ (.tail _ (.tail _ (.tail _ (.tail _ (.tail _ (.tail _ (.tail _ (.tail _ (.tail _ (.head _)))))))))))))).cell 2⟩ ?_
                  clear hK K
                  try simp only [Act.put, List.setIfInBounds_toArray, List.set_cons_zero, List.set_cons_succ]
                  generalize hv32 : World.alloc _ _ = v32
                  rw [← hp32]
                  rw [show v24.alloc (.cells #[.int .i64 0, .int .i64 0] 24) = v32 from hv32] at N32
                  clear hv32 hp32
                  refine wpAnyG_one (i := 3) rfl (by kernel_rfl) (fun K hK => ?_)
                  go_simp
                  refine (HFi.out _).mono ?_
                  rintro e v33 ⟨rfl, kv33⟩
                  have N33 := N32.below kv33
                  refine hK.out _ _ ⟨(N33.1 _ (.tail _ (.tail _ (.tail _ (.tail _ (.tail _ (.tail _ (.tail _ (.tail _ (.tail _ (.tail _ (.tail _ (.tail _ (.head _)))))))))))))).cell 0, (N33.1 _ (.tail _ (.tail _ (.tail _ (.tail _ (.tail _ (.tail _ (.tail _ (.tail _ (.tail _ (.tail _ (.tail _ (.tail _ (.head _)))))))))))))).cell 1, (N33.1 _ (.tail _ (.tail _ (.tail _ (.tail _ (.tail _ (.tail _ (.tail _ (.tail _ (.tail _ (.tail _ (.tail _ (.tail _ (.head _)))))))))))))).cell 2⟩ ?_
                  clear hK K
                  try simp only [Act.put, List.setIfInBounds_toArray, List.set_cons_zero, List.set_cons_succ]
                  refine wpAnyG_one (i := 4) rfl (by kernel_rfl) (fun K hK => ?_)
                  go_simp
                  refine (HCt.out _).mono ?_
                  rintro e v34 ⟨t, rfl, ht, kv34⟩
                  have N34 := N33.below kv34
                  refine hK.out _ _ ⟨(N34.1 _ (.tail _ (.tail _ (.tail _ (.tail _ (.tail _ (.tail _ (.tail _ (.tail _ (.tail _ (.tail _ (.tail _ (.tail _ (.head _)))))))))))))).cell 0, (N34.1 _ (.tail _ (.tail _ (.tail _ (.tail _ (.tail _ (.tail _ (.tail _ (.tail _ (.tail _ (.tail _ (.tail _ (.tail _ (.head _)))))))))))))).cell 1, (N34.1 _ (.tail _ (.tail _ (.tail _ (.tail _ (.tail _ (.tail _ (.tail _ (.tail _ (.tail _ (.tail _ (.tail _ (.tail _ (.head _)))))))))))))).cell 2⟩ ?_
                  clear hK K
                  try simp only [Act.put, List.setIfInBounds_toArray, List.set_cons_zero, List.set_cons_succ]
                  clear hHeld
                  have hHeld : S3q f w.heap.size v34 := ⟨(N34.1 _ (.tail _ (.tail _ (.tail _ (.tail _ (.tail _ (.tail _ (.tail _ (.tail _ (.tail _ (.tail _ (.tail _ (.tail _ (.head _)))))))))))))).cell 0, (N34.1 _ (.tail _ (.tail _ (.tail _ (.tail _ (.tail _ (.tail _ (.tail _ (.tail _ (.tail _ (.tail _ (.tail _ (.tail _ (.head _)))))))))))))).cell 1, (N34.1 _ (.tail _ (.tail _ (.tail _ (.tail _ (.tail _ (.tail _ (.tail _ (.tail _ (.tail _ (.tail _ (.tail _ (.tail _ (.head _)))))))))))))).cell 2⟩
                  refine wpAnyG_take (i := 5) (v := ?v5x41) rfl (by kernel_rfl) (fun _ _ _ h => h) (Or.inl ⟨by rfl, ?y5x41⟩) hHeld ?r5x41
                  case y5x41 => (intro wS hSw; obtain ⟨s1, s2, s3⟩ := hSw; go_simp; try with_reducible rfl)
                  try simp only [Act.put, List.setIfInBounds_toArray, List.set_cons_zero, List.set_cons_succ]
                  refine wpAnyG_take (i := 6) (v := ?v6x42) rfl (by kernel_rfl) (fun _ _ _ h => h) (Or.inl ⟨by rfl, ?y6x42⟩) hHeld ?r6x42
                  case y6x42 => (intro wS hSw; obtain ⟨s1, s2, s3⟩ := hSw; go_simp; try with_reducible rfl)
                  try simp only [Act.put, List.setIfInBounds_toArray, List.set_cons_zero, List.set_cons_succ]
                  refine wpAnyG_take (i := 7) (v := ?v7x43) rfl (by kernel_rfl) (fun _ _ _ h => h) (Or.inl ⟨by rfl, ?y7x43⟩) hHeld ?r7x43
                  case y7x43 => (intro wS hSw; obtain ⟨s1, s2, s3⟩ := hSw; go_simp; try with_reducible rfl)
                  try simp only [Act.put, List.setIfInBounds_toArray, List.set_cons_zero, List.set_cons_succ]
                  have E35 : Cl p24 [.int .i64 0, .int .i64 0, .int .i64 0] 32 v34 := N34.1 _ (.tail _ (.head _))
                  have ne35 : ∀ x ∈ [(p32, [.int .i64 0, .int .i64 0], 24), (w9.heap.size, k.l, 32), (w9.heap.size + 1, [.int .i64 0, .int .i64 0], 24), (w8.heap.size, d.l, 32), (w8.heap.size + 1, [.int .i64 0, .int .i64 0], 24), (w7.heap.size, c.l, 32), (w7.heap.size + 1, [.int .i64 0, .int .i64 0], 24), (w6.heap.size, b.l, 32), (w6.heap.size + 1, [.int .i64 0, .int .i64 0], 24), (w2.heap.size, a.l, 32), (w2.heap.size + 1, [.int .i64 0, .int .i64 0], 24), (w.heap.size, f.l, 32), (w.heap.size + 1, g.l, 32), (w.heap.size + 1 + 1, h.l, 32)], x.1 ≠ p24 := by
                    intro x hx
                    simp only [List.mem_cons, List.not_mem_nil, or_false] at hx
                    rcases hx with rfl | hx
                    · have := L32 _ (.head _); omega
                    · have := L24 x (by simp only [List.mem_cons, List.not_mem_nil, or_false]; exact hx); omega
                  have T35 := (N34.mono (l' := [(p32, [.int .i64 0, .int .i64 0], 24), (w9.heap.size, k.l, 32), (w9.heap.size + 1, [.int .i64 0, .int .i64 0], 24), (w8.heap.size, d.l, 32), (w8.heap.size + 1, [.int .i64 0, .int .i64 0], 24), (w7.heap.size, c.l, 32), (w7.heap.size + 1, [.int .i64 0, .int .i64 0], 24), (w6.heap.size, b.l, 32), (w6.heap.size + 1, [.int .i64 0, .int .i64 0], 24), (w2.heap.size, a.l, 32), (w2.heap.size + 1, [.int .i64 0, .int .i64 0], 24), (w.heap.size, f.l, 32), (w.heap.size + 1, g.l, 32), (w.heap.size + 1 + 1, h.l, 32)]) (fun x hx => by simp only [List.mem_cons, List.not_mem_nil, or_false] at hx ⊢; rcases hx with hx | hx; exact .inl hx; exact .inr (.inr hx))).set3 E35 ne35 S24 (.int .i64 t.a) (.int .i64 t.b) (.int .i64 t.c)
                  have c350 := E35.cell 0
                  have f350 := E35.frozen 0
                  have c351 := E35.cell 1
                  have f351 := E35.frozen 1
                  have c352 := E35.cell 2
                  have f352 := E35.frozen 2
                  have l35 := E35.lt
                  simp at c350 c351 c352
                  refine wpAnyG_one (i := 10) rfl (by kernel_rfl) (fun K hK => ?_)
                  go_simp
                  refine hK.out _ _ ⟨(T35.1 _ (.tail _ (.tail _ (.tail _ (.tail _ (.tail _ (.tail _ (.tail _ (.tail _ (.tail _ (.tail _ (.tail _ (.tail _ (.head _)))))))))))))).cell 0, (T35.1 _ (.tail _ (.tail _ (.tail _ (.tail _ (.tail _ (.tail _ (.tail _ (.tail _ (.tail _ (.tail _ (.tail _ (.tail _ (.head _)))))))))))))).cell 1, (T35.1 _ (.tail _ (.tail _ (.tail _ (.tail _ (.tail _ (.tail _ (.tail _ (.tail _ (.tail _ (.tail _ (.tail _ (.tail _ (.head _)))))))))))))).cell 2⟩ ?_
                  clear hK K
                  try simp only [Act.put, List.setIfInBounds_toArray, List.set_cons_zero, List.set_cons_succ]
                  generalize hx35 : World.setCell _ _ _ = x35
                  rw [hx35] at T35
                  clear hx35 c350 f350 c351 f351 c352 f352 l35
                  have U35 : Cl p32 [.int .i64 0, .int .i64 0] 24 x35 := T35.1 _ (.tail _ (.head _))
                  have c350 := U35.cell 0
                  have f350 := U35.frozen 0
                  have c351 := U35.cell 1
                  have f351 := U35.frozen 1
                  have l35 := U35.lt
                  simp at c350 c351
                  have me35 : ∀ x ∈ [(p24, t.l, 32), (w9.heap.size, k.l, 32), (w9.heap.size + 1, [.int .i64 0, .int .i64 0], 24), (w8.heap.size, d.l, 32), (w8.heap.size + 1, [.int .i64 0, .int .i64 0], 24), (w7.heap.size, c.l, 32), (w7.heap.size + 1, [.int .i64 0, .int .i64 0], 24), (w6.heap.size, b.l, 32), (w6.heap.size + 1, [.int .i64 0, .int .i64 0], 24), (w2.heap.size, a.l, 32), (w2.heap.size + 1, [.int .i64 0, .int .i64 0], 24), (w.heap.size, f.l, 32), (w.heap.size + 1, g.l, 32), (w.heap.size + 1 + 1, h.l, 32)], x.1 ≠ p32 := by
                    intro x hx
                    simp only [List.mem_cons, List.not_mem_nil, or_false] at hx
                    rcases hx with rfl | hx
                    · have := L32 _ (.head _); omega
                    · have := L32 x (by simp only [List.mem_cons, List.not_mem_nil, or_false]; exact .inr hx); omega
                  have V35 := (T35.mono (l' := [(p24, t.l, 32), (w9.heap.size, k.l, 32), (w9.heap.size + 1, [.int .i64 0, .int .i64 0], 24), (w8.heap.size, d.l, 32), (w8.heap.size + 1, [.int .i64 0, .int .i64 0], 24), (w7.heap.size, c.l, 32), (w7.heap.size + 1, [.int .i64 0, .int .i64 0], 24), (w6.heap.size, b.l, 32), (w6.heap.size + 1, [.int .i64 0, .int .i64 0], 24), (w2.heap.size, a.l, 32), (w2.heap.size + 1, [.int .i64 0, .int .i64 0], 24), (w.heap.size, f.l, 32), (w.heap.size + 1, g.l, 32), (w.heap.size + 1 + 1, h.l, 32)]) (fun x hx => by simp only [List.mem_cons, List.not_mem_nil, or_false] at hx ⊢; rcases hx with hx | hx; exact .inl hx; exact .inr (.inr hx))).set2 U35 me35 S32 (.int .i64 0) (.int .i64 0)
                  refine wpAnyG_last (i := 11) rfl (by kernel_rfl) (by kernel_rfl) (fun K hK => ?_)
                  go_simp
                  refine hK.out _ _ ?_
                  clear hK K
                  try simp only [Act.put, List.setIfInBounds_toArray, List.set_cons_zero, List.set_cons_succ]
                  refine wpAnyG_done (by kernel_rfl) ?_ _
                  generalize hx35 : World.setCell _ _ _ = y35
                  rw [hx35] at V35
                  clear hx35
                  go_wp2
                  go_meet
                  exact ⟨_, _, rfl, rfl, t, ht.1, V35.mono (fun x hx => by simp only [List.mem_cons, List.not_mem_nil, or_false] at hx ⊢; rcases hx with hx | hx | hx; exact .inr (.inl hx); exact .inl hx; exact .inr (.inr hx))⟩
              · go_simp
                obtain ⟨p36, hp36⟩ : ∃ p, p = v1.heap.size := ⟨_, rfl⟩
                have L36 := N1.lt
                have S36 := N1.2.size
                have N36 := N1.new [.int .i64 0, .int .i64 0] 24
                rw [← hp36] at L36 S36 N36
                refine hK.out _ _ ⟨(N36.1 _ (.tail _ (.tail _ (.tail _ (.tail _ (.tail _ (.tail _ (.tail _ (.tail _ (.tail _ (.tail _ (.tail _ (.head _))))))))))))).cell 0, (N36.1 _ (.tail _ (.tail _ (.tail _ (.tail _ (.tail _ (.tail _ (.tail _ (.tail _ (.tail _ (.tail _ (.tail _ (.head _))))))))))))).cell 1, (N36.1 _ (.tail _ (.tail _ (.tail _ (.tail _ (.tail _ (.tail _ (.tail _ (.tail _ (.tail _ (.tail _ (.tail _ (.head _))))))))))))).cell 2⟩ ?_
                clear hK K
                try simp only [Act.put, List.setIfInBounds_toArray, List.set_cons_zero, List.set_cons_succ]
                generalize hv36 : World.alloc _ _ = v36
                rw [← hp36]
                rw [show v1.alloc (.cells #[.int .i64 0, .int .i64 0] 24) = v36 from hv36] at N36
                clear hv36 hp36
                refine wpAnyG_two (i := 3) (j := 8) rfl rfl (by kernel_rfl) (fun K hK => ?_) (fun K hK => ?_)
                · go_simp
                  refine (HFi.out _).mono ?_
                  rintro e v37 ⟨rfl, kv37⟩
                  have N37 := N36.below kv37
                  refine hK.out _ _ ⟨(N37.1 _ (.tail _ (.tail _ (.tail _ (.tail _ (.tail _ (.tail _ (.tail _ (.tail _ (.tail _ (.tail _ (.tail _ (.head _))))))))))))).cell 0, (N37.1 _ (.tail _ (.tail _ (.tail _ (.tail _ (.tail _ (.tail _ (.tail _ (.tail _ (.tail _ (.tail _ (.tail _ (.head _))))))))))))).cell 1, (N37.1 _ (.tail _ (.tail _ (.tail _ (.tail _ (.tail _ (.tail _ (.tail _ (.tail _ (.tail _ (.tail _ (.tail _ (.head _))))))))))))).cell 2⟩ ?_
                  clear hK K
                  try simp only [Act.put, List.setIfInBounds_toArray, List.set_cons_zero, List.set_cons_succ]
                  refine wpAnyG_two (i := 4) (j := 8) rfl rfl (by kernel_rfl) (fun K hK => ?_) (fun K hK => ?_)
                  · go_simp
                    refine (HCt.out _).mono ?_
                    rintro e v38 ⟨t, rfl, ht, kv38⟩
                    have N38 := N37.below kv38
                    refine hK.out _ _ ⟨(N38.1 _ (.tail _ (.tail _ (.tail _ (.tail _ (.tail _ (.tail _ (.tail _ (.tail _ (.tail _ (.tail _ (.tail _ (.head _))))))))))))).cell 0, (N38.1 _ (.tail _ (.tail _ (.tail _ (.tail _ (.tail _ (.tail _ (.tail _ (.tail _ (.tail _ (.tail _ (.tail _ (.head _))))))))))))).cell 1, (N38.1 _ (.tail _ (.tail _ (.tail _ (.tail _ (.tail _ (.tail _ (.tail _ (.tail _ (.tail _ (.tail _ (.tail _ (.head _))))))))))))).cell 2⟩ ?_
                    clear hK K
                    try simp only [Act.put, List.setIfInBounds_toArray, List.set_cons_zero, List.set_cons_succ]
                    clear hHeld
                    have hHeld : S3q f w.heap.size v38 := ⟨(N38.1 _ (.tail _ (.tail _ (.tail _ (.tail _ (.tail _ (.tail _ (.tail _ (.tail _ (.tail _ (.tail _ (.tail _ (.head _))))))))))))).cell 0, (N38.1 _ (.tail _ (.tail _ (.tail _ (.tail _ (.tail _ (.tail _ (.tail _ (.tail _ (.tail _ (.tail _ (.tail _ (.head _))))))))))))).cell 1, (N38.1 _ (.tail _ (.tail _ (.tail _ (.tail _ (.tail _ (.tail _ (.tail _ (.tail _ (.tail _ (.tail _ (.tail _ (.head _))))))))))))).cell 2⟩
                    refine wpAnyG_take (i := 5) (v := ?v5x44) rfl (by kernel_rfl) (fun _ _ _ h => h) (Or.inl ⟨by rfl, ?y5x44⟩) hHeld ?r5x44
                    case y5x44 => (intro wS hSw; obtain ⟨s1, s2, s3⟩ := hSw; go_simp; try with_reducible rfl)
                    try simp only [Act.put, List.setIfInBounds_toArray, List.set_cons_zero, List.set_cons_succ]
                    refine wpAnyG_take (i := 6) (v := ?v6x45) rfl (by kernel_rfl) (fun _ _ _ h => h) (Or.inl ⟨by rfl, ?y6x45⟩) hHeld ?r6x45
                    case y6x45 => (intro wS hSw; obtain ⟨s1, s2, s3⟩ := hSw; go_simp; try with_reducible rfl)
                    try simp only [Act.put, List.setIfInBounds_toArray, List.set_cons_zero, List.set_cons_succ]
                    refine wpAnyG_take (i := 7) (v := ?v7x46) rfl (by kernel_rfl) (fun _ _ _ h => h) (Or.inl ⟨by rfl, ?y7x46⟩) hHeld ?r7x46
                    case y7x46 => (intro wS hSw; obtain ⟨s1, s2, s3⟩ := hSw; go_simp; try with_reducible rfl)
                    try simp only [Act.put, List.setIfInBounds_toArray, List.set_cons_zero, List.set_cons_succ]
                    refine wpAnyG_one (i := 8) rfl (by kernel_rfl) (fun K hK => ?_)
                    go_simp
                    obtain ⟨p39, hp39⟩ : ∃ p, p = v38.heap.size := ⟨_, rfl⟩
                    have L39 := N38.lt
                    have S39 := N38.2.size
                    have N39 := N38.new [.int .i64 0, .int .i64 0, .int .i64 0] 32
                    rw [← hp39] at L39 S39 N39
                    refine hK.out _ _ ⟨(N39.1 _ (.tail _ (.tail _ (.tail _ (.tail _ (.tail _ (.tail _ (.tail _ (.tail _ (.tail _ (.tail _ (.tail _ (.tail _ (.head _)))))))))))))).cell 0, (N39.1 _ (.tail _ (.tail _ (.tail _ (.tail _ (.tail _ (.tail _ (.tail _ (.tail _ (.tail _ (.tail _ (.tail _ (.tail _ (.head _)))))))))))))).cell 1, (N39.1 _ (.tail _ (.tail _ (.tail _ (.tail _ (.tail _ (.tail _ (.tail _ (.tail _ (.tail _ (.tail _ (.tail _ (.tail _ (.head _)))))))))))))).cell 2⟩ ?_
                    clear hK K
                    try simp only [Act.put, List.setIfInBounds_toArray, List.set_cons_zero, List.set_cons_succ]
                    generalize hv39 : World.alloc _ _ = v39
                    rw [← hp39]
                    rw [show v38.alloc (.cells #[.int .i64 0, .int .i64 0, .int .i64 0] 32) = v39 from hv39] at N39
                    clear hv39 hp39
                    have E40 : Cl p39 [.int .i64 0, .int .i64 0, .int .i64 0] 32 v39 := N39.1 _ (.head _)
                    have ne40 : ∀ x ∈ [(p36, [.int .i64 0, .int .i64 0], 24), (w9.heap.size, k.l, 32), (w9.heap.size + 1, [.int .i64 0, .int .i64 0], 24), (w8.heap.size, d.l, 32), (w8.heap.size + 1, [.int .i64 0, .int .i64 0], 24), (w7.heap.size, c.l, 32), (w7.heap.size + 1, [.int .i64 0, .int .i64 0], 24), (w6.heap.size, b.l, 32), (w6.heap.size + 1, [.int .i64 0, .int .i64 0], 24), (w2.heap.size, a.l, 32), (w2.heap.size + 1, [.int .i64 0, .int .i64 0], 24), (w.heap.size, f.l, 32), (w.heap.size + 1, g.l, 32), (w.heap.size + 1 + 1, h.l, 32)], x.1 ≠ p39 := by
                      intro x hx
                      simp only [List.mem_cons, List.not_mem_nil, or_false] at hx
                      rcases hx with rfl | hx
                      · have := L39 _ (.head _); omega
                      · have := L39 x (by simp only [List.mem_cons, List.not_mem_nil, or_false]; exact .inr hx); omega
                    have T40 := (N39.mono (l' := [(p36, [.int .i64 0, .int .i64 0], 24), (w9.heap.size, k.l, 32), (w9.heap.size + 1, [.int .i64 0, .int .i64 0], 24), (w8.heap.size, d.l, 32), (w8.heap.size + 1, [.int .i64 0, .int .i64 0], 24), (w7.heap.size, c.l, 32), (w7.heap.size + 1, [.int .i64 0, .int .i64 0], 24), (w6.heap.size, b.l, 32), (w6.heap.size + 1, [.int .i64 0, .int .i64 0], 24), (w2.heap.size, a.l, 32), (w2.heap.size + 1, [.int .i64 0, .int .i64 0], 24), (w.heap.size, f.l, 32), (w.heap.size + 1, g.l, 32), (w.heap.size + 1 + 1, h.l, 32)]) (fun x hx => by simp only [List.mem_cons, List.not_mem_nil, or_false] at hx ⊢; exact .inr hx)).set3 E40 ne40 S39 (.int .i64 t.a) (.int .i64 t.b) (.int .i64 t.c)
                    have c400 := E40.cell 0
                    have f400 := E40.frozen 0
                    have c401 := E40.cell 1
                    have f401 := E40.frozen 1
                    have c402 := E40.cell 2
                    have f402 := E40.frozen 2
                    have l40 := E40.lt
                    simp at c400 c401 c402
                    refine wpAnyG_one (i := 10) rfl (by kernel_rfl) (fun K hK => ?_)
                    go_simp
                    refine hK.out _ _ ⟨(T40.1 _ (.tail _ (.tail _ (.tail _ (.tail _ (.tail _ (.tail _ (.tail _ (.tail _ (.tail _ (.tail _ (.tail _ (.tail _ (.head _)))))))))))))).cell 0, (T40.1 _ (.tail _ (.tail _ (.tail _ (.tail _ (.tail _ (.tail _ (.tail _ (.tail _ (.tail _ (.tail _ (.tail _ (.tail _ (.head _)))))))))))))).cell 1, (T40.1 _ (.tail _ (.tail _ (.tail _ (.tail _ (.tail _ (.tail _ (.tail _ (.tail _ (.tail _ (.tail _ (.tail _ (.tail _ (.head _)))))))))))))).cell 2⟩ ?_
                    clear hK K
                    try simp only [Act.put, List.setIfInBounds_toArray, List.set_cons_zero, List.set_cons_succ]
                    generalize hx40 : World.setCell _ _ _ = x40
                    rw [hx40] at T40
                    clear hx40 c400 f400 c401 f401 c402 f402 l40
                    have U40 : Cl p36 [.int .i64 0, .int .i64 0] 24 x40 := T40.1 _ (.tail _ (.head _))
                    have c400 := U40.cell 0
                    have f400 := U40.frozen 0
                    have c401 := U40.cell 1
                    have f401 := U40.frozen 1
                    have l40 := U40.lt
                    simp at c400 c401
                    have me40 : ∀ x ∈ [(p39, t.l, 32), (w9.heap.size, k.l, 32), (w9.heap.size + 1, [.int .i64 0, .int .i64 0], 24), (w8.heap.size, d.l, 32), (w8.heap.size + 1, [.int .i64 0, .int .i64 0], 24), (w7.heap.size, c.l, 32), (w7.heap.size + 1, [.int .i64 0, .int .i64 0], 24), (w6.heap.size, b.l, 32), (w6.heap.size + 1, [.int .i64 0, .int .i64 0], 24), (w2.heap.size, a.l, 32), (w2.heap.size + 1, [.int .i64 0, .int .i64 0], 24), (w.heap.size, f.l, 32), (w.heap.size + 1, g.l, 32), (w.heap.size + 1 + 1, h.l, 32)], x.1 ≠ p36 := by
                      intro x hx
                      simp only [List.mem_cons, List.not_mem_nil, or_false] at hx
                      rcases hx with rfl | hx
                      · have := L39 _ (.head _); omega
                      · have := L36 x (by simp only [List.mem_cons, List.not_mem_nil, or_false]; exact hx); omega
                    have V40 := (T40.mono (l' := [(p39, t.l, 32), (w9.heap.size, k.l, 32), (w9.heap.size + 1, [.int .i64 0, .int .i64 0], 24), (w8.heap.size, d.l, 32), (w8.heap.size + 1, [.int .i64 0, .int .i64 0], 24), (w7.heap.size, c.l, 32), (w7.heap.size + 1, [.int .i64 0, .int .i64 0], 24), (w6.heap.size, b.l, 32), (w6.heap.size + 1, [.int .i64 0, .int .i64 0], 24), (w2.heap.size, a.l, 32), (w2.heap.size + 1, [.int .i64 0, .int .i64 0], 24), (w.heap.size, f.l, 32), (w.heap.size + 1, g.l, 32), (w.heap.size + 1 + 1, h.l, 32)]) (fun x hx => by simp only [List.mem_cons, List.not_mem_nil, or_false] at hx ⊢; rcases hx with hx | hx; exact .inl hx; exact .inr (.inr hx))).set2 U40 me40 S36 (.int .i64 0) (.int .i64 0)
                    refine wpAnyG_last (i := 11) rfl (by kernel_rfl) (by kernel_rfl) (fun K hK => ?_)
                    go_simp
                    refine hK.out _ _ ?_
                    clear hK K
                    try simp only [Act.put, List.setIfInBounds_toArray, List.set_cons_zero, List.set_cons_succ]
                    refine wpAnyG_done (by kernel_rfl) ?_ _
                    generalize hx40 : World.setCell _ _ _ = y40
                    rw [hx40] at V40
                    clear hx40
                    go_wp2
                    go_meet
                    exact ⟨_, _, rfl, rfl, t, ht.1, V40.mono (fun x hx => by simp only [List.mem_cons, List.not_mem_nil, or_false] at hx ⊢; rcases hx with hx | hx | hx; exact .inr (.inl hx); exact .inl hx; exact .inr (.inr hx))⟩
                  · go_simp
                    obtain ⟨p41, hp41⟩ : ∃ p, p = v37.heap.size := ⟨_, rfl⟩
                    have L41 := N37.lt
                    have S41 := N37.2.size
                    have N41 := N37.new [.int .i64 0, .int .i64 0, .int .i64 0] 32
                    rw [← hp41] at L41 S41 N41
                    refine hK.out _ _ ⟨(N41.1 _ (.tail _ (.tail _ (.tail _ (.tail _ (.tail _ (.tail _ (.tail _ (.tail _ (.tail _ (.tail _ (.tail _ (.tail _ (.head _)))))))))))))).cell 0, (N41.1 _ (.tail _ (.tail _ (.tail _ (.tail _ (.tail _ (.tail _ (.tail _ (.tail _ (.tail _ (.tail _ (.tail _ (.tail _ (.head _)))))))))))))).cell 1, (N41.1 _ (.tail _ (.tail _ (.tail _ (.tail _ (.tail _ (.tail _ (.tail _ (.tail _ (.tail _ (.tail _ (.tail _ (.tail _ (.head _)))))))))))))).cell 2⟩ ?_
                    clear hK K
                    try simp only [Act.put, List.setIfInBounds_toArray, List.set_cons_zero, List.set_cons_succ]
                    generalize hv41 : World.alloc _ _ = v41
                    rw [← hp41]
                    rw [show v37.alloc (.cells #[.int .i64 0, .int .i64 0, .int .i64 0] 32) = v41 from hv41] at N41
                    clear hv41 hp41
                    refine wpAnyG_one (i := 4) rfl (by kernel_rfl) (fun K hK => ?_)
                    go_simp
                    refine (HCt.out _).mono ?_
                    rintro e v42 ⟨t, rfl, ht, kv42⟩
                    have N42 := N41.below kv42
                    refine hK.out _ _ ⟨(N42.1 _ (.tail _ (.tail _ (.tail _ (.tail _ (.tail _ (.tail _ (.tail _ (.tail _ (.tail _ (.tail _ (.tail _ (.tail _ (.head _)))))))))))))).cell 0, (N42.1 _ (.tail _ (.tail _ (.tail _ (.tail _ (.tail _ (.tail _ (.tail _ (.tail _ (.tail _ (.tail _ (.tail _ (.tail _ (.head _)))))))))))))).cell 1, (N42.1 _ (.tail _ (.tail _ (.tail _ (.tail _ (.tail _ (.tail _ (.tail _ (.tail _ (.tail _ (.tail _ (.tail _ (.tail _ (.head _)))))))))))))).cell 2⟩ ?_
                    clear hK K
                    try simp only [Act.put, List.setIfInBounds_toArray, List.set_cons_zero, List.set_cons_succ]
                    clear hHeld
                    have hHeld : S3q f w.heap.size v42 := ⟨(N42.1 _ (.tail _ (.tail _ (.tail _ (.tail _ (.tail _ (.tail _ (.tail _ (.tail _ (.tail _ (.tail _ (.tail _ (.tail _ (.head _)))))))))))))).cell 0, (N42.1 _ (.tail _ (.tail _ (.tail _ (.tail _ (.tail _ (.tail _ (.tail _ (.tail _ (.tail _ (.tail _ (.tail _ (.tail _ (.head _)))))))))))))).cell 1, (N42.1 _ (.tail _ (.tail _ (.tail _ (.tail _ (.tail _ (.tail _ (.tail _ (.tail _ (.tail _ (.tail _ (.tail _ (.tail _ (.head _)))))))))))))).cell 2⟩
                    refine wpAnyG_take (i := 5) (v := ?v5x47) rfl (by kernel_rfl) (fun _ _ _ h => h) (Or.inl ⟨by rfl, ?y5x47⟩) hHeld ?r5x47
                    case y5x47 => (intro wS hSw; obtain ⟨s1, s2, s3⟩ := hSw; go_simp; try with_reducible rfl)
                    try simp only [Act.put, List.setIfInBounds_toArray, List.set_cons_zero, List.set_cons_succ]
                    refine wpAnyG_take (i := 6) (v := ?v6x48) rfl (by kernel_rfl) (fun _ _ _ h => h) (Or.inl ⟨by rfl, ?y6x48⟩) hHeld ?r6x48
                    case y6x48 => (intro wS hSw; obtain ⟨s1, s2, s3⟩ := hSw; go_simp; try with_reducible rfl)
                    try simp only [Act.put, List.setIfInBounds_toArray, List.set_cons_zero, List.set_cons_succ]
                    refine wpAnyG_take (i := 7) (v := ?v7x49) rfl (by kernel_rfl) (fun _ _ _ h => h) (Or.inl ⟨by rfl, ?y7x49⟩) hHeld ?r7x49
                    case y7x49 => (intro wS hSw; obtain ⟨s1, s2, s3⟩ := hSw; go_simp; try with_reducible rfl)
                    try simp only [Act.put, List.setIfInBounds_toArray, List.set_cons_zero, List.set_cons_succ]
                    have E43 : Cl p41 [.int .i64 0, .int .i64 0, .int .i64 0] 32 v42 := N42.1 _ (.head _)
                    have ne43 : ∀ x ∈ [(p36, [.int .i64 0, .int .i64 0], 24), (w9.heap.size, k.l, 32), (w9.heap.size + 1, [.int .i64 0, .int .i64 0], 24), (w8.heap.size, d.l, 32), (w8.heap.size + 1, [.int .i64 0, .int .i64 0], 24), (w7.heap.size, c.l, 32), (w7.heap.size + 1, [.int .i64 0, .int .i64 0], 24), (w6.heap.size, b.l, 32), (w6.heap.size + 1, [.int .i64 0, .int .i64 0], 24), (w2.heap.size, a.l, 32), (w2.heap.size + 1, [.int .i64 0, .int .i64 0], 24), (w.heap.size, f.l, 32), (w.heap.size + 1, g.l, 32), (w.heap.size + 1 + 1, h.l, 32)], x.1 ≠ p41 := by
                      intro x hx
                      simp only [List.mem_cons, List.not_mem_nil, or_false] at hx
                      rcases hx with rfl | hx
                      · have := L41 _ (.head _); omega
                      · have := L41 x (by simp only [List.mem_cons, List.not_mem_nil, or_false]; exact .inr hx); omega
                    have T43 := (N42.mono (l' := [(p36, [.int .i64 0, .int .i64 0], 24), (w9.heap.size, k.l, 32), (w9.heap.size + 1, [.int .i64 0, .int .i64 0], 24), (w8.heap.size, d.l, 32), (w8.heap.size + 1, [.int .i64 0, .int .i64 0], 24), (w7.heap.size, c.l, 32), (w7.heap.size + 1, [.int .i64 0, .int .i64 0], 24), (w6.heap.size, b.l, 32), (w6.heap.size + 1, [.int .i64 0, .int .i64 0], 24), (w2.heap.size, a.l, 32), (w2.heap.size + 1, [.int .i64 0, .int .i64 0], 24), (w.heap.size, f.l, 32), (w.heap.size + 1, g.l, 32), (w.heap.size + 1 + 1, h.l, 32)]) (fun x hx => by simp only [List.mem_cons, List.not_mem_nil, or_false] at hx ⊢; exact .inr hx)).set3 E43 ne43 S41 (.int .i64 t.a) (.int .i64 t.b) (.int .i64 t.c)
                    have c430 := E43.cell 0
                    have f430 := E43.frozen 0
                    have c431 := E43.cell 1
                    have f431 := E43.frozen 1
                    have c432 := E43.cell 2
                    have f432 := E43.frozen 2
                    have l43 := E43.lt
                    simp at c430 c431 c432
                    refine wpAnyG_one (i := 10) rfl (by kernel_rfl) (fun K hK => ?_)
                    go_simp
                    refine hK.out _ _ ⟨(T43.1 _ (.tail _ (.tail _ (.tail _ (.tail _ (.tail _ (.tail _ (.tail _ (.tail _ (.tail _ (.tail _ (.tail _ (.tail _ (.head _)))))))))))))).cell 0, (T43.1 _ (.tail _ (.tail _ (.tail _ (.tail _ (.tail _ (.tail _ (.tail _ (.tail _ (.tail _ (.tail _ (.tail _ (.tail _ (.head _)))))))))))))).cell 1, (T43.1 _ (.tail _ (.tail _ (.tail _ (.tail _ (.tail _ (.tail _ (.tail _ (.tail _ (.tail _ (.tail _ (.tail _ (.tail _ (.head _)))))))))))))).cell 2⟩ ?_
                    clear hK K
                    try simp only [Act.put, List.setIfInBounds_toArray, List.set_cons_zero, List.set_cons_succ]
                    generalize hx43 : World.setCell _ _ _ = x43
                    rw [hx43] at T43
                    clear hx43 c430 f430 c431 f431 c432 f432 l43
                    have U43 : Cl p36 [.int .i64 0, .int .i64 0] 24 x43 := T43.1 _ (.tail _ (.head _))
                    have c430 := U43.cell 0
                    have f430 := U43.frozen 0
                    have c431 := U43.cell 1
                    have f431 := U43.frozen 1
                    have l43 := U43.lt
                    simp at c430 c431
                    have me43 : ∀ x ∈ [(p41, t.l, 32), (w9.heap.size, k.l, 32), (w9.heap.size + 1, [.int .i64 0, .int .i64 0], 24), (w8.heap.size, d.l, 32), (w8.heap.size + 1, [.int .i64 0, .int .i64 0], 24), (w7.heap.size, c.l, 32), (w7.heap.size + 1, [.int .i64 0, .int .i64 0], 24), (w6.heap.size, b.l, 32), (w6.heap.size + 1, [.int .i64 0, .int .i64 0], 24), (w2.heap.size, a.l, 32), (w2.heap.size + 1, [.int .i64 0, .int .i64 0], 24), (w.heap.size, f.l, 32), (w.heap.size + 1, g.l, 32), (w.heap.size + 1 + 1, h.l, 32)], x.1 ≠ p36 := by
                      intro x hx
                      simp only [List.mem_cons, List.not_mem_nil, or_false] at hx
                      rcases hx with rfl | hx
                      · have := L41 _ (.head _); omega
                      · have := L36 x (by simp only [List.mem_cons, List.not_mem_nil, or_false]; exact hx); omega
                    have V43 := (T43.mono (l' := [(p41, t.l, 32), (w9.heap.size, k.l, 32), (w9.heap.size + 1, [.int .i64 0, .int .i64 0], 24), (w8.heap.size, d.l, 32), (w8.heap.size + 1, [.int .i64 0, .int .i64 0], 24), (w7.heap.size, c.l, 32), (w7.heap.size + 1, [.int .i64 0, .int .i64 0], 24), (w6.heap.size, b.l, 32), (w6.heap.size + 1, [.int .i64 0, .int .i64 0], 24), (w2.heap.size, a.l, 32), (w2.heap.size + 1, [.int .i64 0, .int .i64 0], 24), (w.heap.size, f.l, 32), (w.heap.size + 1, g.l, 32), (w.heap.size + 1 + 1, h.l, 32)]) (fun x hx => by simp only [List.mem_cons, List.not_mem_nil, or_false] at hx ⊢; rcases hx with hx | hx; exact .inl hx; exact .inr (.inr hx))).set2 U43 me43 S36 (.int .i64 0) (.int .i64 0)
                    refine wpAnyG_last (i := 11) rfl (by kernel_rfl) (by kernel_rfl) (fun K hK => ?_)
                    go_simp
                    refine hK.out _ _ ?_
                    clear hK K
                    try simp only [Act.put, List.setIfInBounds_toArray, List.set_cons_zero, List.set_cons_succ]
                    refine wpAnyG_done (by kernel_rfl) ?_ _
                    generalize hx43 : World.setCell _ _ _ = y43
                    rw [hx43] at V43
                    clear hx43
                    go_wp2
                    go_meet
                    exact ⟨_, _, rfl, rfl, t, ht.1, V43.mono (fun x hx => by simp only [List.mem_cons, List.not_mem_nil, or_false] at hx ⊢; rcases hx with hx | hx | hx; exact .inr (.inl hx); exact .inl hx; exact .inr (.inr hx))⟩
                · go_simp
                  obtain ⟨p44, hp44⟩ : ∃ p, p = v36.heap.size := ⟨_, rfl⟩
                  have L44 := N36.lt
                  have S44 := N36.2.size
                  have N44 := N36.new [.int .i64 0, .int .i64 0, .int .i64 0] 32
                  rw [← hp44] at L44 S44 N44
                  refine hK.out _ _ ⟨(N44.1 _ (.tail _ (.tail _ (.tail _ (.tail _ (.tail _ (.tail _ (.tail _ (.tail _ (.tail _ (.tail _ (.tail _ (.tail _ (.head _)))))))))))))).cell 0, (N44.1 _ (.tail _ (.tail _ (.tail _ (.tail _ (.tail _ (.tail _ (.tail _ (.tail _ (.tail _ (.tail _ (.tail _ (.tail _ (.head _)))))))))))))).cell 1, (N44.1 _ (.tail _ (.tail _ (.tail _ (.tail _ (.tail _ (.tail _ (.tail _ (.tail _ (.tail _ (.tail _ (.tail _ (.tail _ (.head _)))))))))))))).cell 2⟩ ?_
                  clear hK K
                  try simp only [Act.put, List.setIfInBounds_toArray, List.set_cons_zero, List.set_cons_succ]
                  generalize hv44 : World.alloc _ _ = v44
                  rw [← hp44]
                  rw [show v36.alloc (.cells #[.int .i64 0, .int .i64 0, .int .i64 0] 32) = v44 from hv44] at N44
                  clear hv44 hp44
                  refine wpAnyG_one (i := 3) rfl (by kernel_rfl) (fun K hK => ?_)
                  go_simp
                  refine (HFi.out _).mono ?_
                  rintro e v45 ⟨rfl, kv45⟩
                  have N45 := N44.below kv45
                  refine hK.out _ _ ⟨(N45.1 _ (.tail _ (.tail _ (.tail _ (.tail _ (.tail _ (.tail _ (.tail _ (.tail _ (.tail _ (.tail _ (.tail _ (.tail _ (.head _)))))))))))))).cell 0, (N45.1 _ (.tail _ (.tail _ (.tail _ (.tail _ (.tail _ (.tail _ (.tail _ (.tail _ (.tail _ (.tail _ (.tail _ (.tail _ (.head _)))))))))))))).cell 1, (N45.1 _ (.tail _ (.tail _ (.tail _ (.tail _ (.tail _ (.tail _ (.tail _ (.tail _ (.tail _ (.tail _ (.tail _ (.tail _ (.head _)))))))))))))).cell 2⟩ ?_
                  clear hK K
                  try simp only [Act.put, List.setIfInBounds_toArray, List.set_cons_zero, List.set_cons_succ]
                  refine wpAnyG_one (i := 4) rfl (by kernel_rfl) (fun K hK => ?_)
                  go_simp
                  refine (HCt.out _).mono ?_
                  rintro e v46 ⟨t, rfl, ht, kv46⟩
                  have N46 := N45.below kv46
                  refine hK.out _ _ ⟨(N46.1 _ (.tail _ (.tail _ (.tail _ (.tail _ (.tail _ (.tail _ (.tail _ (.tail _ (.tail _ (.tail _ (.tail _ (.tail _ (.head _)))))))))))))).cell 0, (N46.1 _ (.tail _ (.tail _ (.tail _ (.tail _ (.tail _ (.tail _ (.tail _ (.tail _ (.tail _ (.tail _ (.tail _ (.tail _ (.head _)))))))))))))).cell 1, (N46.1 _ (.tail _ (.tail _ (.tail _ (.tail _ (.tail _ (.tail _ (.tail _ (.tail _ (.tail _ (.tail _ (.tail _ (.tail _ (.head _)))))))))))))).cell 2⟩ ?_
                  clear hK K
                  try simp only [Act.put, List.setIfInBounds_toArray, List.set_cons_zero, List.set_cons_succ]
                  clear hHeld
                  have hHeld : S3q f w.heap.size v46 := ⟨(N46.1 _ (.tail _ (.tail _ (.tail _ (.tail _ (.tail _ (.tail _ (.tail _ (.tail _ (.tail _ (.tail _ (.tail _ (.tail _ (.head _)))))))))))))).cell 0, (N46.1 _ (.tail _ (.tail _ (.tail _ (.tail _ (.tail _ (.tail _ (.tail _ (.tail _ (.tail _ (.tail _ (.tail _ (.tail _ (.head _)))))))))))))).cell 1, (N46.1 _ (.tail _ (.tail _ (.tail _ (.tail _ (.tail _ (.tail _ (.tail _ (.tail _ (.tail _ (.tail _ (.tail _ (.tail _ (.head _)))))))))))))).cell 2⟩
                  refine wpAnyG_take (i := 5) (v := ?v5x50) rfl (by kernel_rfl) (fun _ _ _ h => h) (Or.inl ⟨by rfl, ?y5x50⟩) hHeld ?r5x50
                  case y5x50 => (intro wS hSw; obtain ⟨s1, s2, s3⟩ := hSw; go_simp; try with_reducible rfl)
                  try simp only [Act.put, List.setIfInBounds_toArray, List.set_cons_zero, List.set_cons_succ]
                  refine wpAnyG_take (i := 6) (v := ?v6x51) rfl (by kernel_rfl) (fun _ _ _ h => h) (Or.inl ⟨by rfl, ?y6x51⟩) hHeld ?r6x51
                  case y6x51 => (intro wS hSw; obtain ⟨s1, s2, s3⟩ := hSw; go_simp; try with_reducible rfl)
                  try simp only [Act.put, List.setIfInBounds_toArray, List.set_cons_zero, List.set_cons_succ]
                  refine wpAnyG_take (i := 7) (v := ?v7x52) rfl (by kernel_rfl) (fun _ _ _ h => h) (Or.inl ⟨by rfl, ?y7x52⟩) hHeld ?r7x52
                  case y7x52 => (intro wS hSw; obtain ⟨s1, s2, s3⟩ := hSw; go_simp; try with_reducible rfl)
                  try simp only [Act.put, List.setIfInBounds_toArray, List.set_cons_zero, List.set_cons_succ]
                  have E47 : Cl p44 [.int .i64 0, .int .i64 0, .int .i64 0] 32 v46 := N46.1 _ (.head _)
                  have ne47 : ∀ x ∈ [(p36, [.int .i64 0, .int .i64 0], 24), (w9.heap.size, k.l, 32), (w9.heap.size + 1, [.int .i64 0, .int .i64 0], 24), (w8.heap.size, d.l, 32), (w8.heap.size + 1, [.int .i64 0, .int .i64 0], 24), (w7.heap.size, c.l, 32), (w7.heap.size + 1, [.int .i64 0, .int .i64 0], 24), (w6.heap.size, b.l, 32), (w6.heap.size + 1, [.int .i64 0, .int .i64 0], 24), (w2.heap.size, a.l, 32), (w2.heap.size + 1, [.int .i64 0, .int .i64 0], 24), (w.heap.size, f.l, 32), (w.heap.size + 1, g.l, 32), (w.heap.size + 1 + 1, h.l, 32)], x.1 ≠ p44 := by
                    intro x hx
                    simp only [List.mem_cons, List.not_mem_nil, or_false] at hx
                    rcases hx with rfl | hx
                    · have := L44 _ (.head _); omega
                    · have := L44 x (by simp only [List.mem_cons, List.not_mem_nil, or_false]; exact .inr hx); omega
                  have T47 := (N46.mono (l' := [(p36, [.int .i64 0, .int .i64 0], 24), (w9.heap.size, k.l, 32), (w9.heap.size + 1, [.int .i64 0, .int .i64 0], 24), (w8.heap.size, d.l, 32), (w8.heap.size + 1, [.int .i64 0, .int .i64 0], 24), (w7.heap.size, c.l, 32), (w7.heap.size + 1, [.int .i64 0, .int .i64 0], 24), (w6.heap.size, b.l, 32), (w6.heap.size + 1, [.int .i64 0, .int .i64 0], 24), (w2.heap.size, a.l, 32), (w2.heap.size + 1, [.int .i64 0, .int .i64 0], 24), (w.heap.size, f.l, 32), (w.heap.size + 1, g.l, 32), (w.heap.size + 1 + 1, h.l, 32)]) (fun x hx => by simp only [List.mem_cons, List.not_mem_nil, or_false] at hx ⊢; exact .inr hx)).set3 E47 ne47 S44 (.int .i64 t.a) (.int .i64 t.b) (.int .i64 t.c)
                  have c470 := E47.cell 0
                  have f470 := E47.frozen 0
                  have c471 := E47.cell 1
                  have f471 := E47.frozen 1
                  have c472 := E47.cell 2
                  have f472 := E47.frozen 2
                  have l47 := E47.lt
                  simp at c470 c471 c472
                  refine wpAnyG_one (i := 10) rfl (by kernel_rfl) (fun K hK => ?_)
                  go_simp
                  refine hK.out _ _ ⟨(T47.1 _ (.tail _ (.tail _ (.tail _ (.tail _ (.tail _ (.tail _ (.tail _ (.tail _ (.tail _ (.tail _ (.tail _ (.tail _ (.head _)))))))))))))).cell 0, (T47.1 _ (.tail _ (.tail _ (.tail _ (.tail _ (.tail _ (.tail _ (.tail _ (.tail _ (.tail _ (.tail _ (.tail _ (.tail _ (.head _)))))))))))))).cell 1, (T47.1 _ (.tail _ (.tail _ (.tail _ (.tail _ (.tail _ (.tail _ (.tail _ (.tail _ (.tail _ (.tail _ (.tail _ (.tail _ (.head _)))))))))))))).cell 2⟩ ?_
                  clear hK K
                  try simp only [Act.put, List.setIfInBounds_toArray, List.set_cons_zero, List.set_cons_succ]
                  generalize hx47 : World.setCell _ _ _ = x47
                  rw [hx47] at T47
                  clear hx47 c470 f470 c471 f471 c472 f472 l47
                  have U47 : Cl p36 [.int .i64 0, .int .i64 0] 24 x47 := T47.1 _ (.tail _ (.head _))
                  have c470 := U47.cell 0
                  have f470 := U47.frozen 0
                  have c471 := U47.cell 1
                  have f471 := U47.frozen 1
                  have l47 := U47.lt
                  simp at c470 c471
                  have me47 : ∀ x ∈ [(p44, t.l, 32), (w9.heap.size, k.l, 32), (w9.heap.size + 1, [.int .i64 0, .int .i64 0], 24), (w8.heap.size, d.l, 32), (w8.heap.size + 1, [.int .i64 0, .int .i64 0], 24), (w7.heap.size, c.l, 32), (w7.heap.size + 1, [.int .i64 0, .int .i64 0], 24), (w6.heap.size, b.l, 32), (w6.heap.size + 1, [.int .i64 0, .int .i64 0], 24), (w2.heap.size, a.l, 32), (w2.heap.size + 1, [.int .i64 0, .int .i64 0], 24), (w.heap.size, f.l, 32), (w.heap.size + 1, g.l, 32), (w.heap.size + 1 + 1, h.l, 32)], x.1 ≠ p36 := by
                    intro x hx
                    simp only [List.mem_cons, List.not_mem_nil, or_false] at hx
                    rcases hx with rfl | hx
                    · have := L44 _ (.head _); omega
                    · have := L36 x (by simp only [List.mem_cons, List.not_mem_nil, or_false]; exact hx); omega
                  have V47 := (T47.mono (l' := [(p44, t.l, 32), (w9.heap.size, k.l, 32), (w9.heap.size + 1, [.int .i64 0, .int .i64 0], 24), (w8.heap.size, d.l, 32), (w8.heap.size + 1, [.int .i64 0, .int .i64 0], 24), (w7.heap.size, c.l, 32), (w7.heap.size + 1, [.int .i64 0, .int .i64 0], 24), (w6.heap.size, b.l, 32), (w6.heap.size + 1, [.int .i64 0, .int .i64 0], 24), (w2.heap.size, a.l, 32), (w2.heap.size + 1, [.int .i64 0, .int .i64 0], 24), (w.heap.size, f.l, 32), (w.heap.size + 1, g.l, 32), (w.heap.size + 1 + 1, h.l, 32)]) (fun x hx => by simp only [List.mem_cons, List.not_mem_nil, or_false] at hx ⊢; rcases hx with hx | hx; exact .inl hx; exact .inr (.inr hx))).set2 U47 me47 S36 (.int .i64 0) (.int .i64 0)
                  refine wpAnyG_last (i := 11) rfl (by kernel_rfl) (by kernel_rfl) (fun K hK => ?_)
                  go_simp
                  refine hK.out _ _ ?_
                  clear hK K
                  try simp only [Act.put, List.setIfInBounds_toArray, List.set_cons_zero, List.set_cons_succ]
                  refine wpAnyG_done (by kernel_rfl) ?_ _
                  generalize hx47 : World.setCell _ _ _ = y47
                  rw [hx47] at V47
                  clear hx47
                  go_wp2
                  go_meet
                  exact ⟨_, _, rfl, rfl, t, ht.1, V47.mono (fun x hx => by simp only [List.mem_cons, List.not_mem_nil, or_false] at hx ⊢; rcases hx with hx | hx | hx; exact .inr (.inl hx); exact .inl hx; exact .inr (.inr hx))⟩
            · go_simp
              obtain ⟨p48, hp48⟩ : ∃ p, p = W9.drew.heap.size := ⟨_, rfl⟩
              have L48 := N0.lt
              have S48 := N0.2.size
              have N48 := N0.new [.int .i64 0, .int .i64 0, .int .i64 0] 32
              rw [← hp48] at L48 S48 N48
              refine hK.out _ _ ⟨(N48.1 _ (.tail _ (.tail _ (.tail _ (.tail _ (.tail _ (.tail _ (.tail _ (.tail _ (.tail _ (.tail _ (.tail _ (.head _))))))))))))).cell 0, (N48.1 _ (.tail _ (.tail _ (.tail _ (.tail _ (.tail _ (.tail _ (.tail _ (.tail _ (.tail _ (.tail _ (.tail _ (.head _))))))))))))).cell 1, (N48.1 _ (.tail _ (.tail _ (.tail _ (.tail _ (.tail _ (.tail _ (.tail _ (.tail _ (.tail _ (.tail _ (.tail _ (.head _))))))))))))).cell 2⟩ ?_
              clear hK K
              try simp only [Act.put, List.setIfInBounds_toArray, List.set_cons_zero, List.set_cons_succ]
              generalize hv48 : World.drew (World.alloc _ _) = v48
              try rw [show W9.heap.size = p48 from hp48.symm]
              rw [show W9.drew.alloc (.cells #[.int .i64 0, .int .i64 0, .int .i64 0] 32) = v48 from hv48] at N48
              clear hv48 hp48
              refine wpAnyG_two (i := 2) (j := 9) rfl rfl (by kernel_rfl) (fun K hK => ?_) (fun K hK => ?_)
              · go_simp
                refine (HDf.out _).mono ?_
                rintro e v49 ⟨rfl, kv49⟩
                have N49 := N48.below kv49
                refine hK.out _ _ ⟨(N49.1 _ (.tail _ (.tail _ (.tail _ (.tail _ (.tail _ (.tail _ (.tail _ (.tail _ (.tail _ (.tail _ (.tail _ (.head _))))))))))))).cell 0, (N49.1 _ (.tail _ (.tail _ (.tail _ (.tail _ (.tail _ (.tail _ (.tail _ (.tail _ (.tail _ (.tail _ (.tail _ (.head _))))))))))))).cell 1, (N49.1 _ (.tail _ (.tail _ (.tail _ (.tail _ (.tail _ (.tail _ (.tail _ (.tail _ (.tail _ (.tail _ (.tail _ (.head _))))))))))))).cell 2⟩ ?_
                clear hK K
                try simp only [Act.put, List.setIfInBounds_toArray, List.set_cons_zero, List.set_cons_succ]
                refine wpAnyG_two (i := 3) (j := 9) rfl rfl (by kernel_rfl) (fun K hK => ?_) (fun K hK => ?_)
                · go_simp
                  refine (HFi.out _).mono ?_
                  rintro e v50 ⟨rfl, kv50⟩
                  have N50 := N49.below kv50
                  refine hK.out _ _ ⟨(N50.1 _ (.tail _ (.tail _ (.tail _ (.tail _ (.tail _ (.tail _ (.tail _ (.tail _ (.tail _ (.tail _ (.tail _ (.head _))))))))))))).cell 0, (N50.1 _ (.tail _ (.tail _ (.tail _ (.tail _ (.tail _ (.tail _ (.tail _ (.tail _ (.tail _ (.tail _ (.tail _ (.head _))))))))))))).cell 1, (N50.1 _ (.tail _ (.tail _ (.tail _ (.tail _ (.tail _ (.tail _ (.tail _ (.tail _ (.tail _ (.tail _ (.tail _ (.head _))))))))))))).cell 2⟩ ?_
                  clear hK K
                  try simp only [Act.put, List.setIfInBounds_toArray, List.set_cons_zero, List.set_cons_succ]
                  refine wpAnyG_two (i := 4) (j := 9) rfl rfl (by kernel_rfl) (fun K hK => ?_) (fun K hK => ?_)
                  · go_simp
                    refine (HCt.out _).mono ?_
                    rintro e v51 ⟨t, rfl, ht, kv51⟩
                    have N51 := N50.below kv51
                    refine hK.out _ _ ⟨(N51.1 _ (.tail _ (.tail _ (.tail _ (.tail _ (.tail _ (.tail _ (.tail _ (.tail _ (.tail _ (.tail _ (.tail _ (.head _))))))))))))).cell 0, (N51.1 _ (.tail _ (.tail _ (.tail _ (.tail _ (.tail _ (.tail _ (.tail _ (.tail _ (.tail _ (.tail _ (.tail _ (.head _))))))))))))).cell 1, (N51.1 _ (.tail _ (.tail _ (.tail _ (.tail _ (.tail _ (.tail _ (.tail _ (.tail _ (.tail _ (.tail _ (.tail _ (.head _))))))))))))).cell 2⟩ ?_
                    clear hK K
                    try simp only [Act.put, List.setIfInBounds_toArray, List.set_cons_zero, List.set_cons_succ]
                    clear hHeld
                    have hHeld : S3q f w.heap.size v51 := ⟨(N51.1 _ (.tail _ (.tail _ (.tail _ (.tail _ (.tail _ (.tail _ (.tail _ (.tail _ (.tail _ (.tail _ (.tail _ (.head _))))))))))))).cell 0, (N51.1 _ (.tail _ (.tail _ (.tail _ (.tail _ (.tail _ (.tail _ (.tail _ (.tail _ (.tail _ (.tail _ (.tail _ (.head _))))))))))))).cell 1, (N51.1 _ (.tail _ (.tail _ (.tail _ (.tail _ (.tail _ (.tail _ (.tail _ (.tail _ (.tail _ (.tail _ (.tail _ (.head _))))))))))))).cell 2⟩
                    refine wpAnyG_take (i := 5) (v := ?v5x53) rfl (by kernel_rfl) (fun _ _ _ h => h) (Or.inl ⟨by rfl, ?y5x53⟩) hHeld ?r5x53
                    case y5x53 => (intro wS hSw; obtain ⟨s1, s2, s3⟩ := hSw; go_simp; try with_reducible rfl)
                    try simp only [Act.put, List.setIfInBounds_toArray, List.set_cons_zero, List.set_cons_succ]
                    refine wpAnyG_take (i := 6) (v := ?v6x54) rfl (by kernel_rfl) (fun _ _ _ h => h) (Or.inl ⟨by rfl, ?y6x54⟩) hHeld ?r6x54
                    case y6x54 => (intro wS hSw; obtain ⟨s1, s2, s3⟩ := hSw; go_simp; try with_reducible rfl)
                    try simp only [Act.put, List.setIfInBounds_toArray, List.set_cons_zero, List.set_cons_succ]
                    refine wpAnyG_take (i := 7) (v := ?v7x55) rfl (by kernel_rfl) (fun _ _ _ h => h) (Or.inl ⟨by rfl, ?y7x55⟩) hHeld ?r7x55
                    case y7x55 => (intro wS hSw; obtain ⟨s1, s2, s3⟩ := hSw; go_simp; try with_reducible rfl)
                    try simp only [Act.put, List.setIfInBounds_toArray, List.set_cons_zero, List.set_cons_succ]
                    refine wpAnyG_one (i := 9) rfl (by kernel_rfl) (fun K hK => ?_)
                    go_simp
                    obtain ⟨p52, hp52⟩ : ∃ p, p = v51.heap.size := ⟨_, rfl⟩
                    have L52 := N51.lt
                    have S52 := N51.2.size
                    have N52 := N51.new [.int .i64 0, .int .i64 0] 24
                    rw [← hp52] at L52 S52 N52
                    refine hK.out _ _ ⟨(N52.1 _ (.tail _ (.tail _ (.tail _ (.tail _ (.tail _ (.tail _ (.tail _ (.tail _ (.tail _ (.tail _ (.tail _ (.tail _ (.head _)))))))))))))).cell 0, (N52.1 _ (.tail _ (.tail _ (.tail _ (.tail _ (.tail _ (.tail _ (.tail _ (.tail _ (.tail _ (.tail _ (.tail _ (.tail _ (.head _)))))))))))))).cell 1, (N52.1 _ (.tail _ (.tail _ (.tail _ (.tail _ (.tail _ (.tail _ (.tail _ (.tail _ (.tail _ (.tail _ (.tail _ (.tail _ (.head _)))))))))))))).cell 2⟩ ?_
                    clear hK K
                    try simp only [Act.put, List.setIfInBounds_toArray, List.set_cons_zero, List.set_cons_succ]
                    generalize hv52 : World.alloc _ _ = v52
                    rw [← hp52]
                    rw [show v51.alloc (.cells #[.int .i64 0, .int .i64 0] 24) = v52 from hv52] at N52
                    clear hv52 hp52
                    have E53 : Cl p48 [.int .i64 0, .int .i64 0, .int .i64 0] 32 v52 := N52.1 _ (.tail _ (.head _))
                    have ne53 : ∀ x ∈ [(p52, [.int .i64 0, .int .i64 0], 24), (w9.heap.size, k.l, 32), (w9.heap.size + 1, [.int .i64 0, .int .i64 0], 24), (w8.heap.size, d.l, 32), (w8.heap.size + 1, [.int .i64 0, .int .i64 0], 24), (w7.heap.size, c.l, 32), (w7.heap.size + 1, [.int .i64 0, .int .i64 0], 24), (w6.heap.size, b.l, 32), (w6.heap.size + 1, [.int .i64 0, .int .i64 0], 24), (w2.heap.size, a.l, 32), (w2.heap.size + 1, [.int .i64 0, .int .i64 0], 24), (w.heap.size, f.l, 32), (w.heap.size + 1, g.l, 32), (w.heap.size + 1 + 1, h.l, 32)], x.1 ≠ p48 := by
                      intro x hx
                      simp only [List.mem_cons, List.not_mem_nil, or_false] at hx
                      rcases hx with rfl | hx
                      · have := L52 _ (.head _); omega
                      · have := L48 x (by simp only [List.mem_cons, List.not_mem_nil, or_false]; exact hx); omega
                    have T53 := (N52.mono (l' := [(p52, [.int .i64 0, .int .i64 0], 24), (w9.heap.size, k.l, 32), (w9.heap.size + 1, [.int .i64 0, .int .i64 0], 24), (w8.heap.size, d.l, 32), (w8.heap.size + 1, [.int .i64 0, .int .i64 0], 24), (w7.heap.size, c.l, 32), (w7.heap.size + 1, [.int .i64 0, .int .i64 0], 24), (w6.heap.size, b.l, 32), (w6.heap.size + 1, [.int .i64 0, .int .i64 0], 24), (w2.heap.size, a.l, 32), (w2.heap.size + 1, [.int .i64 0, .int .i64 0], 24), (w.heap.size, f.l, 32), (w.heap.size + 1, g.l, 32), (w.heap.size + 1 + 1, h.l, 32)]) (fun x hx => by simp only [List.mem_cons, List.not_mem_nil, or_false] at hx ⊢; rcases hx with hx | hx; exact .inl hx; exact .inr (.inr hx))).set3 E53 ne53 S48 (.int .i64 t.a) (.int .i64 t.b) (.int .i64 t.c)
                    have c530 := E53.cell 0
                    have f530 := E53.frozen 0
                    have c531 := E53.cell 1
                    have f531 := E53.frozen 1
                    have c532 := E53.cell 2
                    have f532 := E53.frozen 2
                    have l53 := E53.lt
                    simp at c530 c531 c532
                    refine wpAnyG_one (i := 10) rfl (by kernel_rfl) (fun K hK => ?_)
                    go_simp
                    refine hK.out _ _ ⟨(T53.1 _ (.tail _ (.tail _ (.tail _ (.tail _ (.tail _ (.tail _ (.tail _ (.tail _ (.tail _ (.tail _ (.tail _ (.tail _ (.head _)))))))))))))).cell 0, (T53.1 _ (.tail _ (.tail _ (.tail _ (.tail _ (.tail _ (.tail _ (.tail _ (.tail _ (.tail _ (.tail _ (.tail _ (.tail _ (.head _)))))))))))))).cell 1, (T53.1 _ (.tail _ (.tail _ (.tail _ (.tail _ (.tail _ (.tail _ (.tail _ (.tail _ (.tail _ (.tail _ (.tail _ (.tail _ (.head _)))))))))))))).cell 2⟩ ?_
                    clear hK K
                    try simp only [Act.put, List.setIfInBounds_toArray, List.set_cons_zero, List.set_cons_succ]
                    generalize hx53 : World.setCell _ _ _ = x53
                    rw [hx53] at T53
                    clear hx53 c530 f530 c531 f531 c532 f532 l53
                    have U53 : Cl p52 [.int .i64 0, .int .i64 0] 24 x53 := T53.1 _ (.tail _ (.head _))
                    have c530 := U53.cell 0
                    have f530 := U53.frozen 0
                    have c531 := U53.cell 1
                    have f531 := U53.frozen 1
                    have l53 := U53.lt
                    simp at c530 c531
                    have me53 : ∀ x ∈ [(p48, t.l, 32), (w9.heap.size, k.l, 32), (w9.heap.size + 1, [.int .i64 0, .int .i64 0], 24), (w8.heap.size, d.l, 32), (w8.heap.size + 1, [.int .i64 0, .int .i64 0], 24), (w7.heap.size, c.l, 32), (w7.heap.size + 1, [.int .i64 0, .int .i64 0], 24), (w6.heap.size, b.l, 32), (w6.heap.size + 1, [.int .i64 0, .int .i64 0], 24), (w2.heap.size, a.l, 32), (w2.heap.size + 1, [.int .i64 0, .int .i64 0], 24), (w.heap.size, f.l, 32), (w.heap.size + 1, g.l, 32), (w.heap.size + 1 + 1, h.l, 32)], x.1 ≠ p52 := by
                      intro x hx
                      simp only [List.mem_cons, List.not_mem_nil, or_false] at hx
                      rcases hx with rfl | hx
                      · have := L52 _ (.head _); omega
                      · have := L52 x (by simp only [List.mem_cons, List.not_mem_nil, or_false]; exact .inr hx); omega
                    have V53 := (T53.mono (l' := [(p48, t.l, 32), (w9.heap.size, k.l, 32), (w9.heap.size + 1, [.int .i64 0, .int .i64 0], 24), (w8.heap.size, d.l, 32), (w8.heap.size + 1, [.int .i64 0, .int .i64 0], 24), (w7.heap.size, c.l, 32), (w7.heap.size + 1, [.int .i64 0, .int .i64 0], 24), (w6.heap.size, b.l, 32), (w6.heap.size + 1, [.int .i64 0, .int .i64 0], 24), (w2.heap.size, a.l, 32), (w2.heap.size + 1, [.int .i64 0, .int .i64 0], 24), (w.heap.size, f.l, 32), (w.heap.size + 1, g.l, 32), (w.heap.size + 1 + 1, h.l, 32)]) (fun x hx => by simp only [List.mem_cons, List.not_mem_nil, or_false] at hx ⊢; rcases hx with hx | hx; exact .inl hx; exact .inr (.inr hx))).set2 U53 me53 S52 (.int .i64 0) (.int .i64 0)
                    refine wpAnyG_last (i := 11) rfl (by kernel_rfl) (by kernel_rfl) (fun K hK => ?_)
                    go_simp
                    refine hK.out _ _ ?_
                    clear hK K
                    try simp only [Act.put, List.setIfInBounds_toArray, List.set_cons_zero, List.set_cons_succ]
                    refine wpAnyG_done (by kernel_rfl) ?_ _
                    generalize hx53 : World.setCell _ _ _ = y53
                    rw [hx53] at V53
                    clear hx53
                    go_wp2
                    go_meet
                    exact ⟨_, _, rfl, rfl, t, ht.1, V53.mono (fun x hx => by simp only [List.mem_cons, List.not_mem_nil, or_false] at hx ⊢; rcases hx with hx | hx | hx; exact .inr (.inl hx); exact .inl hx; exact .inr (.inr hx))⟩
                  · go_simp
                    obtain ⟨p54, hp54⟩ : ∃ p, p = v50.heap.size := ⟨_, rfl⟩
                    have L54 := N50.lt
                    have S54 := N50.2.size
                    have N54 := N50.new [.int .i64 0, .int .i64 0] 24
                    rw [← hp54] at L54 S54 N54
                    refine hK.out _ _ ⟨(N54.1 _ (.tail _ (.tail _ (.tail _ (.tail _ (.tail _ (.tail _ (.tail _ (.tail _ (.tail _ (.tail _ (.tail _ (.tail _ (.head _)))))))))))))).cell 0, (N54.1 _ (.tail _ (.tail _ (.tail _ (.tail _ (.tail _ (.tail _ (.tail _ (.tail _ (.tail _ (.tail _ (.tail _ (.tail _ (.head _)))))))))))))).cell 1, (N54.1 _ (.tail _ (.tail _ (.tail _ (.tail _ (.tail _ (.tail _ (.tail _ (.tail _ (.tail _ (.tail _ (.tail _ (.tail _ (.head _)))))))))))))).cell 2⟩ ?_
                    clear hK K
                    try simp only [Act.put, List.setIfInBounds_toArray, List.set_cons_zero, List.set_cons_succ]
                    generalize hv54 : World.alloc _ _ = v54
                    rw [← hp54]
                    rw [show v50.alloc (.cells #[.int .i64 0, .int .i64 0] 24) = v54 from hv54] at N54
                    clear hv54 hp54
                    refine wpAnyG_one (i := 4) rfl (by kernel_rfl) (fun K hK => ?_)
                    go_simp
                    refine (HCt.out _).mono ?_
                    rintro e v55 ⟨t, rfl, ht, kv55⟩
                    have N55 := N54.below kv55
                    refine hK.out _ _ ⟨(N55.1 _ (.tail _ (.tail _ (.tail _ (.tail _ (.tail _ (.tail _ (.tail _ (.tail _ (.tail _ (.tail _ (.tail _ (.tail _ (.head _)))))))))))))).cell 0, (N55.1 _ (.tail _ (.tail _ (.tail _ (.tail _ (.tail _ (.tail _ (.tail _ (.tail _ (.tail _ (.tail _ (.tail _ (.tail _ (.head _)))))))))))))).cell 1, (N55.1 _ (.tail _ (.tail _ (.tail _ (.tail _ (.tail _ (.tail _ (.tail _ (.tail _ (.tail _ (.tail _ (.tail _ (.tail _ (.head _)))))))))))))).cell 2⟩ ?_
                    clear hK K
                    try simp only [Act.put, List.setIfInBounds_toArray, List.set_cons_zero, List.set_cons_succ]
                    clear hHeld
                    have hHeld : S3q f w.heap.size v55 := ⟨(N55.1 _ (.tail _ (.tail _ (.tail _ (.tail _ (.tail _ (.tail _ (.tail _ (.tail _ (.tail _ (.tail _ (.tail _ (.tail _ (.head _)))))))))))))).cell 0, (N55.1 _ (.tail _ (.tail _ (.tail _ (.tail _ (.tail _ (.tail _ (.tail _ (.tail _ (.tail _ (.tail _ (.tail _ (.tail _ (.head _)))))))))))))).cell 1, (N55.1 _ (.tail _ (.tail _ (.tail _ (.tail _ (.tail _ (.tail _ (.tail _ (.tail _ (.tail _ (.tail _ (.tail _ (.tail _ (.head _)))))))))))))).cell 2⟩
                    refine wpAnyG_take (i := 5) (v := ?v5x56) rfl (by kernel_rfl) (fun _ _ _ h => h) (Or.inl ⟨by rfl, ?y5x56⟩) hHeld ?r5x56
                    case y5x56 => (intro wS hSw; obtain ⟨s1, s2, s3⟩ := hSw; go_simp; try with_reducible rfl)
                    try simp only [Act.put, List.setIfInBounds_toArray, List.set_cons_zero, List.set_cons_succ]
                    refine wpAnyG_take (i := 6) (v := ?v6x57) rfl (by kernel_rfl) (fun _ _ _ h => h) (Or.inl ⟨by rfl, ?y6x57⟩) hHeld ?r6x57
                    case y6x57 => (intro wS hSw; obtain ⟨s1, s2, s3⟩ := hSw; go_simp; try with_reducible rfl)
                    try simp only [Act.put, List.setIfInBounds_toArray, List.set_cons_zero, List.set_cons_succ]
                    refine wpAnyG_take (i := 7) (v := ?v7x58) rfl (by kernel_rfl) (fun _ _ _ h => h) (Or.inl ⟨by rfl, ?y7x58⟩) hHeld ?r7x58
                    case y7x58 => (intro wS hSw; obtain ⟨s1, s2, s3⟩ := hSw; go_simp; try with_reducible rfl)
                    try simp only [Act.put, List.setIfInBounds_toArray, List.set_cons_zero, List.set_cons_succ]
                    have E56 : Cl p48 [.int .i64 0, .int .i64 0, .int .i64 0] 32 v55 := N55.1 _ (.tail _ (.head _))
                    have ne56 : ∀ x ∈ [(p54, [.int .i64 0, .int .i64 0], 24), (w9.heap.size, k.l, 32), (w9.heap.size + 1, [.int .i64 0, .int .i64 0], 24), (w8.heap.size, d.l, 32), (w8.heap.size + 1, [.int .i64 0, .int .i64 0], 24), (w7.heap.size, c.l, 32), (w7.heap.size + 1, [.int .i64 0, .int .i64 0], 24), (w6.heap.size, b.l, 32), (w6.heap.size + 1, [.int .i64 0, .int .i64 0], 24), (w2.heap.size, a.l, 32), (w2.heap.size + 1, [.int .i64 0, .int .i64 0], 24), (w.heap.size, f.l, 32), (w.heap.size + 1, g.l, 32), (w.heap.size + 1 + 1, h.l, 32)], x.1 ≠ p48 := by
                      intro x hx
                      simp only [List.mem_cons, List.not_mem_nil, or_false] at hx
                      rcases hx with rfl | hx
                      · have := L54 _ (.head _); omega
                      · have := L48 x (by simp only [List.mem_cons, List.not_mem_nil, or_false]; exact hx); omega
                    have T56 := (N55.mono (l' := [(p54, [.int .i64 0, .int .i64 0], 24), (w9.heap.size, k.l, 32), (w9.heap.size + 1, [.int .i64 0, .int .i64 0], 24), (w8.heap.size, d.l, 32), (w8.heap.size + 1, [.int .i64 0, .int .i64 0], 24), (w7.heap.size, c.l, 32), (w7.heap.size + 1, [.int .i64 0, .int .i64 0], 24), (w6.heap.size, b.l, 32), (w6.heap.size + 1, [.int .i64 0, .int .i64 0], 24), (w2.heap.size, a.l, 32), (w2.heap.size + 1, [.int .i64 0, .int .i64 0], 24), (w.heap.size, f.l, 32), (w.heap.size + 1, g.l, 32), (w.heap.size + 1 + 1, h.l, 32)]) (fun x hx => by simp only [List.mem_cons, List.not_mem_nil, or_false] at hx ⊢; rcases hx with hx | hx; exact .inl hx; exact .inr (.inr hx))).set3 E56 ne56 S48 (.int .i64 t.a) (.int .i64 t.b) (.int .i64 t.c)
                    have c560 := E56.cell 0
                    have f560 := E56.frozen 0
                    have c561 := E56.cell 1
                    have f561 := E56.frozen 1
                    have c562 := E56.cell 2
                    have f562 := E56.frozen 2
                    have l56 := E56.lt
                    simp at c560 c561 c562
                    refine wpAnyG_one (i := 10) rfl (by kernel_rfl) (fun K hK => ?_)
                    go_simp
                    refine hK.out _ _ ⟨(T56.1 _ (.tail _ (.tail _ (.tail _ (.tail _ (.tail _ (.tail _ (.tail _ (.tail _ (.tail _ (.tail _ (.tail _ (.tail _ (.head _)))))))))))))).cell 0, (T56.1 _ (.tail _ (.tail _ (.tail _ (.tail _ (.tail _ (.tail _ (.tail _ (.tail _ (.tail _ (.tail _ (.tail _ (.tail _ (.head _)))))))))))))).cell 1, (T56.1 _ (.tail _ (.tail _ (.tail _ (.tail _ (.tail _ (.tail _ (.tail _ (.tail _ (.tail _ (.tail _ (.tail _ (.tail _ (.head _)))))))))))))).cell 2⟩ ?_
                    clear hK K
                    try simp only [Act.put, List.setIfInBounds_toArray, List.set_cons_zero, List.set_cons_succ]
                    generalize hx56 : World.setCell _ _ _ = x56
                    rw [hx56] at T56
                    clear hx56 c560 f560 c561 f561 c562 f562 l56
                    have U56 : Cl p54 [.int .i64 0, .int .i64 0] 24 x56 := T56.1 _ (.tail _ (.head _))
                    have c560 := U56.cell 0
                    have f560 := U56.frozen 0
                    have c561 := U56.cell 1
                    have f561 := U56.frozen 1
                    have l56 := U56.lt
                    simp at c560 c561
                    have me56 : ∀ x ∈ [(p48, t.l, 32), (w9.heap.size, k.l, 32), (w9.heap.size + 1, [.int .i64 0, .int .i64 0], 24), (w8.heap.size, d.l, 32), (w8.heap.size + 1, [.int .i64 0, .int .i64 0], 24), (w7.heap.size, c.l, 32), (w7.heap.size + 1, [.int .i64 0, .int .i64 0], 24), (w6.heap.size, b.l, 32), (w6.heap.size + 1, [.int .i64 0, .int .i64 0], 24), (w2.heap.size, a.l, 32), (w2.heap.size + 1, [.int .i64 0, .int .i64 0], 24), (w.heap.size, f.l, 32), (w.heap.size + 1, g.l, 32), (w.heap.size + 1 + 1, h.l, 32)], x.1 ≠ p54 := by
                      intro x hx
                      simp only [List.mem_cons, List.not_mem_nil, or_false] at hx
                      rcases hx with rfl | hx
                      · have := L54 _ (.head _); omega
                      · have := L54 x (by simp only [List.mem_cons, List.not_mem_nil, or_false]; exact .inr hx); omega
                    have V56 := (T56.mono (l' := [(p48, t.l, 32), (w9.heap.size, k.l, 32), (w9.heap.size + 1, [.int .i64 0, .int .i64 0], 24), (w8.heap.size, d.l, 32), (w8.heap.size + 1, [.int .i64 0, .int .i64 0], 24), (w7.heap.size, c.l, 32), (w7.heap.size + 1, [.int .i64 0, .int .i64 0], 24), (w6.heap.size, b.l, 32), (w6.heap.size + 1, [.int .i64 0, .int .i64 0], 24), (w2.heap.size, a.l, 32), (w2.heap.size + 1, [.int .i64 0, .int .i64 0], 24), (w.heap.size, f.l, 32), (w.heap.size + 1, g.l, 32), (w.heap.size + 1 + 1, h.l, 32)]) (fun x hx => by simp only [List.mem_cons, List.not_mem_nil, or_false] at hx ⊢; rcases hx with hx | hx; exact .inl hx; exact .inr (.inr hx))).set2 U56 me56 S54 (.int .i64 0) (.int .i64 0)
                    refine wpAnyG_last (i := 11) rfl (by kernel_rfl) (by kernel_rfl) (fun K hK => ?_)
                    go_simp
                    refine hK.out _ _ ?_
                    clear hK K
                    try simp only [Act.put, List.setIfInBounds_toArray, List.set_cons_zero, List.set_cons_succ]
                    refine wpAnyG_done (by kernel_rfl) ?_ _
                    generalize hx56 : World.setCell _ _ _ = y56
                    rw [hx56] at V56
                    clear hx56
                    go_wp2
                    go_meet
                    exact ⟨_, _, rfl, rfl, t, ht.1, V56.mono (fun x hx => by simp only [List.mem_cons, List.not_mem_nil, or_false] at hx ⊢; rcases hx with hx | hx | hx; exact .inr (.inl hx); exact .inl hx; exact .inr (.inr hx))⟩
                · go_simp
                  obtain ⟨p57, hp57⟩ : ∃ p, p = v49.heap.size := ⟨_, rfl⟩
                  have L57 := N49.lt
                  have S57 := N49.2.size
                  have N57 := N49.new [.int .i64 0, .int .i64 0] 24
                  rw [← hp57] at L57 S57 N57
                  refine hK.out _ _ ⟨(N57.1 _ (.tail _ (.tail _ (.tail _ (.tail _ (.tail _ (.tail _ (.tail _ (.tail _ (.tail _ (.tail _ (.tail _ (.tail _ (.head _)))))))))))))).cell 0, (N57.1 _ (.tail _ (.tail _ (.tail _ (.tail _ (.tail _ (.tail _ (.tail _ (.tail _ (.tail _ (.tail _ (.tail _ (.tail _ (.head _)))))))))))))).cell 1, (N57.1 _ (.tail _ (.tail _ (.tail _ (.tail _ (.tail _ (.tail _ (.tail _ (.tail _ (.tail _ (.tail _ (.tail _ (.tail _ (.head _)))))))))))))).cell 2⟩ ?_
                  clear hK K
                  try simp only [Act.put, List.setIfInBounds_toArray, List.set_cons_zero, List.set_cons_succ]
                  generalize hv57 : World.alloc _ _ = v57
                  rw [← hp57]
                  rw [show v49.alloc (.cells #[.int .i64 0, .int .i64 0] 24) = v57 from hv57] at N57
                  clear hv57 hp57
                  refine wpAnyG_one (i := 3) rfl (by kernel_rfl) (fun K hK => ?_)
                  go_simp
                  refine (HFi.out _).mono ?_
                  rintro e v58 ⟨rfl, kv58⟩
                  have N58 := N57.below kv58
                  refine hK.out _ _ ⟨(N58.1 _ (.tail _ (.tail _ (.tail _ (.tail _ (.tail _ (.tail _ (.tail _ (.tail _ (.tail _ (.tail _ (.tail _ (.tail _ (.head _)))))))))))))).cell 0, (N58.1 _ (.tail _ (.tail _ (.tail _ (.tail _ (.tail _ (.tail _ (.tail _ (.tail _ (.tail _ (.tail _ (.tail _ (.tail _ (.head _)))))))))))))).cell 1, (N58.1 _ (.tail _ (.tail _ (.tail _ (.tail _ (.tail _ (.tail _ (.tail _ (.tail _ (.tail _ (.tail _ (.tail _ (.tail _ (.head _)))))))))))))).cell 2⟩ ?_
                  clear hK K
                  try simp only [Act.put, List.setIfInBounds_toArray, List.set_cons_zero, List.set_cons_succ]
                  refine wpAnyG_one (i := 4) rfl (by kernel_rfl) (fun K hK => ?_)
                  go_simp
                  refine (HCt.out _).mono ?_
                  rintro e v59 ⟨t, rfl, ht, kv59⟩
                  have N59 := N58.below kv59
                  refine hK.out _ _ ⟨(N59.1 _ (.tail _ (.tail _ (.tail _ (.tail _ (.tail _ (.tail _ (.tail _ (.tail _ (.tail _ (.tail _ (.tail _ (.tail _ (.head _)))))))))))))).cell 0, (N59.1 _ (.tail _ (.tail _ (.tail _ (.tail _ (.tail _ (.tail _ (.tail _ (.tail _ (.tail _ (.tail _ (.tail _ (.tail _ (.head _)))))))))))))).cell 1, (N59.1 _ (.tail _ (.tail _ (.tail _ (.tail _ (.tail _ (.tail _ (.tail _ (.tail _ (.tail _ (.tail _ (.tail _ (.tail _ (.head _)))))))))))))).cell 2⟩ ?_
                  clear hK K
                  try simp only [Act.put, List.setIfInBounds_toArray, List.set_cons_zero, List.set_cons_succ]
                  clear hHeld
                  have hHeld : S3q f w.heap.size v59 := ⟨(N59.1 _ (.tail _ (.tail _ (.tail _ (.tail _ (.tail _ (.tail _ (.tail _ (.tail _ (.tail _ (.tail _ (.tail _ (.tail _ (.head _)))))))))))))).cell 0, (N59.1 _ (.tail _ (.tail _ (.tail _ (.tail _ (.tail _ (.tail _ (.tail _ (.tail _ (.tail _ (.tail _ (.tail _ (.tail _ (.head _)))))))))))))).cell 1, (N59.1 _ (.tail _ (.tail _ (.tail _ (.tail _ (.tail _ (.tail _ (.tail _ (.tail _ (.tail _ (.tail _ (.tail _ (.tail _ (.head _)))))))))))))).cell 2⟩
                  refine wpAnyG_take (i := 5) (v := ?v5x59) rfl (by kernel_rfl) (fun _ _ _ h => h) (Or.inl ⟨by rfl, ?y5x59⟩) hHeld ?r5x59
                  case y5x59 => (intro wS hSw; obtain ⟨s1, s2, s3⟩ := hSw; go_simp; try with_reducible rfl)
                  try simp only [Act.put, List.setIfInBounds_toArray, List.set_cons_zero, List.set_cons_succ]
                  refine wpAnyG_take (i := 6) (v := ?v6x60) rfl (by kernel_rfl) (fun _ _ _ h => h) (Or.inl ⟨by rfl, ?y6x60⟩) hHeld ?r6x60
                  case y6x60 => (intro wS hSw; obtain ⟨s1, s2, s3⟩ := hSw; go_simp; try with_reducible rfl)
                  try simp only [Act.put, List.setIfInBounds_toArray, List.set_cons_zero, List.set_cons_succ]
                  refine wpAnyG_take (i := 7) (v := ?v7x61) rfl (by kernel_rfl) (fun _ _ _ h => h) (Or.inl ⟨by rfl, ?y7x61⟩) hHeld ?r7x61
                  case y7x61 => (intro wS hSw; obtain ⟨s1, s2, s3⟩ := hSw; go_simp; try with_reducible rfl)
                  try simp only [Act.put, List.setIfInBounds_toArray, List.set_cons_zero, List.set_cons_succ]
                  have E60 : Cl p48 [.int .i64 0, .int .i64 0, .int .i64 0] 32 v59 := N59.1 _ (.tail _ (.head _))
                  have ne60 : ∀ x ∈ [(p57, [.int .i64 0, .int .i64 0], 24), (w9.heap.size, k.l, 32), (w9.heap.size + 1, [.int .i64 0, .int .i64 0], 24), (w8.heap.size, d.l, 32), (w8.heap.size + 1, [.int .i64 0, .int .i64 0], 24), (w7.heap.size, c.l, 32), (w7.heap.size + 1, [.int .i64 0, .int .i64 0], 24), (w6.heap.size, b.l, 32), (w6.heap.size + 1, [.int .i64 0, .int .i64 0], 24), (w2.heap.size, a.l, 32), (w2.heap.size + 1, [.int .i64 0, .int .i64 0], 24), (w.heap.size, f.l, 32), (w.heap.size + 1, g.l, 32), (w.heap.size + 1 + 1, h.l, 32)], x.1 ≠ p48 := by
                    intro x hx
                    simp only [List.mem_cons, List.not_mem_nil, or_false] at hx
                    rcases hx with rfl | hx
                    · have := L57 _ (.head _); omega
                    · have := L48 x (by simp only [List.mem_cons, List.not_mem_nil, or_false]; exact hx); omega
                  have T60 := (N59.mono (l' := [(p57, [.int .i64 0, .int .i64 0], 24), (w9.heap.size, k.l, 32), (w9.heap.size + 1, [.int .i64 0, .int .i64 0], 24), (w8.heap.size, d.l, 32), (w8.heap.size + 1, [.int .i64 0, .int .i64 0], 24), (w7.heap.size, c.l, 32), (w7.heap.size + 1, [.int .i64 0, .int .i64 0], 24), (w6.heap.size, b.l, 32), (w6.heap.size + 1, [.int .i64 0, .int .i64 0], 24), (w2.heap.size, a.l, 32), (w2.heap.size + 1, [.int .i64 0, .int .i64 0], 24), (w.heap.size, f.l, 32), (w.heap.size + 1, g.l, 32), (w.heap.size + 1 + 1, h.l, 32)]) (fun x hx => by simp only [List.mem_cons, List.not_mem_nil, or_false] at hx ⊢; rcases hx with hx | hx; exact .inl hx; exact .inr (.inr hx))).set3 E60 ne60 S48 (.int .i64 t.a) (.int .i64 t.b) (.int .i64 t.c)
                  have c600 := E60.cell 0
                  have f600 := E60.frozen 0
                  have c601 := E60.cell 1
                  have f601 := E60.frozen 1
                  have c602 := E60.cell 2
                  have f602 := E60.frozen 2
                  have l60 := E60.lt
                  simp at c600 c601 c602
                  refine wpAnyG_one (i := 10) rfl (by kernel_rfl) (fun K hK => ?_)
                  go_simp
                  refine hK.out _ _ ⟨(T60.1 _ (.tail _ (.tail _ (.tail _ (.tail _ (.tail _ (.tail _ (.tail _ (.tail _ (.tail _ (.tail _ (.tail _ (.tail _ (.head _)))))))))))))).cell 0, (T60.1 _ (.tail _ (.tail _ (.tail _ (.tail _ (.tail _ (.tail _ (.tail _ (.tail _ (.tail _ (.tail _ (.tail _ (.tail _ (.head _)))))))))))))).cell 1, (T60.1 _ (.tail _ (.tail _ (.tail _ (.tail _ (.tail _ (.tail _ (.tail _ (.tail _ (.tail _ (.tail _ (.tail _ (.tail _ (.head _)))))))))))))).cell 2⟩ ?_
                  clear hK K
                  try simp only [Act.put, List.setIfInBounds_toArray, List.set_cons_zero, List.set_cons_succ]
                  generalize hx60 : World.setCell _ _ _ = x60
                  rw [hx60] at T60
                  clear hx60 c600 f600 c601 f601 c602 f602 l60
                  have U60 : Cl p57 [.int .i64 0, .int .i64 0] 24 x60 := T60.1 _ (.tail _ (.head _))
                  have c600 := U60.cell 0
                  have f600 := U60.frozen 0
                  have c601 := U60.cell 1
                  have f601 := U60.frozen 1
                  have l60 := U60.lt
                  simp at c600 c601
                  have me60 : ∀ x ∈ [(p48, t.l, 32), (w9.heap.size, k.l, 32), (w9.heap.size + 1, [.int .i64 0, .int .i64 0], 24), (w8.heap.size, d.l, 32), (w8.heap.size + 1, [.int .i64 0, .int .i64 0], 24), (w7.heap.size, c.l, 32), (w7.heap.size + 1, [.int .i64 0, .int .i64 0], 24), (w6.heap.size, b.l, 32), (w6.heap.size + 1, [.int .i64 0, .int .i64 0], 24), (w2.heap.size, a.l, 32), (w2.heap.size + 1, [.int .i64 0, .int .i64 0], 24), (w.heap.size, f.l, 32), (w.heap.size + 1, g.l, 32), (w.heap.size + 1 + 1, h.l, 32)], x.1 ≠ p57 := by
                    intro x hx
                    simp only [List.mem_cons, List.not_mem_nil, or_false] at hx
                    rcases hx with rfl | hx
                    · have := L57 _ (.head _); omega
                    · have := L57 x (by simp only [List.mem_cons, List.not_mem_nil, or_false]; exact .inr hx); omega
                  have V60 := (T60.mono (l' := [(p48, t.l, 32), (w9.heap.size, k.l, 32), (w9.heap.size + 1, [.int .i64 0, .int .i64 0], 24), (w8.heap.size, d.l, 32), (w8.heap.size + 1, [.int .i64 0, .int .i64 0], 24), (w7.heap.size, c.l, 32), (w7.heap.size + 1, [.int .i64 0, .int .i64 0], 24), (w6.heap.size, b.l, 32), (w6.heap.size + 1, [.int .i64 0, .int .i64 0], 24), (w2.heap.size, a.l, 32), (w2.heap.size + 1, [.int .i64 0, .int .i64 0], 24), (w.heap.size, f.l, 32), (w.heap.size + 1, g.l, 32), (w.heap.size + 1 + 1, h.l, 32)]) (fun x hx => by simp only [List.mem_cons, List.not_mem_nil, or_false] at hx ⊢; rcases hx with hx | hx; exact .inl hx; exact .inr (.inr hx))).set2 U60 me60 S57 (.int .i64 0) (.int .i64 0)
                  refine wpAnyG_last (i := 11) rfl (by kernel_rfl) (by kernel_rfl) (fun K hK => ?_)
                  go_simp
                  refine hK.out _ _ ?_
                  clear hK K
                  try simp only [Act.put, List.setIfInBounds_toArray, List.set_cons_zero, List.set_cons_succ]
                  refine wpAnyG_done (by kernel_rfl) ?_ _
                  generalize hx60 : World.setCell _ _ _ = y60
                  rw [hx60] at V60
                  clear hx60
                  go_wp2
                  go_meet
                  exact ⟨_, _, rfl, rfl, t, ht.1, V60.mono (fun x hx => by simp only [List.mem_cons, List.not_mem_nil, or_false] at hx ⊢; rcases hx with hx | hx | hx; exact .inr (.inl hx); exact .inl hx; exact .inr (.inr hx))⟩
              · go_simp
                obtain ⟨p61, hp61⟩ : ∃ p, p = v48.heap.size := ⟨_, rfl⟩
                have L61 := N48.lt
                have S61 := N48.2.size
                have N61 := N48.new [.int .i64 0, .int .i64 0] 24
                rw [← hp61] at L61 S61 N61
                refine hK.out _ _ ⟨(N61.1 _ (.tail _ (.tail _ (.tail _ (.tail _ (.tail _ (.tail _ (.tail _ (.tail _ (.tail _ (.tail _ (.tail _ (.tail _ (.head _)))))))))))))).cell 0, (N61.1 _ (.tail _ (.tail _ (.tail _ (.tail _ (.tail _ (.tail _ (.tail _ (.tail _ (.tail _ (.tail _ (.tail _ (.tail _ (.head _)))))))))))))).cell 1, (N61.1 _ (.tail _ (.tail _ (.tail _ (.tail _ (.tail _ (.tail _ (.tail _ (.tail _ (.tail _ (.tail _ (.tail _ (.tail _ (.head _)))))))))))))).cell 2⟩ ?_
                clear hK K
                try simp only [Act.put, List.setIfInBounds_toArray, List.set_cons_zero, List.set_cons_succ]
                generalize hv61 : World.alloc _ _ = v61
                rw [← hp61]
                rw [show v48.alloc (.cells #[.int .i64 0, .int .i64 0] 24) = v61 from hv61] at N61
                clear hv61 hp61
                refine wpAnyG_one (i := 2) rfl (by kernel_rfl) (fun K hK => ?_)
                go_simp
                refine (HDf.out _).mono ?_
                rintro e v62 ⟨rfl, kv62⟩
                have N62 := N61.below kv62
                refine hK.out _ _ ⟨(N62.1 _ (.tail _ (.tail _ (.tail _ (.tail _ (.tail _ (.tail _ (.tail _ (.tail _ (.tail _ (.tail _ (.tail _ (.tail _ (.head _)))))))))))))).cell 0, (N62.1 _ (.tail _ (.tail _ (.tail _ (.tail _ (.tail _ (.tail _ (.tail _ (.tail _ (.tail _ (.tail _ (.tail _ (.tail _ (.head _)))))))))))))).cell 1, (N62.1 _ (.tail _ (.tail _ (.tail _ (.tail _ (.tail _ (.tail _ (.tail _ (.tail _ (.tail _ (.tail _ (.tail _ (.tail _ (.head _)))))))))))))).cell 2⟩ ?_
                clear hK K
                try simp only [Act.put, List.setIfInBounds_toArray, List.set_cons_zero, List.set_cons_succ]
                refine wpAnyG_one (i := 3) rfl (by kernel_rfl) (fun K hK => ?_)
                go_simp
                refine (HFi.out _).mono ?_
                rintro e v63 ⟨rfl, kv63⟩
                have N63 := N62.below kv63
                refine hK.out _ _ ⟨(N63.1 _ (.tail _ (.tail _ (.tail _ (.tail _ (.tail _ (.tail _ (.tail _ (.tail _ (.tail _ (.tail _ (.tail _ (.tail _ (.head _)))))))))))))).cell 0, (N63.1 _ (.tail _ (.tail _ (.tail _ (.tail _ (.tail _ (.tail _ (.tail _ (.tail _ (.tail _ (.tail _ (.tail _ (.tail _ (.head _)))))))))))))).cell 1, (N63.1 _ (.tail _ (.tail _ (.tail _ (.tail _ (.tail _ (.tail _ (.tail _ (.tail _ (.tail _ (.tail _ (.tail _ (.tail _ (.head _)))))))))))))).cell 2⟩ ?_
                clear hK K
                try simp only [Act.put, List.setIfInBounds_toArray, List.set_cons_zero, List.set_cons_succ]
                refine wpAnyG_one (i := 4) rfl (by kernel_rfl) (fun K hK => ?_)
                go_simp
                refine (HCt.out _).mono ?_
                rintro e v64 ⟨t, rfl, ht, kv64⟩
                have N64 := N63.below kv64
                refine hK.out _ _ ⟨(N64.1 _ (.tail _ (.tail _ (.tail _ (.tail _ (.tail _ (.tail _ (.tail _ (.tail _ (.tail _ (.tail _ (.tail _ (.tail _ (.head _)))))))))))))).cell 0, (N64.1 _ (.tail _ (.tail _ (.tail _ (.tail _ (.tail _ (.tail _ (.tail _ (.tail _ (.tail _ (.tail _ (.tail _ (.tail _ (.head _)))))))))))))).cell 1, (N64.1 _ (.tail _ (.tail _ (.tail _ (.tail _ (.tail _ (.tail _ (.tail _ (.tail _ (.tail _ (.tail _ (.tail _ (.tail _ (.head _)))))))))))))).cell 2⟩ ?_
                clear hK K
                try simp only [Act.put, List.setIfInBounds_toArray, List.set_cons_zero, List.set_cons_succ]
                clear hHeld
                have hHeld : S3q f w.heap.size v64 := ⟨(N64.1 _ (.tail _ (.tail _ (.tail _ (.tail _ (.tail _ (.tail _ (.tail _ (.tail _ (.tail _ (.tail _ (.tail _ (.tail _ (.head _)))))))))))))).cell 0, (N64.1 _ (.tail _ (.tail _ (.tail _ (.tail _ (.tail _ (.tail _ (.tail _ (.tail _ (.tail _ (.tail _ (.tail _ (.tail _ (.head _)))))))))))))).cell 1, (N64.1 _ (.tail _ (.tail _ (.tail _ (.tail _ (.tail _ (.tail _ (.tail _ (.tail _ (.tail _ (.tail _ (.tail _ (.tail _ (.head _)))))))))))))).cell 2⟩
                refine wpAnyG_take (i := 5) (v := ?v5x62) rfl (by kernel_rfl) (fun _ _ _ h => h) (Or.inl ⟨by rfl, ?y5x62⟩) hHeld ?r5x62
                case y5x62 => (intro wS hSw; obtain ⟨s1, s2, s3⟩ := hSw; go_simp; try with_reducible rfl)
                try simp only [Act.put, List.setIfInBounds_toArray, List.set_cons_zero, List.set_cons_succ]
                refine wpAnyG_take (i := 6) (v := ?v6x63) rfl (by kernel_rfl) (fun _ _ _ h => h) (Or.inl ⟨by rfl, ?y6x63⟩) hHeld ?r6x63
                case y6x63 => (intro wS hSw; obtain ⟨s1, s2, s3⟩ := hSw; go_simp; try with_reducible rfl)
                try simp only [Act.put, List.setIfInBounds_toArray, List.set_cons_zero, List.set_cons_succ]
                refine wpAnyG_take (i := 7) (v := ?v7x64) rfl (by kernel_rfl) (fun _ _ _ h => h) (Or.inl ⟨by rfl, ?y7x64⟩) hHeld ?r7x64
                case y7x64 => (intro wS hSw; obtain ⟨s1, s2, s3⟩ := hSw; go_simp; try with_reducible rfl)
                try simp only [Act.put, List.setIfInBounds_toArray, List.set_cons_zero, List.set_cons_succ]
                have E65 : Cl p48 [.int .i64 0, .int .i64 0, .int .i64 0] 32 v64 := N64.1 _ (.tail _ (.head _))
                have ne65 : ∀ x ∈ [(p61, [.int .i64 0, .int .i64 0], 24), (w9.heap.size, k.l, 32), (w9.heap.size + 1, [.int .i64 0, .int .i64 0], 24), (w8.heap.size, d.l, 32), (w8.heap.size + 1, [.int .i64 0, .int .i64 0], 24), (w7.heap.size, c.l, 32), (w7.heap.size + 1, [.int .i64 0, .int .i64 0], 24), (w6.heap.size, b.l, 32), (w6.heap.size + 1, [.int .i64 0, .int .i64 0], 24), (w2.heap.size, a.l, 32), (w2.heap.size + 1, [.int .i64 0, .int .i64 0], 24), (w.heap.size, f.l, 32), (w.heap.size + 1, g.l, 32), (w.heap.size + 1 + 1, h.l, 32)], x.1 ≠ p48 := by
                  intro x hx
                  simp only [List.mem_cons, List.not_mem_nil, or_false] at hx
                  rcases hx with rfl | hx
                  · have := L61 _ (.head _); omega
                  · have := L48 x (by simp only [List.mem_cons, List.not_mem_nil, or_false]; exact hx); omega
                have T65 := (N64.mono (l' := [(p61, [.int .i64 0, .int .i64 0], 24), (w9.heap.size, k.l, 32), (w9.heap.size + 1, [.int .i64 0, .int .i64 0], 24), (w8.heap.size, d.l, 32), (w8.heap.size + 1, [.int .i64 0, .int .i64 0], 24), (w7.heap.size, c.l, 32), (w7.heap.size + 1, [.int .i64 0, .int .i64 0], 24), (w6.heap.size, b.l, 32), (w6.heap.size + 1, [.int .i64 0, .int .i64 0], 24), (w2.heap.size, a.l, 32), (w2.heap.size + 1, [.int .i64 0, .int .i64 0], 24), (w.heap.size, f.l, 32), (w.heap.size + 1, g.l, 32), (w.heap.size + 1 + 1, h.l, 32)]) (fun x hx => by simp only [List.mem_cons, List.not_mem_nil, or_false] at hx ⊢; rcases hx with hx | hx; exact .inl hx; exact .inr (.inr hx))).set3 E65 ne65 S48 (.int .i64 t.a) (.int .i64 t.b) (.int .i64 t.c)
                have c650 := E65.cell 0
                have f650 := E65.frozen 0
                have c651 := E65.cell 1
                have f651 := E65.frozen 1
                have c652 := E65.cell 2
                have f652 := E65.frozen 2
                have l65 := E65.lt
                simp at c650 c651 c652
                refine wpAnyG_one (i := 10) rfl (by kernel_rfl) (fun K hK => ?_)
                go_simp
                refine hK.out _ _ ⟨(T65.1 _ (.tail _ (.tail _ (.tail _ (.tail _ (.tail _ (.tail _ (.tail _ (.tail _ (.tail _ (.tail _ (.tail _ (.tail _ (.head _)))))))))))))).cell 0, (T65.1 _ (.tail _ (.tail _ (.tail _ (.tail _ (.tail _ (.tail _ (.tail _ (.tail _ (.tail _ (.tail _ (.tail _ (.tail _ (.head _)))))))))))))).cell 1, (T65.1 _ (.tail _ (.tail _ (.tail _ (.tail _ (.tail _ (.tail _ (.tail _ (.tail _ (.tail _ (.tail _ (.tail _ (.tail _ (.head _)))))))))))))).cell 2⟩ ?_
                clear hK K
                try simp only [Act.put, List.setIfInBounds_toArray, List.set_cons_zero, List.set_cons_succ]
                generalize hx65 : World.setCell _ _ _ = x65
                rw [hx65] at T65
                clear hx65 c650 f650 c651 f651 c652 f652 l65
                have U65 : Cl p61 [.int .i64 0, .int .i64 0] 24 x65 := T65.1 _ (.tail _ (.head _))
                have c650 := U65.cell 0
                have f650 := U65.frozen 0
                have c651 := U65.cell 1
                have f651 := U65.frozen 1
                have l65 := U65.lt
                simp at c650 c651
                have me65 : ∀ x ∈ [(p48, t.l, 32), (w9.heap.size, k.l, 32), (w9.heap.size + 1, [.int .i64 0, .int .i64 0], 24), (w8.heap.size, d.l, 32), (w8.heap.size + 1, [.int .i64 0, .int .i64 0], 24), (w7.heap.size, c.l, 32), (w7.heap.size + 1, [.int .i64 0, .int .i64 0], 24), (w6.heap.size, b.l, 32), (w6.heap.size + 1, [.int .i64 0, .int .i64 0], 24), (w2.heap.size, a.l, 32), (w2.heap.size + 1, [.int .i64 0, .int .i64 0], 24), (w.heap.size, f.l, 32), (w.heap.size + 1, g.l, 32), (w.heap.size + 1 + 1, h.l, 32)], x.1 ≠ p61 := by
                  intro x hx
                  simp only [List.mem_cons, List.not_mem_nil, or_false] at hx
                  rcases hx with rfl | hx
                  · have := L61 _ (.head _); omega
                  · have := L61 x (by simp only [List.mem_cons, List.not_mem_nil, or_false]; exact .inr hx); omega
                have V65 := (T65.mono (l' := [(p48, t.l, 32), (w9.heap.size, k.l, 32), (w9.heap.size + 1, [.int .i64 0, .int .i64 0], 24), (w8.heap.size, d.l, 32), (w8.heap.size + 1, [.int .i64 0, .int .i64 0], 24), (w7.heap.size, c.l, 32), (w7.heap.size + 1, [.int .i64 0, .int .i64 0], 24), (w6.heap.size, b.l, 32), (w6.heap.size + 1, [.int .i64 0, .int .i64 0], 24), (w2.heap.size, a.l, 32), (w2.heap.size + 1, [.int .i64 0, .int .i64 0], 24), (w.heap.size, f.l, 32), (w.heap.size + 1, g.l, 32), (w.heap.size + 1 + 1, h.l, 32)]) (fun x hx => by simp only [List.mem_cons, List.not_mem_nil, or_false] at hx ⊢; rcases hx with hx | hx; exact .inl hx; exact .inr (.inr hx))).set2 U65 me65 S61 (.int .i64 0) (.int .i64 0)
                refine wpAnyG_last (i := 11) rfl (by kernel_rfl) (by kernel_rfl) (fun K hK => ?_)
                go_simp
                refine hK.out _ _ ?_
                clear hK K
                try simp only [Act.put, List.setIfInBounds_toArray, List.set_cons_zero, List.set_cons_succ]
                refine wpAnyG_done (by kernel_rfl) ?_ _
                generalize hx65 : World.setCell _ _ _ = y65
                rw [hx65] at V65
                clear hx65
                go_wp2
                go_meet
                exact ⟨_, _, rfl, rfl, t, ht.1, V65.mono (fun x hx => by simp only [List.mem_cons, List.not_mem_nil, or_false] at hx ⊢; rcases hx with hx | hx | hx; exact .inr (.inl hx); exact .inl hx; exact .inr (.inr hx))⟩
            · go_simp
              obtain ⟨p66, hp66⟩ : ∃ p, p = W9.drew.heap.size := ⟨_, rfl⟩
              have L66 := N0.lt
              have S66 := N0.2.size
              have N66 := N0.new [.int .i64 0, .int .i64 0] 24
              rw [← hp66] at L66 S66 N66
              refine hK.out _ _ ⟨(N66.1 _ (.tail _ (.tail _ (.tail _ (.tail _ (.tail _ (.tail _ (.tail _ (.tail _ (.tail _ (.tail _ (.tail _ (.head _))))))))))))).cell 0, (N66.1 _ (.tail _ (.tail _ (.tail _ (.tail _ (.tail _ (.tail _ (.tail _ (.tail _ (.tail _ (.tail _ (.tail _ (.head _))))))))))))).cell 1, (N66.1 _ (.tail _ (.tail _ (.tail _ (.tail _ (.tail _ (.tail _ (.tail _ (.tail _ (.tail _ (.tail _ (.tail _ (.head _))))))))))))).cell 2⟩ ?_
              clear hK K
              try simp only [Act.put, List.setIfInBounds_toArray, List.set_cons_zero, List.set_cons_succ]
              generalize hv66 : World.drew (World.alloc _ _) = v66
              try rw [show W9.heap.size = p66 from hp66.symm]
              rw [show W9.drew.alloc (.cells #[.int .i64 0, .int .i64 0] 24) = v66 from hv66] at N66
              clear hv66 hp66
              refine wpAnyG_two (i := 2) (j := 8) rfl rfl (by kernel_rfl) (fun K hK => ?_) (fun K hK => ?_)
              · go_simp
                refine (HDf.out _).mono ?_
                rintro e v67 ⟨rfl, kv67⟩
                have N67 := N66.below kv67
                refine hK.out _ _ ⟨(N67.1 _ (.tail _ (.tail _ (.tail _ (.tail _ (.tail _ (.tail _ (.tail _ (.tail _ (.tail _ (.tail _ (.tail _ (.head _))))))))))))).cell 0, (N67.1 _ (.tail _ (.tail _ (.tail _ (.tail _ (.tail _ (.tail _ (.tail _ (.tail _ (.tail _ (.tail _ (.tail _ (.head _))))))))))))).cell 1, (N67.1 _ (.tail _ (.tail _ (.tail _ (.tail _ (.tail _ (.tail _ (.tail _ (.tail _ (.tail _ (.tail _ (.tail _ (.head _))))))))))))).cell 2⟩ ?_
                clear hK K
                try simp only [Act.put, List.setIfInBounds_toArray, List.set_cons_zero, List.set_cons_succ]
                refine wpAnyG_two (i := 3) (j := 8) rfl rfl (by kernel_rfl) (fun K hK => ?_) (fun K hK => ?_)
                · go_simp
                  refine (HFi.out _).mono ?_
                  rintro e v68 ⟨rfl, kv68⟩
                  have N68 := N67.below kv68
                  refine hK.out _ _ ⟨(N68.1 _ (.tail _ (.tail _ (.tail _ (.tail _ (.tail _ (.tail _ (.tail _ (.tail _ (.tail _ (.tail _ (.tail _ (.head _))))))))))))).cell 0, (N68.1 _ (.tail _ (.tail _ (.tail _ (.tail _ (.tail _ (.tail _ (.tail _ (.tail _ (.tail _ (.tail _ (.tail _ (.head _))))))))))))).cell 1, (N68.1 _ (.tail _ (.tail _ (.tail _ (.tail _ (.tail _ (.tail _ (.tail _ (.tail _ (.tail _ (.tail _ (.tail _ (.head _))))))))))))).cell 2⟩ ?_
                  clear hK K
                  try simp only [Act.put, List.setIfInBounds_toArray, List.set_cons_zero, List.set_cons_succ]
                  refine wpAnyG_two (i := 4) (j := 8) rfl rfl (by kernel_rfl) (fun K hK => ?_) (fun K hK => ?_)
                  · go_simp
                    refine (HCt.out _).mono ?_
                    rintro e v69 ⟨t, rfl, ht, kv69⟩
                    have N69 := N68.below kv69
                    refine hK.out _ _ ⟨(N69.1 _ (.tail _ (.tail _ (.tail _ (.tail _ (.tail _ (.tail _ (.tail _ (.tail _ (.tail _ (.tail _ (.tail _ (.head _))))))))))))).cell 0, (N69.1 _ (.tail _ (.tail _ (.tail _ (.tail _ (.tail _ (.tail _ (.tail _ (.tail _ (.tail _ (.tail _ (.tail _ (.head _))))))))))))).cell 1, (N69.1 _ (.tail _ (.tail _ (.tail _ (.tail _ (.tail _ (.tail _ (.tail _ (.tail _ (.tail _ (.tail _ (.tail _ (.head _))))))))))))).cell 2⟩ ?_
                    clear hK K
                    try simp only [Act.put, List.setIfInBounds_toArray, List.set_cons_zero, List.set_cons_succ]
                    clear hHeld
                    have hHeld : S3q f w.heap.size v69 := ⟨(N69.1 _ (.tail _ (.tail _ (.tail _ (.tail _ (.tail _ (.tail _ (.tail _ (.tail _ (.tail _ (.tail _ (.tail _ (.head _))))))))))))).cell 0, (N69.1 _ (.tail _ (.tail _ (.tail _ (.tail _ (.tail _ (.tail _ (.tail _ (.tail _ (.tail _ (.tail _ (.tail _ (.head _))))))))))))).cell 1, (N69.1 _ (.tail _ (.tail _ (.tail _ (.tail _ (.tail _ (.tail _ (.tail _ (.tail _ (.tail _ (.tail _ (.tail _ (.head _))))))))))))).cell 2⟩
                    refine wpAnyG_take (i := 5) (v := ?v5x65) rfl (by kernel_rfl) (fun _ _ _ h => h) (Or.inl ⟨by rfl, ?y5x65⟩) hHeld ?r5x65
                    case y5x65 => (intro wS hSw; obtain ⟨s1, s2, s3⟩ := hSw; go_simp; try with_reducible rfl)
                    try simp only [Act.put, List.setIfInBounds_toArray, List.set_cons_zero, List.set_cons_succ]
                    refine wpAnyG_take (i := 6) (v := ?v6x66) rfl (by kernel_rfl) (fun _ _ _ h => h) (Or.inl ⟨by rfl, ?y6x66⟩) hHeld ?r6x66
                    case y6x66 => (intro wS hSw; obtain ⟨s1, s2, s3⟩ := hSw; go_simp; try with_reducible rfl)
                    try simp only [Act.put, List.setIfInBounds_toArray, List.set_cons_zero, List.set_cons_succ]
                    refine wpAnyG_take (i := 7) (v := ?v7x67) rfl (by kernel_rfl) (fun _ _ _ h => h) (Or.inl ⟨by rfl, ?y7x67⟩) hHeld ?r7x67
                    case y7x67 => (intro wS hSw; obtain ⟨s1, s2, s3⟩ := hSw; go_simp; try with_reducible rfl)
                    try simp only [Act.put, List.setIfInBounds_toArray, List.set_cons_zero, List.set_cons_succ]
                    refine wpAnyG_one (i := 8) rfl (by kernel_rfl) (fun K hK => ?_)
                    go_simp
                    obtain ⟨p70, hp70⟩ : ∃ p, p = v69.heap.size := ⟨_, rfl⟩
                    have L70 := N69.lt
                    have S70 := N69.2.size
                    have N70 := N69.new [.int .i64 0, .int .i64 0, .int .i64 0] 32
                    rw [← hp70] at L70 S70 N70
                    refine hK.out _ _ ⟨(N70.1 _ (.tail _ (.tail _ (.tail _ (.tail _ (.tail _ (.tail _ (.tail _ (.tail _ (.tail _ (.tail _ (.tail _ (.tail _ (.head _)))))))))))))).cell 0, (N70.1 _ (.tail _ (.tail _ (.tail _ (.tail _ (.tail _ (.tail _ (.tail _ (.tail _ (.tail _ (.tail _ (.tail _ (.tail _ (.head _)))))))))))))).cell 1, (N70.1 _ (.tail _ (.tail _ (.tail _ (.tail _ (.tail _ (.tail _ (.tail _ (.tail _ (.tail _ (.tail _ (.tail _ (.tail _ (.head _)))))))))))))).cell 2⟩ ?_
                    clear hK K
                    try simp only [Act.put, List.setIfInBounds_toArray, List.set_cons_zero, List.set_cons_succ]
                    generalize hv70 : World.alloc _ _ = v70
                    rw [← hp70]
                    rw [show v69.alloc (.cells #[.int .i64 0, .int .i64 0, .int .i64 0] 32) = v70 from hv70] at N70
                    clear hv70 hp70
                    have E71 : Cl p70 [.int .i64 0, .int .i64 0, .int .i64 0] 32 v70 := N70.1 _ (.head _)
                    have ne71 : ∀ x ∈ [(p66, [.int .i64 0, .int .i64 0], 24), (w9.heap.size, k.l, 32), (w9.heap.size + 1, [.int .i64 0, .int .i64 0], 24), (w8.heap.size, d.l, 32), (w8.heap.size + 1, [.int .i64 0, .int .i64 0], 24), (w7.heap.size, c.l, 32), (w7.heap.size + 1, [.int .i64 0, .int .i64 0], 24), (w6.heap.size, b.l, 32), (w6.heap.size + 1, [.int .i64 0, .int .i64 0], 24), (w2.heap.size, a.l, 32), (w2.heap.size + 1, [.int .i64 0, .int .i64 0], 24), (w.heap.size, f.l, 32), (w.heap.size + 1, g.l, 32), (w.heap.size + 1 + 1, h.l, 32)], x.1 ≠ p70 := by
                      intro x hx
                      simp only [List.mem_cons, List.not_mem_nil, or_false] at hx
                      rcases hx with rfl | hx
                      · have := L70 _ (.head _); omega
                      · have := L70 x (by simp only [List.mem_cons, List.not_mem_nil, or_false]; exact .inr hx); omega
                    have T71 := (N70.mono (l' := [(p66, [.int .i64 0, .int .i64 0], 24), (w9.heap.size, k.l, 32), (w9.heap.size + 1, [.int .i64 0, .int .i64 0], 24), (w8.heap.size, d.l, 32), (w8.heap.size + 1, [.int .i64 0, .int .i64 0], 24), (w7.heap.size, c.l, 32), (w7.heap.size + 1, [.int .i64 0, .int .i64 0], 24), (w6.heap.size, b.l, 32), (w6.heap.size + 1, [.int .i64 0, .int .i64 0], 24), (w2.heap.size, a.l, 32), (w2.heap.size + 1, [.int .i64 0, .int .i64 0], 24), (w.heap.size, f.l, 32), (w.heap.size + 1, g.l, 32), (w.heap.size + 1 + 1, h.l, 32)]) (fun x hx => by simp only [List.mem_cons, List.not_mem_nil, or_false] at hx ⊢; exact .inr hx)).set3 E71 ne71 S70 (.int .i64 t.a) (.int .i64 t.b) (.int .i64 t.c)
                    have c710 := E71.cell 0
                    have f710 := E71.frozen 0
                    have c711 := E71.cell 1
                    have f711 := E71.frozen 1
                    have c712 := E71.cell 2
                    have f712 := E71.frozen 2
                    have l71 := E71.lt
                    simp at c710 c711 c712
                    refine wpAnyG_one (i := 10) rfl (by kernel_rfl) (fun K hK => ?_)
                    go_simp
                    refine hK.out _ _ ⟨(T71.1 _ (.tail _ (.tail _ (.tail _ (.tail _ (.tail _ (.tail _ (.tail _ (.tail _ (.tail _ (.tail _ (.tail _ (.tail _ (.head _)))))))))))))).cell 0, (T71.1 _ (.tail _ (.tail _ (.tail _ (.tail _ (.tail _ (.tail _ (.tail _ (.tail _ (.tail _ (.tail _ (.tail _ (.tail _ (.head _)))))))))))))).cell 1, (T71.1 _ (.tail _ (.tail _ (.tail _ (.tail _ (.tail _ (.tail _ (.tail _ (.tail _ (.tail _ (.tail _ (.tail _ (.tail _ (.head _)))))))))))))).cell 2⟩ ?_
                    clear hK K
                    try simp only [Act.put, List.setIfInBounds_toArray, List.set_cons_zero, List.set_cons_succ]
                    generalize hx71 : World.setCell _ _ _ = x71
                    rw [hx71] at T71
                    clear hx71 c710 f710 c711 f711 c712 f712 l71
                    have U71 : Cl p66 [.int .i64 0, .int .i64 0] 24 x71 := T71.1 _ (.tail _ (.head _))
                    have c710 := U71.cell 0
                    have f710 := U71.frozen 0
                    have c711 := U71.cell 1
                    have f711 := U71.frozen 1
                    have l71 := U71.lt
                    simp at c710 c711
                    have me71 : ∀ x ∈ [(p70, t.l, 32), (w9.heap.size, k.l, 32), (w9.heap.size + 1, [.int .i64 0, .int .i64 0], 24), (w8.heap.size, d.l, 32), (w8.heap.size + 1, [.int .i64 0, .int .i64 0], 24), (w7.heap.size, c.l, 32), (w7.heap.size + 1, [.int .i64 0, .int .i64 0], 24), (w6.heap.size, b.l, 32), (w6.heap.size + 1, [.int .i64 0, .int .i64 0], 24), (w2.heap.size, a.l, 32), (w2.heap.size + 1, [.int .i64 0, .int .i64 0], 24), (w.heap.size, f.l, 32), (w.heap.size + 1, g.l, 32), (w.heap.size + 1 + 1, h.l, 32)], x.1 ≠ p66 := by
                      intro x hx
                      simp only [List.mem_cons, List.not_mem_nil, or_false] at hx
                      rcases hx with rfl | hx
                      · have := L70 _ (.head _); omega
                      · have := L66 x (by simp only [List.mem_cons, List.not_mem_nil, or_false]; exact hx); omega
                    have V71 := (T71.mono (l' := [(p70, t.l, 32), (w9.heap.size, k.l, 32), (w9.heap.size + 1, [.int .i64 0, .int .i64 0], 24), (w8.heap.size, d.l, 32), (w8.heap.size + 1, [.int .i64 0, .int .i64 0], 24), (w7.heap.size, c.l, 32), (w7.heap.size + 1, [.int .i64 0, .int .i64 0], 24), (w6.heap.size, b.l, 32), (w6.heap.size + 1, [.int .i64 0, .int .i64 0], 24), (w2.heap.size, a.l, 32), (w2.heap.size + 1, [.int .i64 0, .int .i64 0], 24), (w.heap.size, f.l, 32), (w.heap.size + 1, g.l, 32), (w.heap.size + 1 + 1, h.l, 32)]) (fun x hx => by simp only [List.mem_cons, List.not_mem_nil, or_false] at hx ⊢; rcases hx with hx | hx; exact .inl hx; exact .inr (.inr hx))).set2 U71 me71 S66 (.int .i64 0) (.int .i64 0)
                    refine wpAnyG_last (i := 11) rfl (by kernel_rfl) (by kernel_rfl) (fun K hK => ?_)
                    go_simp
                    refine hK.out _ _ ?_
                    clear hK K
                    try simp only [Act.put, List.setIfInBounds_toArray, List.set_cons_zero, List.set_cons_succ]
                    refine wpAnyG_done (by kernel_rfl) ?_ _
                    generalize hx71 : World.setCell _ _ _ = y71
                    rw [hx71] at V71
                    clear hx71
                    go_wp2
                    go_meet
                    exact ⟨_, _, rfl, rfl, t, ht.1, V71.mono (fun x hx => by simp only [List.mem_cons, List.not_mem_nil, or_false] at hx ⊢; rcases hx with hx | hx | hx; exact .inr (.inl hx); exact .inl hx; exact .inr (.inr hx))⟩
                  · go_simp
                    obtain ⟨p72, hp72⟩ : ∃ p, p = v68.heap.size := ⟨_, rfl⟩
                    have L72 := N68.lt
                    have S72 := N68.2.size
                    have N72 := N68.new [.int .i64 0, .int .i64 0, .int .i64 0] 32
                    rw [← hp72] at L72 S72 N72
                    refine hK.out _ _ ⟨(N72.1 _ (.tail _ (.tail _ (.tail _ (.tail _ (.tail _ (.tail _ (.tail _ (.tail _ (.tail _ (.tail _ (.tail _ (.tail _ (.head _)))))))))))))).cell 0, (N72.1 _ (.tail _ (.tail _ (.tail _ (.tail _ (.tail _ (.tail _ (.tail _ (.tail _ (.tail _ (.tail _ (.tail _ (.tail _ (.head _)))))))))))))).cell 1, (N72.1 _ (.tail _ (.tail _ (.tail _ (.tail _ (.tail _ (.tail _ (.tail _ (.tail _ (.tail _ (.tail _ (.tail _ (.tail _ (.head _)))))))))))))).cell 2⟩ ?_
                    clear hK K
                    try simp only [Act.put, List.setIfInBounds_toArray, List.set_cons_zero, List.set_cons_succ]
                    generalize hv72 : World.alloc _ _ = v72
                    rw [← hp72]
                    rw [show v68.alloc (.cells #[.int .i64 0, .int .i64 0, .int .i64 0] 32) = v72 from hv72] at N72
                    clear hv72 hp72
                    refine wpAnyG_one (i := 4) rfl (by kernel_rfl) (fun K hK => ?_)
                    go_simp
                    refine (HCt.out _).mono ?_
                    rintro e v73 ⟨t, rfl, ht, kv73⟩
                    have N73 := N72.below kv73
                    refine hK.out _ _ ⟨(N73.1 _ (.tail _ (.tail _ (.tail _ (.tail _ (.tail _ (.tail _ (.tail _ (.tail _ (.tail _ (.tail _ (.tail _ (.tail _ (.head _)))))))))))))).cell 0, (N73.1 _ (.tail _ (.tail _ (.tail _ (.tail _ (.tail _ (.tail _ (.tail _ (.tail _ (.tail _ (.tail _ (.tail _ (.tail _ (.head _)))))))))))))).cell 1, (N73.1 _ (.tail _ (.tail _ (.tail _ (.tail _ (.tail _ (.tail _ (.tail _ (.tail _ (.tail _ (.tail _ (.tail _ (.tail _ (.head _)))))))))))))).cell 2⟩ ?_
                    clear hK K
                    try simp only [Act.put, List.setIfInBounds_toArray, List.set_cons_zero, List.set_cons_succ]
                    clear hHeld
                    have hHeld : S3q f w.heap.size v73 := ⟨(N73.1 _ (.tail _ (.tail _ (.tail _ (.tail _ (.tail _ (.tail _ (.tail _ (.tail _ (.tail _ (.tail _ (.tail _ (.tail _ (.head _)))))))))))))).cell 0, (N73.1 _ (.tail _ (.tail _ (.tail _ (.tail _ (.tail _ (.tail _ (.tail _ (.tail _ (.tail _ (.tail _ (.tail _ (.tail _ (.head _)))))))))))))).cell 1, (N73.1 _ (.tail _ (.tail _ (.tail _ (.tail _ (.tail _ (.tail _ (.tail _ (.tail _ (.tail _ (.tail _ (.tail _ (.tail _ (.head _)))))))))))))).cell 2⟩
                    refine wpAnyG_take (i := 5) (v := ?v5x68) rfl (by kernel_rfl) (fun _ _ _ h => h) (Or.inl ⟨by rfl, ?y5x68⟩) hHeld ?r5x68
                    case y5x68 => (intro wS hSw; obtain ⟨s1, s2, s3⟩ := hSw; go_simp; try with_reducible rfl)
                    try simp only [Act.put, List.setIfInBounds_toArray, List.set_cons_zero, List.set_cons_succ]
                    refine wpAnyG_take (i := 6) (v := ?v6x69) rfl (by kernel_rfl) (fun _ _ _ h => h) (Or.inl ⟨by rfl, ?y6x69⟩) hHeld ?r6x69
                    case y6x69 => (intro wS hSw; obtain ⟨s1, s2, s3⟩ := hSw; go_simp; try with_reducible rfl)
                    try simp only [Act.put, List.setIfInBounds_toArray, List.set_cons_zero, List.set_cons_succ]
                    refine wpAnyG_take (i := 7) (v := ?v7x70) rfl (by kernel_rfl) (fun _ _ _ h => h) (Or.inl ⟨by rfl, ?y7x70⟩) hHeld ?r7x70
                    case y7x70 => (intro wS hSw; obtain ⟨s1, s2, s3⟩ := hSw; go_simp; try with_reducible rfl)
                    try simp only [Act.put, List.setIfInBounds_toArray, List.set_cons_zero, List.set_cons_succ]
                    have E74 : Cl p72 [.int .i64 0, .int .i64 0, .int .i64 0] 32 v73 := N73.1 _ (.head _)
                    have ne74 : ∀ x ∈ [(p66, [.int .i64 0, .int .i64 0], 24), (w9.heap.size, k.l, 32), (w9.heap.size + 1, [.int .i64 0, .int .i64 0], 24), (w8.heap.size, d.l, 32), (w8.heap.size + 1, [.int .i64 0, .int .i64 0], 24), (w7.heap.size, c.l, 32), (w7.heap.size + 1, [.int .i64 0, .int .i64 0], 24), (w6.heap.size, b.l, 32), (w6.heap.size + 1, [.int .i64 0, .int .i64 0], 24), (w2.heap.size, a.l, 32), (w2.heap.size + 1, [.int .i64 0, .int .i64 0], 24), (w.heap.size, f.l, 32), (w.heap.size + 1, g.l, 32), (w.heap.size + 1 + 1, h.l, 32)], x.1 ≠ p72 := by
                      intro x hx
                      simp only [List.mem_cons, List.not_mem_nil, or_false] at hx
                      rcases hx with rfl | hx
                      · have := L72 _ (.head _); omega
                      · have := L72 x (by simp only [List.mem_cons, List.not_mem_nil, or_false]; exact .inr hx); omega
                    have T74 := (N73.mono (l' := [(p66, [.int .i64 0, .int .i64 0], 24), (w9.heap.size, k.l, 32), (w9.heap.size + 1, [.int .i64 0, .int .i64 0], 24), (w8.heap.size, d.l, 32), (w8.heap.size + 1, [.int .i64 0, .int .i64 0], 24), (w7.heap.size, c.l, 32), (w7.heap.size + 1, [.int .i64 0, .int .i64 0], 24), (w6.heap.size, b.l, 32), (w6.heap.size + 1, [.int .i64 0, .int .i64 0], 24), (w2.heap.size, a.l, 32), (w2.heap.size + 1, [.int .i64 0, .int .i64 0], 24), (w.heap.size, f.l, 32), (w.heap.size + 1, g.l, 32), (w.heap.size + 1 + 1, h.l, 32)]) (fun x hx => by simp only [List.mem_cons, List.not_mem_nil, or_false] at hx ⊢; exact .inr hx)).set3 E74 ne74 S72 (.int .i64 t.a) (.int .i64 t.b) (.int .i64 t.c)
                    have c740 := E74.cell 0
                    have f740 := E74.frozen 0
                    have c741 := E74.cell 1
                    have f741 := E74.frozen 1
                    have c742 := E74.cell 2
                    have f742 := E74.frozen 2
                    have l74 := E74.lt
                    simp at c740 c741 c742
                    refine wpAnyG_one (i := 10) rfl (by kernel_rfl) (fun K hK => ?_)
                    go_simp
                    refine hK.out _ _ ⟨(T74.1 _ (.tail _ (.tail _ (.tail _ (.tail _ (.tail _ (.tail _ (.tail _ (.tail _ (.tail _ (.tail _ (.tail _ (.tail _ (.head _)))))))))))))).cell 0, (T74.1 _ (.tail _ (.tail _ (.tail _ (.tail _ (.tail _ (.tail _ (.tail _ (.tail _ (.tail _ (.tail _ (.tail _ (.tail _ (.head _)))))))))))))).cell 1, (T74.1 _ (.tail _ (.tail _ (.tail _ (.tail _ (.tail _ (.tail _ (.tail _ (.tail _ (.tail _ (.tail _ (.tail _ (.tail _ (.head _)))))))))))))).cell 2⟩ ?_
                    clear hK K
                    try simp only [Act.put, List.setIfInBounds_toArray, List.set_cons_zero, List.set_cons_succ]
                    generalize hx74 : World.setCell _ _ _ = x74
                    rw [hx74] at T74
                    clear hx74 c740 f740 c741 f741 c742 f742 l74
                    have U74 : Cl p66 [.int .i64 0, .int .i64 0] 24 x74 := T74.1 _ (.tail _ (.head _))
                    have c740 := U74.cell 0
                    have f740 := U74.frozen 0
                    have c741 := U74.cell 1
                    have f741 := U74.frozen 1
                    have l74 := U74.lt
                    simp at c740 c741
                    have me74 : ∀ x ∈ [(p72, t.l, 32), (w9.heap.size, k.l, 32), (w9.heap.size + 1, [.int .i64 0, .int .i64 0], 24), (w8.heap.size, d.l, 32), (w8.heap.size + 1, [.int .i64 0, .int .i64 0], 24), (w7.heap.size, c.l, 32), (w7.heap.size + 1, [.int .i64 0, .int .i64 0], 24), (w6.heap.size, b.l, 32), (w6.heap.size + 1, [.int .i64 0, .int .i64 0], 24), (w2.heap.size, a.l, 32), (w2.heap.size + 1, [.int .i64 0, .int .i64 0], 24), (w.heap.size, f.l, 32), (w.heap.size + 1, g.l, 32), (w.heap.size + 1 + 1, h.l, 32)], x.1 ≠ p66 := by
                      intro x hx
                      simp only [List.mem_cons, List.not_mem_nil, or_false] at hx
                      rcases hx with rfl | hx
                      · have := L72 _ (.head _); omega
                      · have := L66 x (by simp only [List.mem_cons, List.not_mem_nil, or_false]; exact hx); omega
                    have V74 := (T74.mono (l' := [(p72, t.l, 32), (w9.heap.size, k.l, 32), (w9.heap.size + 1, [.int .i64 0, .int .i64 0], 24), (w8.heap.size, d.l, 32), (w8.heap.size + 1, [.int .i64 0, .int .i64 0], 24), (w7.heap.size, c.l, 32), (w7.heap.size + 1, [.int .i64 0, .int .i64 0], 24), (w6.heap.size, b.l, 32), (w6.heap.size + 1, [.int .i64 0, .int .i64 0], 24), (w2.heap.size, a.l, 32), (w2.heap.size + 1, [.int .i64 0, .int .i64 0], 24), (w.heap.size, f.l, 32), (w.heap.size + 1, g.l, 32), (w.heap.size + 1 + 1, h.l, 32)]) (fun x hx => by simp only [List.mem_cons, List.not_mem_nil, or_false] at hx ⊢; rcases hx with hx | hx; exact .inl hx; exact .inr (.inr hx))).set2 U74 me74 S66 (.int .i64 0) (.int .i64 0)
                    refine wpAnyG_last (i := 11) rfl (by kernel_rfl) (by kernel_rfl) (fun K hK => ?_)
                    go_simp
                    refine hK.out _ _ ?_
                    clear hK K
                    try simp only [Act.put, List.setIfInBounds_toArray, List.set_cons_zero, List.set_cons_succ]
                    refine wpAnyG_done (by kernel_rfl) ?_ _
                    generalize hx74 : World.setCell _ _ _ = y74
                    rw [hx74] at V74
                    clear hx74
                    go_wp2
                    go_meet
                    exact ⟨_, _, rfl, rfl, t, ht.1, V74.mono (fun x hx => by simp only [List.mem_cons, List.not_mem_nil, or_false] at hx ⊢; rcases hx with hx | hx | hx; exact .inr (.inl hx); exact .inl hx; exact .inr (.inr hx))⟩
                · go_simp
                  obtain ⟨p75, hp75⟩ : ∃ p, p = v67.heap.size := ⟨_, rfl⟩
                  have L75 := N67.lt
                  have S75 := N67.2.size
                  have N75 := N67.new [.int .i64 0, .int .i64 0, .int .i64 0] 32
                  rw [← hp75] at L75 S75 N75
                  refine hK.out _ _ ⟨(N75.1 _ (.tail _ (.tail _ (.tail _ (.tail _ (.tail _ (.tail _ (.tail _ (.tail _ (.tail _ (.tail _ (.tail _ (.tail _ (.head _)))))))))))))).cell 0, (N75.1 _ (.tail _ (.tail _ (.tail _ (.tail _ (.tail _ (.tail _ (.tail _ (.tail _ (.tail _ (.tail _ (.tail _ (.tail _ (.head _)))))))))))))).cell 1, (N75.1 _ (.tail _ (.tail _ (.tail _ (.tail _ (.tail _ (.tail _ (.tail _ (.tail _ (.tail _ (.tail _ (.tail _ (.tail _ (.head _)))))))))))))).cell 2⟩ ?_
                  clear hK K
                  try simp only [Act.put, List.setIfInBounds_toArray, List.set_cons_zero, List.set_cons_succ]
                  generalize hv75 : World.alloc _ _ = v75
                  rw [← hp75]
                  rw [show v67.alloc (.cells #[.int .i64 0, .int .i64 0, .int .i64 0] 32) = v75 from hv75] at N75
                  clear hv75 hp75
                  refine wpAnyG_one (i := 3) rfl (by kernel_rfl) (fun K hK => ?_)
                  go_simp
                  refine (HFi.out _).mono ?_
                  rintro e v76 ⟨rfl, kv76⟩
                  have N76 := N75.below kv76
                  refine hK.out _ _ ⟨(N76.1 _ (.tail _ (.tail _ (.tail _ (.tail _ (.tail _ (.tail _ (.tail _ (.tail _ (.tail _ (.tail _ (.tail _ (.tail _ (.head _)))))))))))))).cell 0, (N76.1 _ (.tail _ (.tail _ (.tail _ (.tail _ (.tail _ (.tail _ (.tail _ (.tail _ (.tail _ (.tail _ (.tail _ (.tail _ (.head _)))))))))))))).cell 1, (N76.1 _ (.tail _ (.tail _ (.tail _ (.tail _ (.tail _ (.tail _ (.tail _ (.tail _ (.tail _ (.tail _ (.tail _ (.tail _ (.head _)))))))))))))).cell 2⟩ ?_
                  clear hK K
                  try simp only [Act.put, List.setIfInBounds_toArray, List.set_cons_zero, List.set_cons_succ]
                  refine wpAnyG_one (i := 4) rfl (by kernel_rfl) (fun K hK => ?_)
                  go_simp
                  refine (HCt.out _).mono ?_
                  rintro e v77 ⟨t, rfl, ht, kv77⟩
                  have N77 := N76.below kv77
                  refine hK.out _ _ ⟨(N77.1 _ (.tail _ (.tail _ (.tail _ (.tail _ (.tail _ (.tail _ (.tail _ (.tail _ (.tail _ (.tail _ (.tail _ (.tail _ (.head _)))))))))))))).cell 0, (N77.1 _ (.tail _ (.tail _ (.tail _ (.tail _ (.tail _ (.tail _ (.tail _ (.tail _ (.tail _ (.tail _ (.tail _ (.tail _ (.head _)))))))))))))).cell 1, (N77.1 _ (.tail _ (.tail _ (.tail _ (.tail _ (.tail _ (.tail _ (.tail _ (.tail _ (.tail _ (.tail _ (.tail _ (.tail _ (.head _)))))))))))))).cell 2⟩ ?_
                  clear hK K
                  try simp only [Act.put, List.setIfInBounds_toArray, List.set_cons_zero, List.set_cons_succ]
                  clear hHeld
                  have hHeld : S3q f w.heap.size v77 := ⟨(N77.1 _ (.tail _ (.tail _ (.tail _ (.tail _ (.tail _ (.tail _ (.tail _ (.tail _ (.tail _ (.tail _ (.tail _ (.tail _ (.head _)))))))))))))).cell 0, (N77.1 _ (.tail _ (.tail _ (.tail _ (.tail _ (.tail _ (.tail _ (.tail _ (.tail _ (.tail _ (.tail _ (.tail _ (.tail _ (.head _)))))))))))))).cell 1, (N77.1 _ (.tail _ (.tail _ (.tail _ (.tail _ (.tail _ (.tail _ (.tail _ (.tail _ (.tail _ (.tail _ (.tail _ (.tail _ (.head _)))))))))))))).cell 2⟩
                  refine wpAnyG_take (i := 5) (v := ?v5x71) rfl (by kernel_rfl) (fun _ _ _ h => h) (Or.inl ⟨by rfl, ?y5x71⟩) hHeld ?r5x71
                  case y5x71 => (intro wS hSw; obtain ⟨s1, s2, s3⟩ := hSw; go_simp; try with_reducible rfl)
                  try simp only [Act.put, List.setIfInBounds_toArray, List.set_cons_zero, List.set_cons_succ]
                  refine wpAnyG_take (i := 6) (v := ?v6x72) rfl (by kernel_rfl) (fun _ _ _ h => h) (Or.inl ⟨by rfl, ?y6x72⟩) hHeld ?r6x72
                  case y6x72 => (intro wS hSw; obtain ⟨s1, s2, s3⟩ := hSw; go_simp; try with_reducible rfl)
                  try simp only [Act.put, List.setIfInBounds_toArray, List.set_cons_zero, List.set_cons_succ]
                  refine wpAnyG_take (i := 7) (v := ?v7x73) rfl (by kernel_rfl) (fun _ _ _ h => h) (Or.inl ⟨by rfl, ?y7x73⟩) hHeld ?r7x73
                  case y7x73 => (intro wS hSw; obtain ⟨s1, s2, s3⟩ := hSw; go_simp; try with_reducible rfl)
                  try simp only [Act.put, List.setIfInBounds_toArray, List.set_cons_zero, List.set_cons_succ]
                  have E78 : Cl p75 [.int .i64 0, .int .i64 0, .int .i64 0] 32 v77 := N77.1 _ (.head _)
                  have ne78 : ∀ x ∈ [(p66, [.int .i64 0, .int .i64 0], 24), (w9.heap.size, k.l, 32), (w9.heap.size + 1, [.int .i64 0, .int .i64 0], 24), (w8.heap.size, d.l, 32), (w8.heap.size + 1, [.int .i64 0, .int .i64 0], 24), (w7.heap.size, c.l, 32), (w7.heap.size + 1, [.int .i64 0, .int .i64 0], 24), (w6.heap.size, b.l, 32), (w6.heap.size + 1, [.int .i64 0, .int .i64 0], 24), (w2.heap.size, a.l, 32), (w2.heap.size + 1, [.int .i64 0, .int .i64 0], 24), (w.heap.size, f.l, 32), (w.heap.size + 1, g.l, 32), (w.heap.size + 1 + 1, h.l, 32)], x.1 ≠ p75 := by
                    intro x hx
                    simp only [List.mem_cons, List.not_mem_nil, or_false] at hx
                    rcases hx with rfl | hx
                    · have := L75 _ (.head _); omega
                    · have := L75 x (by simp only [List.mem_cons, List.not_mem_nil, or_false]; exact .inr hx); omega
                  have T78 := (N77.mono (l' := [(p66, [.int .i64 0, .int .i64 0], 24), (w9.heap.size, k.l, 32), (w9.heap.size + 1, [.int .i64 0, .int .i64 0], 24), (w8.heap.size, d.l, 32), (w8.heap.size + 1, [.int .i64 0, .int .i64 0], 24), (w7.heap.size, c.l, 32), (w7.heap.size + 1, [.int .i64 0, .int .i64 0], 24), (w6.heap.size, b.l, 32), (w6.heap.size + 1, [.int .i64 0, .int .i64 0], 24), (w2.heap.size, a.l, 32), (w2.heap.size + 1, [.int .i64 0, .int .i64 0], 24), (w.heap.size, f.l, 32), (w.heap.size + 1, g.l, 32), (w.heap.size + 1 + 1, h.l, 32)]) (fun x hx => by simp only [List.mem_cons, List.not_mem_nil, or_false] at hx ⊢; exact .inr hx)).set3 E78 ne78 S75 (.int .i64 t.a) (.int .i64 t.b) (.int .i64 t.c)
                  have c780 := E78.cell 0
                  have f780 := E78.frozen 0
                  have c781 := E78.cell 1
                  have f781 := E78.frozen 1
                  have c782 := E78.cell 2
                  have f782 := E78.frozen 2
                  have l78 := E78.lt
                  simp at c780 c781 c782
                  refine wpAnyG_one (i := 10) rfl (by kernel_rfl) (fun K hK => ?_)
                  go_simp
                  refine hK.out _ _ ⟨(T78.1 _ (.tail _ (.tail _ (.tail _ (.tail _ (.tail _ (.tail _ (.tail _ (.tail _ (.tail _ (.tail _ (.tail _ (.tail _ (.head _)))))))))))))).cell 0, (T78.1 _ (.tail _ (.tail _ (.tail _ (.tail _ (.tail _ (.tail _ (.tail _ (.tail _ (.tail _ (.tail _ (.tail _ (.tail _ (.head _)))))))))))))).cell 1, (T78.1 _ (.tail _ (.tail _ (.tail _ (.tail _ (.tail _ (.tail _ (.tail _ (.tail _ (.tail _ (.tail _ (.tail _ (.tail _ (.head _)))))))))))))).cell 2⟩ ?_
                  clear hK K
                  try simp only [Act.put, List.setIfInBounds_toArray, List.set_cons_zero, List.set_cons_succ]
                  generalize hx78 : World.setCell _ _ _ = x78
                  rw [hx78] at T78
                  clear hx78 c780 f780 c781 f781 c782 f782 l78
                  have U78 : Cl p66 [.int .i64 0, .int .i64 0] 24 x78 := T78.1 _ (.tail _ (.head _))
                  have c780 := U78.cell 0
                  have f780 := U78.frozen 0
                  have c781 := U78.cell 1
                  have f781 := U78.frozen 1
                  have l78 := U78.lt
                  simp at c780 c781
                  have me78 : ∀ x ∈ [(p75, t.l, 32), (w9.heap.size, k.l, 32), (w9.heap.size + 1, [.int .i64 0, .int .i64 0], 24), (w8.heap.size, d.l, 32), (w8.heap.size + 1, [.int .i64 0, .int .i64 0], 24), (w7.heap.size, c.l, 32), (w7.heap.size + 1, [.int .i64 0, .int .i64 0], 24), (w6.heap.size, b.l, 32), (w6.heap.size + 1, [.int .i64 0, .int .i64 0], 24), (w2.heap.size, a.l, 32), (w2.heap.size + 1, [.int .i64 0, .int .i64 0], 24), (w.heap.size, f.l, 32), (w.heap.size + 1, g.l, 32), (w.heap.size + 1 + 1, h.l, 32)], x.1 ≠ p66 := by
                    intro x hx
                    simp only [List.mem_cons, List.not_mem_nil, or_false] at hx
                    rcases hx with rfl | hx
                    · have := L75 _ (.head _); omega
                    · have := L66 x (by simp only [List.mem_cons, List.not_mem_nil, or_false]; exact hx); omega
                  have V78 := (T78.mono (l' := [(p75, t.l, 32), (w9.heap.size, k.l, 32), (w9.heap.size + 1, [.int .i64 0, .int .i64 0], 24), (w8.heap.size, d.l, 32), (w8.heap.size + 1, [.int .i64 0, .int .i64 0], 24), (w7.heap.size, c.l, 32), (w7.heap.size + 1, [.int .i64 0, .int .i64 0], 24), (w6.heap.size, b.l, 32), (w6.heap.size + 1, [.int .i64 0, .int .i64 0], 24), (w2.heap.size, a.l, 32), (w2.heap.size + 1, [.int .i64 0, .int .i64 0], 24), (w.heap.size, f.l, 32), (w.heap.size + 1, g.l, 32), (w.heap.size + 1 + 1, h.l, 32)]) (fun x hx => by simp only [List.mem_cons, List.not_mem_nil, or_false] at hx ⊢; rcases hx with hx | hx; exact .inl hx; exact .inr (.inr hx))).set2 U78 me78 S66 (.int .i64 0) (.int .i64 0)
                  refine wpAnyG_last (i := 11) rfl (by kernel_rfl) (by kernel_rfl) (fun K hK => ?_)
                  go_simp
                  refine hK.out _ _ ?_
                  clear hK K
                  try simp only [Act.put, List.setIfInBounds_toArray, List.set_cons_zero, List.set_cons_succ]
                  refine wpAnyG_done (by kernel_rfl) ?_ _
                  generalize hx78 : World.setCell _ _ _ = y78
                  rw [hx78] at V78
                  clear hx78
                  go_wp2
                  go_meet
                  exact ⟨_, _, rfl, rfl, t, ht.1, V78.mono (fun x hx => by simp only [List.mem_cons, List.not_mem_nil, or_false] at hx ⊢; rcases hx with hx | hx | hx; exact .inr (.inl hx); exact .inl hx; exact .inr (.inr hx))⟩
              · go_simp
                obtain ⟨p79, hp79⟩ : ∃ p, p = v66.heap.size := ⟨_, rfl⟩
                have L79 := N66.lt
                have S79 := N66.2.size
                have N79 := N66.new [.int .i64 0, .int .i64 0, .int .i64 0] 32
                rw [← hp79] at L79 S79 N79
                refine hK.out _ _ ⟨(N79.1 _ (.tail _ (.tail _ (.tail _ (.tail _ (.tail _ (.tail _ (.tail _ (.tail _ (.tail _ (.tail _ (.tail _ (.tail _ (.head _)))))))))))))).cell 0, (N79.1 _ (.tail _ (.tail _ (.tail _ (.tail _ (.tail _ (.tail _ (.tail _ (.tail _ (.tail _ (.tail _ (.tail _ (.tail _ (.head _)))))))))))))).cell 1, (N79.1 _ (.tail _ (.tail _ (.tail _ (.tail _ (.tail _ (.tail _ (.tail _ (.tail _ (.tail _ (.tail _ (.tail _ (.tail _ (.head _)))))))))))))).cell 2⟩ ?_
                clear hK K
                try simp only [Act.put, List.setIfInBounds_toArray, List.set_cons_zero, List.set_cons_succ]
                generalize hv79 : World.alloc _ _ = v79
                rw [← hp79]
                rw [show v66.alloc (.cells #[.int .i64 0, .int .i64 0, .int .i64 0] 32) = v79 from hv79] at N79
                clear hv79 hp79
                refine wpAnyG_one (i := 2) rfl (by kernel_rfl) (fun K hK => ?_)
                go_simp
                refine (HDf.out _).mono ?_
                rintro e v80 ⟨rfl, kv80⟩
                have N80 := N79.below kv80
                refine hK.out _ _ ⟨(N80.1 _ (.tail _ (.tail _ (.tail _ (.tail _ (.tail _ (.tail _ (.tail _ (.tail _ (.tail _ (.tail _ (.tail _ (.tail _ (.head _)))))))))))))).cell 0, (N80.1 _ (.tail _ (.tail _ (.tail _ (.tail _ (.tail _ (.tail _ (.tail _ (.tail _ (.tail _ (.tail _ (.tail _ (.tail _ (.head _)))))))))))))).cell 1, (N80.1 _ (.tail _ (.tail _ (.tail _ (.tail _ (.tail _ (.tail _ (.tail _ (.tail _ (.tail _ (.tail _ (.tail _ (.tail _ (.head _)))))))))))))).cell 2⟩ ?_
                clear hK K
                try simp only [Act.put, List.setIfInBounds_toArray, List.set_cons_zero, List.set_cons_succ]
                refine wpAnyG_one (i := 3) rfl (by kernel_rfl) (fun K hK => ?_)
                go_simp
                refine (HFi.out _).mono ?_
                rintro e v81 ⟨rfl, kv81⟩
                have N81 := N80.below kv81
                refine hK.out _ _ ⟨(N81.1 _ (.tail _ (.tail _ (.tail _ (.tail _ (.tail _ (.tail _ (.tail _ (.tail _ (.tail _ (.tail _ (.tail _ (.tail _ (.head _)))))))))))))).cell 0, (N81.1 _ (.tail _ (.tail _ (.tail _ (.tail _ (.tail _ (.tail _ (.tail _ (.tail _ (.tail _ (.tail _ (.tail _ (.tail _ (.head _)))))))))))))).cell 1, (N81.1 _ (.tail _ (.tail _ (.tail _ (.tail _ (.tail _ (.tail _ (.tail _ (.tail _ (.tail _ (.tail _ (.tail _ (.tail _ (.head _)))))))))))))).cell 2⟩ ?_
                clear hK K
                try simp only [Act.put, List.setIfInBounds_toArray, List.set_cons_zero, List.set_cons_succ]
                refine wpAnyG_one (i := 4) rfl (by kernel_rfl) (fun K hK => ?_)
                go_simp
                refine (HCt.out _).mono ?_
                rintro e v82 ⟨t, rfl, ht, kv82⟩
                have N82 := N81.below kv82
                refine hK.out _ _ ⟨(N82.1 _ (.tail _ (.tail _ (.tail _ (.tail _ (.tail _ (.tail _ (.tail _ (.tail _ (.tail _ (.tail _ (.tail _ (.tail _ (.head _)))))))))))))).cell 0, (N82.1 _ (.tail _ (.tail _ (.tail _ (.tail _ (.tail _ (.tail _ (.tail _ (.tail _ (.tail _ (.tail _ (.tail _ (.tail _ (.head _)))))))))))))).cell 1, (N82.1 _ (.tail _ (.tail _ (.tail _ (.tail _ (.tail _ (.tail _ (.tail _ (.tail _ (.tail _ (.tail _ (.tail _ (.tail _ (.head _)))))))))))))).cell 2⟩ ?_
                clear hK K
                try simp only [Act.put, List.setIfInBounds_toArray, List.set_cons_zero, List.set_cons_succ]
                clear hHeld
                have hHeld : S3q f w.heap.size v82 := ⟨(N82.1 _ (.tail _ (.tail _ (.tail _ (.tail _ (.tail _ (.tail _ (.tail _ (.tail _ (.tail _ (.tail _ (.tail _ (.tail _ (.head _)))))))))))))).cell 0, (N82.1 _ (.tail _ (.tail _ (.tail _ (.tail _ (.tail _ (.tail _ (.tail _ (.tail _ (.tail _ (.tail _ (.tail _ (.tail _ (.head _)))))))))))))).cell 1, (N82.1 _ (.tail _ (.tail _ (.tail _ (.tail _ (.tail _ (.tail _ (.tail _ (.tail _ (.tail _ (.tail _ (.tail _ (.tail _ (.head _)))))))))))))).cell 2⟩
                refine wpAnyG_take (i := 5) (v := ?v5x74) rfl (by kernel_rfl) (fun _ _ _ h => h) (Or.inl ⟨by rfl, ?y5x74⟩) hHeld ?r5x74
                case y5x74 => (intro wS hSw; obtain ⟨s1, s2, s3⟩ := hSw; go_simp; try with_reducible rfl)
                try simp only [Act.put, List.setIfInBounds_toArray, List.set_cons_zero, List.set_cons_succ]
                refine wpAnyG_take (i := 6) (v := ?v6x75) rfl (by kernel_rfl) (fun _ _ _ h => h) (Or.inl ⟨by rfl, ?y6x75⟩) hHeld ?r6x75
                case y6x75 => (intro wS hSw; obtain ⟨s1, s2, s3⟩ := hSw; go_simp; try with_reducible rfl)
                try simp only [Act.put, List.setIfInBounds_toArray, List.set_cons_zero, List.set_cons_succ]
                refine wpAnyG_take (i := 7) (v := ?v7x76) rfl (by kernel_rfl) (fun _ _ _ h => h) (Or.inl ⟨by rfl, ?y7x76⟩) hHeld ?r7x76
                case y7x76 => (intro wS hSw; obtain ⟨s1, s2, s3⟩ := hSw; go_simp; try with_reducible rfl)
                try simp only [Act.put, List.setIfInBounds_toArray, List.set_cons_zero, List.set_cons_succ]
                have E83 : Cl p79 [.int .i64 0, .int .i64 0, .int .i64 0] 32 v82 := N82.1 _ (.head _)
                have ne83 : ∀ x ∈ [(p66, [.int .i64 0, .int .i64 0], 24), (w9.heap.size, k.l, 32), (w9.heap.size + 1, [.int .i64 0, .int .i64 0], 24), (w8.heap.size, d.l, 32), (w8.heap.size + 1, [.int .i64 0, .int .i64 0], 24), (w7.heap.size, c.l, 32), (w7.heap.size + 1, [.int .i64 0, .int .i64 0], 24), (w6.heap.size, b.l, 32), (w6.heap.size + 1, [.int .i64 0, .int .i64 0], 24), (w2.heap.size, a.l, 32), (w2.heap.size + 1, [.int .i64 0, .int .i64 0], 24), (w.heap.size, f.l, 32), (w.heap.size + 1, g.l, 32), (w.heap.size + 1 + 1, h.l, 32)], x.1 ≠ p79 := by
                  intro x hx
                  simp only [List.mem_cons, List.not_mem_nil, or_false] at hx
                  rcases hx with rfl | hx
                  · have := L79 _ (.head _); omega
                  · have := L79 x (by simp only [List.mem_cons, List.not_mem_nil, or_false]; exact .inr hx); omega
                have T83 := (N82.mono (l' := [(p66, [.int .i64 0, .int .i64 0], 24), (w9.heap.size, k.l, 32), (w9.heap.size + 1, [.int .i64 0, .int .i64 0], 24), (w8.heap.size, d.l, 32), (w8.heap.size + 1, [.int .i64 0, .int .i64 0], 24), (w7.heap.size, c.l, 32), (w7.heap.size + 1, [.int .i64 0, .int .i64 0], 24), (w6.heap.size, b.l, 32), (w6.heap.size + 1, [.int .i64 0, .int .i64 0], 24), (w2.heap.size, a.l, 32), (w2.heap.size + 1, [.int .i64 0, .int .i64 0], 24), (w.heap.size, f.l, 32), (w.heap.size + 1, g.l, 32), (w.heap.size + 1 + 1, h.l, 32)]) (fun x hx => by simp only [List.mem_cons, List.not_mem_nil, or_false] at hx ⊢; exact .inr hx)).set3 E83 ne83 S79 (.int .i64 t.a) (.int .i64 t.b) (.int .i64 t.c)
                have c830 := E83.cell 0
                have f830 := E83.frozen 0
                have c831 := E83.cell 1
                have f831 := E83.frozen 1
                have c832 := E83.cell 2
                have f832 := E83.frozen 2
                have l83 := E83.lt
                simp at c830 c831 c832
                refine wpAnyG_one (i := 10) rfl (by kernel_rfl) (fun K hK => ?_)
                go_simp
                refine hK.out _ _ ⟨(T83.1 _ (.tail _ (.tail _ (.tail _ (.tail _ (.tail _ (.tail _ (.tail _ (.tail _ (.tail _ (.tail _ (.tail _ (.tail _ (.head _)))))))))))))).cell 0, (T83.1 _ (.tail _ (.tail _ (.tail _ (.tail _ (.tail _ (.tail _ (.tail _ (.tail _ (.tail _ (.tail _ (.tail _ (.tail _ (.head _)))))))))))))).cell 1, (T83.1 _ (.tail _ (.tail _ (.tail _ (.tail _ (.tail _ (.tail _ (.tail _ (.tail _ (.tail _ (.tail _ (.tail _ (.tail _ (.head _)))))))))))))).cell 2⟩ ?_
                clear hK K
                try simp only [Act.put, List.setIfInBounds_toArray, List.set_cons_zero, List.set_cons_succ]
                generalize hx83 : World.setCell _ _ _ = x83
                rw [hx83] at T83
                clear hx83 c830 f830 c831 f831 c832 f832 l83
                have U83 : Cl p66 [.int .i64 0, .int .i64 0] 24 x83 := T83.1 _ (.tail _ (.head _))
                have c830 := U83.cell 0
                have f830 := U83.frozen 0
                have c831 := U83.cell 1
                have f831 := U83.frozen 1
                have l83 := U83.lt
                simp at c830 c831
                have me83 : ∀ x ∈ [(p79, t.l, 32), (w9.heap.size, k.l, 32), (w9.heap.size + 1, [.int .i64 0, .int .i64 0], 24), (w8.heap.size, d.l, 32), (w8.heap.size + 1, [.int .i64 0, .int .i64 0], 24), (w7.heap.size, c.l, 32), (w7.heap.size + 1, [.int .i64 0, .int .i64 0], 24), (w6.heap.size, b.l, 32), (w6.heap.size + 1, [.int .i64 0, .int .i64 0], 24), (w2.heap.size, a.l, 32), (w2.heap.size + 1, [.int .i64 0, .int .i64 0], 24), (w.heap.size, f.l, 32), (w.heap.size + 1, g.l, 32), (w.heap.size + 1 + 1, h.l, 32)], x.1 ≠ p66 := by
                  intro x hx
                  simp only [List.mem_cons, List.not_mem_nil, or_false] at hx
                  rcases hx with rfl | hx
                  · have := L79 _ (.head _); omega
                  · have := L66 x (by simp only [List.mem_cons, List.not_mem_nil, or_false]; exact hx); omega
                have V83 := (T83.mono (l' := [(p79, t.l, 32), (w9.heap.size, k.l, 32), (w9.heap.size + 1, [.int .i64 0, .int .i64 0], 24), (w8.heap.size, d.l, 32), (w8.heap.size + 1, [.int .i64 0, .int .i64 0], 24), (w7.heap.size, c.l, 32), (w7.heap.size + 1, [.int .i64 0, .int .i64 0], 24), (w6.heap.size, b.l, 32), (w6.heap.size + 1, [.int .i64 0, .int .i64 0], 24), (w2.heap.size, a.l, 32), (w2.heap.size + 1, [.int .i64 0, .int .i64 0], 24), (w.heap.size, f.l, 32), (w.heap.size + 1, g.l, 32), (w.heap.size + 1 + 1, h.l, 32)]) (fun x hx => by simp only [List.mem_cons, List.not_mem_nil, or_false] at hx ⊢; rcases hx with hx | hx; exact .inl hx; exact .inr (.inr hx))).set2 U83 me83 S66 (.int .i64 0) (.int .i64 0)
                refine wpAnyG_last (i := 11) rfl (by kernel_rfl) (by kernel_rfl) (fun K hK => ?_)
                go_simp
                refine hK.out _ _ ?_
                clear hK K
                try simp only [Act.put, List.setIfInBounds_toArray, List.set_cons_zero, List.set_cons_succ]
                refine wpAnyG_done (by kernel_rfl) ?_ _
                generalize hx83 : World.setCell _ _ _ = y83
                rw [hx83] at V83
                clear hx83
                go_wp2
                go_meet
                exact ⟨_, _, rfl, rfl, t, ht.1, V83.mono (fun x hx => by simp only [List.mem_cons, List.not_mem_nil, or_false] at hx ⊢; rcases hx with hx | hx | hx; exact .inr (.inl hx); exact .inl hx; exact .inr (.inr hx))⟩
          case rest =>
            obtain ⟨B17, B18, rfl, rfl, HR⟩ := hcut
            obtain ⟨t, ht, hm⟩ := HR.out
            have HT10 : Hid (MQ.Cz f O t) := ht
            have HM10 : Hid (Ms [(B17, t.l, 32), (B18, [.int .i64 0, .int .i64 0], 24), (w9.heap.size, k.l, 32), (w9.heap.size + 1, [.int .i64 0, .int .i64 0], 24), (w8.heap.size, d.l, 32), (w8.heap.size + 1, [.int .i64 0, .int .i64 0], 24), (w7.heap.size, c.l, 32), (w7.heap.size + 1, [.int .i64 0, .int .i64 0], 24), (w6.heap.size, b.l, 32), (w6.heap.size + 1, [.int .i64 0, .int .i64 0], 24), (w2.heap.size, a.l, 32), (w2.heap.size + 1, [.int .i64 0, .int .i64 0], 24), (w.heap.size, f.l, 32), (w.heap.size + 1, g.l, 32), (w.heap.size + 1 + 1, h.l, 32)] w wc) := hm
            clear ht hm HR HM9
            have q0 : wc.cell? ⟨w.heap.size, 0, none⟩ = some (.int .i64 f.a) := (HM10.out.1 _ (.tail _ (.tail _ (.tail _ (.tail _ (.tail _ (.tail _ (.tail _ (.tail _ (.tail _ (.tail _ (.tail _ (.tail _ (.head _)))))))))))))).cell 0
            have q1 : wc.cell? ⟨w.heap.size, 1, none⟩ = some (.int .i64 f.b) := (HM10.out.1 _ (.tail _ (.tail _ (.tail _ (.tail _ (.tail _ (.tail _ (.tail _ (.tail _ (.tail _ (.tail _ (.tail _ (.tail _ (.head _)))))))))))))).cell 1
            have q2 : wc.cell? ⟨w.heap.size, 2, none⟩ = some (.int .i64 f.c) := (HM10.out.1 _ (.tail _ (.tail _ (.tail _ (.tail _ (.tail _ (.tail _ (.tail _ (.tail _ (.tail _ (.tail _ (.tail _ (.tail _ (.head _)))))))))))))).cell 2
            go_wp2_with fail
            refine (HRf.out _).mono ?_
            rintro e w11 ⟨r, m, rfl, hr, k11⟩
            have HRr : Hid (Rd f r m) := hr
            clear hr
            obtain ⟨W11, hW11⟩ : ∃ W, W = (((w11.alloc (.cells #[.int .i64 r.a, .int .i64 r.b, .int .i64 r.c] 32)).alloc (.cells #[.int .i64 m.p, .int .i64 m.q, .int .i64 m.r, .int .i64 m.s] 43)).alloc (.cells #[.int .i64 0, .int .i64 0] 24)) := ⟨_, rfl⟩
            have HM11 : Hid (Ms [(w11.heap.size, r.l, 32), (w11.heap.size + 1, m.l, 43), (w11.heap.size + 1 + 1, [.int .i64 0, .int .i64 0], 24), (B17, t.l, 32), (B18, [.int .i64 0, .int .i64 0], 24), (w9.heap.size, k.l, 32), (w9.heap.size + 1, [.int .i64 0, .int .i64 0], 24), (w8.heap.size, d.l, 32), (w8.heap.size + 1, [.int .i64 0, .int .i64 0], 24), (w7.heap.size, c.l, 32), (w7.heap.size + 1, [.int .i64 0, .int .i64 0], 24), (w6.heap.size, b.l, 32), (w6.heap.size + 1, [.int .i64 0, .int .i64 0], 24), (w2.heap.size, a.l, 32), (w2.heap.size + 1, [.int .i64 0, .int .i64 0], 24), (w.heap.size, f.l, 32), (w.heap.size + 1, g.l, 32), (w.heap.size + 1 + 1, h.l, 32)] w W11) := by
              have M := HM10.out.below k11
              have cB := al1 w11 (.cells #[.int .i64 r.a, .int .i64 r.b, .int .i64 r.c] 32)
              have cB := cB.trans ((al1 (w11.alloc (.cells #[.int .i64 r.a, .int .i64 r.b, .int .i64 r.c] 32)) (.cells #[.int .i64 m.p, .int .i64 m.q, .int .i64 m.r, .int .i64 m.s] 43)).mono (by simp))
              have cB := cB.trans ((al1 ((w11.alloc (.cells #[.int .i64 r.a, .int .i64 r.b, .int .i64 r.c] 32)).alloc (.cells #[.int .i64 m.p, .int .i64 m.q, .int .i64 m.r, .int .i64 m.s] 43)) (.cells #[.int .i64 0, .int .i64 0] 24)).mono (by simp; omega))
              rw [← hW11] at cB
              refine ⟨fun x hx => ?_, (M.below cB).2⟩
              simp only [List.mem_cons, List.not_mem_nil, or_false] at hx
              rcases hx with rfl | rfl | rfl | hx
              · rw [hW11]; exact Cl.alloc (Cl.alloc (cl_new0 _ r.l _ _ (by simp)) _) _
              · rw [hW11]; exact Cl.alloc (cl_new0 _ m.l _ _ (by simp)) _
              · rw [hW11]; exact cl_new0 _ [.int .i64 0, .int .i64 0] _ _ (by simp)
              · exact (M.below cB).1 _ (by simp only [List.mem_cons, List.not_mem_nil, or_false]; exact hx)
            clear q0 q1 q2 k11 HM10
            have q0 : W11.cell? ⟨w.heap.size, 0, none⟩ = some (.int .i64 f.a) := (HM11.out.1 _ (.tail _ (.tail _ (.tail _ (.tail _ (.tail _ (.tail _ (.tail _ (.tail _ (.tail _ (.tail _ (.tail _ (.tail _ (.tail _ (.tail _ (.tail _ (.head _))))))))))))))))).cell 0
            have q1 : W11.cell? ⟨w.heap.size, 1, none⟩ = some (.int .i64 f.b) := (HM11.out.1 _ (.tail _ (.tail _ (.tail _ (.tail _ (.tail _ (.tail _ (.tail _ (.tail _ (.tail _ (.tail _ (.tail _ (.tail _ (.tail _ (.tail _ (.tail _ (.head _))))))))))))))))).cell 1
            have q2 : W11.cell? ⟨w.heap.size, 2, none⟩ = some (.int .i64 f.c) := (HM11.out.1 _ (.tail _ (.tail _ (.tail _ (.tail _ (.tail _ (.tail _ (.tail _ (.tail _ (.tail _ (.tail _ (.tail _ (.tail _ (.tail _ (.tail _ (.tail _ (.head _))))))))))))))))).cell 2
            rw [hW11] at q0 q1 q2
            go_wp2_with fail
            rw [← hW11]
            clear hW11
            refine (HCu.out _).mono ?_
            rintro e w12 ⟨u, rfl, hu, k12⟩
            have HU : Hid (MQ.Cz f ⟨f.a, -f.b, f.c⟩ u) := hu.1
            clear hu
            obtain ⟨W12, hW12⟩ : ∃ W, W = ((w12.alloc (.cells #[.int .i64 u.a, .int .i64 u.b, .int .i64 u.c] 32)).alloc (.cells #[.int .i64 0, .int .i64 0] 24)) := ⟨_, rfl⟩
            have HM12 : Hid (Ms [(w12.heap.size, u.l, 32), (w12.heap.size + 1, [.int .i64 0, .int .i64 0], 24), (w11.heap.size, r.l, 32), (w11.heap.size + 1, m.l, 43), (w11.heap.size + 1 + 1, [.int .i64 0, .int .i64 0], 24), (B17, t.l, 32), (B18, [.int .i64 0, .int .i64 0], 24), (w9.heap.size, k.l, 32), (w9.heap.size + 1, [.int .i64 0, .int .i64 0], 24), (w8.heap.size, d.l, 32), (w8.heap.size + 1, [.int .i64 0, .int .i64 0], 24), (w7.heap.size, c.l, 32), (w7.heap.size + 1, [.int .i64 0, .int .i64 0], 24), (w6.heap.size, b.l, 32), (w6.heap.size + 1, [.int .i64 0, .int .i64 0], 24), (w2.heap.size, a.l, 32), (w2.heap.size + 1, [.int .i64 0, .int .i64 0], 24), (w.heap.size, f.l, 32), (w.heap.size + 1, g.l, 32), (w.heap.size + 1 + 1, h.l, 32)] w W12) := by
              have M := HM11.out.below k12
              have cB := al1 w12 (.cells #[.int .i64 u.a, .int .i64 u.b, .int .i64 u.c] 32)
              have cB := cB.trans ((al1 (w12.alloc (.cells #[.int .i64 u.a, .int .i64 u.b, .int .i64 u.c] 32)) (.cells #[.int .i64 0, .int .i64 0] 24)).mono (by simp))
              rw [← hW12] at cB
              refine ⟨fun x hx => ?_, (M.below cB).2⟩
              simp only [List.mem_cons, List.not_mem_nil, or_false] at hx
              rcases hx with rfl | rfl | hx
              · rw [hW12]; exact Cl.alloc (cl_new0 _ u.l _ _ (by simp)) _
              · rw [hW12]; exact cl_new0 _ [.int .i64 0, .int .i64 0] _ _ (by simp)
              · exact (M.below cB).1 _ (by simp only [List.mem_cons, List.not_mem_nil, or_false]; exact hx)
            clear q0 q1 q2 k12 HM11
            have q0 : W12.cell? ⟨w.heap.size, 0, none⟩ = some (.int .i64 f.a) := (HM12.out.1 _ (.tail _ (.tail _ (.tail _ (.tail _ (.tail _ (.tail _ (.tail _ (.tail _ (.tail _ (.tail _ (.tail _ (.tail _ (.tail _ (.tail _ (.tail _ (.tail _ (.tail _ (.head _))))))))))))))))))).cell 0
            have q1 : W12.cell? ⟨w.heap.size, 1, none⟩ = some (.int .i64 f.b) := (HM12.out.1 _ (.tail _ (.tail _ (.tail _ (.tail _ (.tail _ (.tail _ (.tail _ (.tail _ (.tail _ (.tail _ (.tail _ (.tail _ (.tail _ (.tail _ (.tail _ (.tail _ (.tail _ (.head _))))))))))))))))))).cell 1
            have q2 : W12.cell? ⟨w.heap.size, 2, none⟩ = some (.int .i64 f.c) := (HM12.out.1 _ (.tail _ (.tail _ (.tail _ (.tail _ (.tail _ (.tail _ (.tail _ (.tail _ (.tail _ (.tail _ (.tail _ (.tail _ (.tail _ (.tail _ (.tail _ (.tail _ (.tail _ (.head _))))))))))))))))))).cell 2
            rw [hW12] at q0 q1 q2
            go_wp2_with fail
            rw [← hW12]
            clear hW12
            refine (HDf.out _).mono ?_
            rintro e x1 ⟨rfl, kx1⟩
            have HMx : Hid (Ms [(w12.heap.size, u.l, 32), (w12.heap.size + 1, [.int .i64 0, .int .i64 0], 24), (w11.heap.size, r.l, 32), (w11.heap.size + 1, m.l, 43), (w11.heap.size + 1 + 1, [.int .i64 0, .int .i64 0], 24), (B17, t.l, 32), (B18, [.int .i64 0, .int .i64 0], 24), (w9.heap.size, k.l, 32), (w9.heap.size + 1, [.int .i64 0, .int .i64 0], 24), (w8.heap.size, d.l, 32), (w8.heap.size + 1, [.int .i64 0, .int .i64 0], 24), (w7.heap.size, c.l, 32), (w7.heap.size + 1, [.int .i64 0, .int .i64 0], 24), (w6.heap.size, b.l, 32), (w6.heap.size + 1, [.int .i64 0, .int .i64 0], 24), (w2.heap.size, a.l, 32), (w2.heap.size + 1, [.int .i64 0, .int .i64 0], 24), (w.heap.size, f.l, 32), (w.heap.size + 1, g.l, 32), (w.heap.size + 1 + 1, h.l, 32)] w x1) := HM12.out.below kx1
            clear kx1 HM12 q0 q1 q2
            go_wp2_with fail
            refine (HFi.out _).mono ?_
            rintro e x2 ⟨rfl, kx2⟩
            have HMy : Hid (Ms [(w12.heap.size, u.l, 32), (w12.heap.size + 1, [.int .i64 0, .int .i64 0], 24), (w11.heap.size, r.l, 32), (w11.heap.size + 1, m.l, 43), (w11.heap.size + 1 + 1, [.int .i64 0, .int .i64 0], 24), (B17, t.l, 32), (B18, [.int .i64 0, .int .i64 0], 24), (w9.heap.size, k.l, 32), (w9.heap.size + 1, [.int .i64 0, .int .i64 0], 24), (w8.heap.size, d.l, 32), (w8.heap.size + 1, [.int .i64 0, .int .i64 0], 24), (w7.heap.size, c.l, 32), (w7.heap.size + 1, [.int .i64 0, .int .i64 0], 24), (w6.heap.size, b.l, 32), (w6.heap.size + 1, [.int .i64 0, .int .i64 0], 24), (w2.heap.size, a.l, 32), (w2.heap.size + 1, [.int .i64 0, .int .i64 0], 24), (w.heap.size, f.l, 32), (w.heap.size + 1, g.l, 32), (w.heap.size + 1 + 1, h.l, 32)] w x2) := HMx.out.below kx2
            clear kx2 HMx
            go_wp2_with fail
            refine (HRo.out _).mono ?_
            rintro e w13 ⟨s, m2, rfl, hs, k13⟩
            have HSs : Hid (Rd O s m2) := hs
            clear hs
            obtain ⟨W13, hW13⟩ : ∃ W, W = (((w13.alloc (.cells #[.int .i64 s.a, .int .i64 s.b, .int .i64 s.c] 32)).alloc (.cells #[.int .i64 m2.p, .int .i64 m2.q, .int .i64 m2.r, .int .i64 m2.s] 43)).alloc (.cells #[.int .i64 0, .int .i64 0] 24)) := ⟨_, rfl⟩
            have HM13 : Hid (Ms [(w13.heap.size, s.l, 32), (w13.heap.size + 1, m2.l, 43), (w13.heap.size + 1 + 1, [.int .i64 0, .int .i64 0], 24), (w12.heap.size, u.l, 32), (w12.heap.size + 1, [.int .i64 0, .int .i64 0], 24), (w11.heap.size, r.l, 32), (w11.heap.size + 1, m.l, 43), (w11.heap.size + 1 + 1, [.int .i64 0, .int .i64 0], 24), (B17, t.l, 32), (B18, [.int .i64 0, .int .i64 0], 24), (w9.heap.size, k.l, 32), (w9.heap.size + 1, [.int .i64 0, .int .i64 0], 24), (w8.heap.size, d.l, 32), (w8.heap.size + 1, [.int .i64 0, .int .i64 0], 24), (w7.heap.size, c.l, 32), (w7.heap.size + 1, [.int .i64 0, .int .i64 0], 24), (w6.heap.size, b.l, 32), (w6.heap.size + 1, [.int .i64 0, .int .i64 0], 24), (w2.heap.size, a.l, 32), (w2.heap.size + 1, [.int .i64 0, .int .i64 0], 24), (w.heap.size, f.l, 32), (w.heap.size + 1, g.l, 32), (w.heap.size + 1 + 1, h.l, 32)] w W13) := by
              have M := HMy.out.below k13
              have cB := al1 w13 (.cells #[.int .i64 s.a, .int .i64 s.b, .int .i64 s.c] 32)
              have cB := cB.trans ((al1 (w13.alloc (.cells #[.int .i64 s.a, .int .i64 s.b, .int .i64 s.c] 32)) (.cells #[.int .i64 m2.p, .int .i64 m2.q, .int .i64 m2.r, .int .i64 m2.s] 43)).mono (by simp))
              have cB := cB.trans ((al1 ((w13.alloc (.cells #[.int .i64 s.a, .int .i64 s.b, .int .i64 s.c] 32)).alloc (.cells #[.int .i64 m2.p, .int .i64 m2.q, .int .i64 m2.r, .int .i64 m2.s] 43)) (.cells #[.int .i64 0, .int .i64 0] 24)).mono (by simp; omega))
              rw [← hW13] at cB
              refine ⟨fun x hx => ?_, (M.below cB).2⟩
              simp only [List.mem_cons, List.not_mem_nil, or_false] at hx
              rcases hx with rfl | rfl | rfl | hx
              · rw [hW13]; exact Cl.alloc (Cl.alloc (cl_new0 _ s.l _ _ (by simp)) _) _
              · rw [hW13]; exact Cl.alloc (cl_new0 _ m2.l _ _ (by simp)) _
              · rw [hW13]; exact cl_new0 _ [.int .i64 0, .int .i64 0] _ _ (by simp)
              · exact (M.below cB).1 _ (by simp only [List.mem_cons, List.not_mem_nil, or_false]; exact hx)
            clear k13 HMy
            obtain ⟨hgd, hhd, hfa, hga, hdn, hpm, hfi, hff, hOf⟩ := HAll.out
            have hab : a = b := MQ.Cz.comm hfa hga hdn hgd HCa.out.1 HB.out
            have hck : c = k := MQ.Cz.assoc hfa hdn hgd hhd HCa.out.1 HC.out HD.out.1 HK9.out
            have htr : t = r := MQ.Cz.first hfa (by have := (HRr.out.upto hff).2.1; omega) hdn hfi HT10.out HRr.out
            have hus : u = s := MQ.Cz.back (g := ⟨f.a, -f.b, f.c⟩) hfa (by have := (HSs.out.upto hOf).2.1; omega) hdn hpm rfl rfl rfl hfi HU.out HSs.out
            clear hgd hhd hfa hga hdn hpm hfi hff hOf HAll HB HC HD HK9 HT10 HRr HU HSs HCa
            subst hab hck htr hus
            have q0 : W13.cell? ⟨w6.heap.size + 1, 0, none⟩ = some (.int .i64 0) := (HM13.out.1 _ (.tail _ (.tail _ (.tail _ (.tail _ (.tail _ (.tail _ (.tail _ (.tail _ (.tail _ (.tail _ (.tail _ (.tail _ (.tail _ (.tail _ (.tail _ (.tail _ (.tail _ (.head _))))))))))))))))))).cell 0
            have q1 : W13.cell? ⟨w7.heap.size + 1, 0, none⟩ = some (.int .i64 0) := (HM13.out.1 _ (.tail _ (.tail _ (.tail _ (.tail _ (.tail _ (.tail _ (.tail _ (.tail _ (.tail _ (.tail _ (.tail _ (.tail _ (.tail _ (.tail _ (.tail _ (.head _))))))))))))))))).cell 0
            have q2 : W13.cell? ⟨w8.heap.size + 1, 0, none⟩ = some (.int .i64 0) := (HM13.out.1 _ (.tail _ (.tail _ (.tail _ (.tail _ (.tail _ (.tail _ (.tail _ (.tail _ (.tail _ (.tail _ (.tail _ (.tail _ (.tail _ (.head _))))))))))))))).cell 0
            have q3 : W13.cell? ⟨w9.heap.size + 1, 0, none⟩ = some (.int .i64 0) := (HM13.out.1 _ (.tail _ (.tail _ (.tail _ (.tail _ (.tail _ (.tail _ (.tail _ (.tail _ (.tail _ (.tail _ (.tail _ (.head _))))))))))))).cell 0
            have q4 : W13.cell? ⟨B18, 0, none⟩ = some (.int .i64 0) := (HM13.out.1 _ (.tail _ (.tail _ (.tail _ (.tail _ (.tail _ (.tail _ (.tail _ (.tail _ (.tail _ (.head _))))))))))).cell 0
            have q5 : W13.cell? ⟨w11.heap.size + 1 + 1, 0, none⟩ = some (.int .i64 0) := (HM13.out.1 _ (.tail _ (.tail _ (.tail _ (.tail _ (.tail _ (.tail _ (.tail _ (.head _))))))))).cell 0
            have q6 : W13.cell? ⟨w12.heap.size + 1, 0, none⟩ = some (.int .i64 0) := (HM13.out.1 _ (.tail _ (.tail _ (.tail _ (.tail _ (.head _)))))).cell 0
            have q7 : W13.cell? ⟨w13.heap.size + 1 + 1, 0, none⟩ = some (.int .i64 0) := (HM13.out.1 _ (.tail _ (.tail _ (.head _)))).cell 0
            have q8 : W13.cell? ⟨w2.heap.size, 0, none⟩ = some (.int .i64 a.a) := (HM13.out.1 _ (.tail _ (.tail _ (.tail _ (.tail _ (.tail _ (.tail _ (.tail _ (.tail _ (.tail _ (.tail _ (.tail _ (.tail _ (.tail _ (.tail _ (.tail _ (.tail _ (.tail _ (.tail _ (.head _)))))))))))))))))))).cell 0
            have q9 : W13.cell? ⟨w2.heap.size, 1, none⟩ = some (.int .i64 a.b) := (HM13.out.1 _ (.tail _ (.tail _ (.tail _ (.tail _ (.tail _ (.tail _ (.tail _ (.tail _ (.tail _ (.tail _ (.tail _ (.tail _ (.tail _ (.tail _ (.tail _ (.tail _ (.tail _ (.tail _ (.head _)))))))))))))))))))).cell 1
            have q10 : W13.cell? ⟨w2.heap.size, 2, none⟩ = some (.int .i64 a.c) := (HM13.out.1 _ (.tail _ (.tail _ (.tail _ (.tail _ (.tail _ (.tail _ (.tail _ (.tail _ (.tail _ (.tail _ (.tail _ (.tail _ (.tail _ (.tail _ (.tail _ (.tail _ (.tail _ (.tail _ (.head _)))))))))))))))))))).cell 2
            have q11 : W13.cell? ⟨w6.heap.size, 0, none⟩ = some (.int .i64 a.a) := (HM13.out.1 _ (.tail _ (.tail _ (.tail _ (.tail _ (.tail _ (.tail _ (.tail _ (.tail _ (.tail _ (.tail _ (.tail _ (.tail _ (.tail _ (.tail _ (.tail _ (.tail _ (.head _)))))))))))))))))).cell 0
            have q12 : W13.cell? ⟨w6.heap.size, 1, none⟩ = some (.int .i64 a.b) := (HM13.out.1 _ (.tail _ (.tail _ (.tail _ (.tail _ (.tail _ (.tail _ (.tail _ (.tail _ (.tail _ (.tail _ (.tail _ (.tail _ (.tail _ (.tail _ (.tail _ (.tail _ (.head _)))))))))))))))))).cell 1
            have q13 : W13.cell? ⟨w6.heap.size, 2, none⟩ = some (.int .i64 a.c) := (HM13.out.1 _ (.tail _ (.tail _ (.tail _ (.tail _ (.tail _ (.tail _ (.tail _ (.tail _ (.tail _ (.tail _ (.tail _ (.tail _ (.tail _ (.tail _ (.tail _ (.tail _ (.head _)))))))))))))))))).cell 2
            have q14 : W13.cell? ⟨w7.heap.size, 0, none⟩ = some (.int .i64 c.a) := (HM13.out.1 _ (.tail _ (.tail _ (.tail _ (.tail _ (.tail _ (.tail _ (.tail _ (.tail _ (.tail _ (.tail _ (.tail _ (.tail _ (.tail _ (.tail _ (.head _)))))))))))))))).cell 0
            have q15 : W13.cell? ⟨w7.heap.size, 1, none⟩ = some (.int .i64 c.b) := (HM13.out.1 _ (.tail _ (.tail _ (.tail _ (.tail _ (.tail _ (.tail _ (.tail _ (.tail _ (.tail _ (.tail _ (.tail _ (.tail _ (.tail _ (.tail _ (.head _)))))))))))))))).cell 1
            have q16 : W13.cell? ⟨w7.heap.size, 2, none⟩ = some (.int .i64 c.c) := (HM13.out.1 _ (.tail _ (.tail _ (.tail _ (.tail _ (.tail _ (.tail _ (.tail _ (.tail _ (.tail _ (.tail _ (.tail _ (.tail _ (.tail _ (.tail _ (.head _)))))))))))))))).cell 2
            have q17 : W13.cell? ⟨w9.heap.size, 0, none⟩ = some (.int .i64 c.a) := (HM13.out.1 _ (.tail _ (.tail _ (.tail _ (.tail _ (.tail _ (.tail _ (.tail _ (.tail _ (.tail _ (.tail _ (.head _)))))))))))).cell 0
            have q18 : W13.cell? ⟨w9.heap.size, 1, none⟩ = some (.int .i64 c.b) := (HM13.out.1 _ (.tail _ (.tail _ (.tail _ (.tail _ (.tail _ (.tail _ (.tail _ (.tail _ (.tail _ (.tail _ (.head _)))))))))))).cell 1
            have q19 : W13.cell? ⟨w9.heap.size, 2, none⟩ = some (.int .i64 c.c) := (HM13.out.1 _ (.tail _ (.tail _ (.tail _ (.tail _ (.tail _ (.tail _ (.tail _ (.tail _ (.tail _ (.tail _ (.head _)))))))))))).cell 2
            have q20 : W13.cell? ⟨B17, 0, none⟩ = some (.int .i64 t.a) := (HM13.out.1 _ (.tail _ (.tail _ (.tail _ (.tail _ (.tail _ (.tail _ (.tail _ (.tail _ (.head _)))))))))).cell 0
            have q21 : W13.cell? ⟨B17, 1, none⟩ = some (.int .i64 t.b) := (HM13.out.1 _ (.tail _ (.tail _ (.tail _ (.tail _ (.tail _ (.tail _ (.tail _ (.tail _ (.head _)))))))))).cell 1
            have q22 : W13.cell? ⟨B17, 2, none⟩ = some (.int .i64 t.c) := (HM13.out.1 _ (.tail _ (.tail _ (.tail _ (.tail _ (.tail _ (.tail _ (.tail _ (.tail _ (.head _)))))))))).cell 2
            have q23 : W13.cell? ⟨w11.heap.size, 0, none⟩ = some (.int .i64 t.a) := (HM13.out.1 _ (.tail _ (.tail _ (.tail _ (.tail _ (.tail _ (.head _))))))).cell 0
            have q24 : W13.cell? ⟨w11.heap.size, 1, none⟩ = some (.int .i64 t.b) := (HM13.out.1 _ (.tail _ (.tail _ (.tail _ (.tail _ (.tail _ (.head _))))))).cell 1
            have q25 : W13.cell? ⟨w11.heap.size, 2, none⟩ = some (.int .i64 t.c) := (HM13.out.1 _ (.tail _ (.tail _ (.tail _ (.tail _ (.tail _ (.head _))))))).cell 2
            have q26 : W13.cell? ⟨w12.heap.size, 0, none⟩ = some (.int .i64 u.a) := (HM13.out.1 _ (.tail _ (.tail _ (.tail _ (.head _))))).cell 0
            have q27 : W13.cell? ⟨w12.heap.size, 1, none⟩ = some (.int .i64 u.b) := (HM13.out.1 _ (.tail _ (.tail _ (.tail _ (.head _))))).cell 1
            have q28 : W13.cell? ⟨w12.heap.size, 2, none⟩ = some (.int .i64 u.c) := (HM13.out.1 _ (.tail _ (.tail _ (.tail _ (.head _))))).cell 2
            have q29 : W13.cell? ⟨w13.heap.size, 0, none⟩ = some (.int .i64 u.a) := (HM13.out.1 _ (.head _)).cell 0
            have q30 : W13.cell? ⟨w13.heap.size, 1, none⟩ = some (.int .i64 u.b) := (HM13.out.1 _ (.head _)).cell 1
            have q31 : W13.cell? ⟨w13.heap.size, 2, none⟩ = some (.int .i64 u.c) := (HM13.out.1 _ (.head _)).cell 2
            rw [hW13] at q0 q1 q2 q3 q4 q5 q6 q7 q8 q9 q10 q11 q12 q13 q14 q15 q16 q17 q18 q19 q20 q21 q22 q23 q24 q25 q26 q27 q28 q29 q30 q31
            have HKe : Hid (Below w.heap.size w W13) := HM13.out.2
            rw [hW13] at HKe
            clear hW13 HM13
            go_wp2_with fail
            go_ret
            exact ⟨rfl, HKe.out⟩
      · have hcb : (c2 != 0) = true := by simpa using hc2
        refine wpAnyG_take (i := 14) (v := .bool true) rfl (by kernel_rfl) (fun _ _ _ h => h) (Or.inl ⟨by kernel_rfl, ?y14x77⟩) hHeld ?r14x77
        case y14x77 => (intro wS hSw; (go_simp; try simp only [hcb]))
        try simp only [Act.put, List.setIfInBounds_toArray, List.set_cons_zero, List.set_cons_succ]
        refine wpAnyG_take (i := 15) (v := .bool true) rfl (by kernel_rfl) (fun _ _ _ h => h) (Or.inl ⟨by kernel_rfl, ?y15x78⟩) hHeld ?r15x78
        case y15x78 => (intro wS hSw; (go_simp; try rfl))
        try simp only [Act.put, List.setIfInBounds_toArray, List.set_cons_zero, List.set_cons_succ]
        refine wpAnyG_take (i := 16) (v := .bool true) rfl (by kernel_rfl) (fun _ _ _ h => h) (Or.inl ⟨by kernel_rfl, ?y16x79⟩) hHeld ?r16x79
        case y16x79 => (intro wS hSw; (go_simp; try rfl))
        try simp only [Act.put, List.setIfInBounds_toArray, List.set_cons_zero, List.set_cons_succ]
        refine wpAnyG_take (i := 17) (v := undef) rfl (by kernel_rfl) (fun _ _ _ h => h) (Or.inr ⟨by kernel_rfl, rfl⟩) hHeld ?_
        try simp only [Act.put, List.setIfInBounds_toArray, List.set_cons_zero, List.set_cons_succ]
        refine wpAnyG_take (i := 18) (v := undef) rfl (by kernel_rfl) (fun _ _ _ h => h) (Or.inr ⟨by kernel_rfl, rfl⟩) hHeld ?_
        try simp only [Act.put, List.setIfInBounds_toArray, List.set_cons_zero, List.set_cons_succ]
        refine wpAnyG_take (i := 19) (v := undef) rfl (by kernel_rfl) (fun _ _ _ h => h) (Or.inr ⟨by kernel_rfl, rfl⟩) hHeld ?_
        try simp only [Act.put, List.setIfInBounds_toArray, List.set_cons_zero, List.set_cons_succ]
        refine wpAnyG_last (i := 20) rfl (by kernel_rfl) (by kernel_rfl) (fun K hK => ?_)
        go_simp
        refine hK.out _ _ ?_
        clear hK K
        try simp only [Act.put, List.setIfInBounds_toArray, List.set_cons_zero, List.set_cons_succ]
        refine wpAnyG_done (by kernel_rfl) ?_ _
        have HKe : Hid (Below w.heap.size w uc) := Mc.2
        clear hHeld
        go_wp2_with fail
        go_ret
        exact ⟨rfl, HKe.out⟩
    · have hDb2 : (D != D2) = true := by simpa using hDE
      refine wpAnyG_take (i := 8) (v := .bool true) rfl (by kernel_rfl) (fun _ _ _ h => h) (Or.inl ⟨by kernel_rfl, ?y8x80⟩) hHeld ?r8x80
      case y8x80 => (intro wS hSw; (go_simp; try simp only [hDb2]))
      try simp only [Act.put, List.setIfInBounds_toArray, List.set_cons_zero, List.set_cons_succ]
      refine wpAnyG_take (i := 9) (v := .bool true) rfl (by kernel_rfl) (fun _ _ _ h => h) (Or.inl ⟨by kernel_rfl, ?y9x81⟩) hHeld ?r9x81
      case y9x81 => (intro wS hSw; (go_simp; try rfl))
      try simp only [Act.put, List.setIfInBounds_toArray, List.set_cons_zero, List.set_cons_succ]
      refine wpAnyG_take (i := 10) (v := .bool true) rfl (by kernel_rfl) (fun _ _ _ h => h) (Or.inl ⟨by kernel_rfl, ?y10x82⟩) hHeld ?r10x82
      case y10x82 => (intro wS hSw; (go_simp; try rfl))
      try simp only [Act.put, List.setIfInBounds_toArray, List.set_cons_zero, List.set_cons_succ]
      refine wpAnyG_take (i := 11) (v := undef) rfl (by kernel_rfl) (fun _ _ _ h => h) (Or.inr ⟨by kernel_rfl, rfl⟩) hHeld ?_
      try simp only [Act.put, List.setIfInBounds_toArray, List.set_cons_zero, List.set_cons_succ]
      refine wpAnyG_take (i := 12) (v := undef) rfl (by kernel_rfl) (fun _ _ _ h => h) (Or.inr ⟨by kernel_rfl, rfl⟩) hHeld ?_
      try simp only [Act.put, List.setIfInBounds_toArray, List.set_cons_zero, List.set_cons_succ]
      refine wpAnyG_take (i := 13) (v := undef) rfl (by kernel_rfl) (fun _ _ _ h => h) (Or.inr ⟨by kernel_rfl, rfl⟩) hHeld ?_
      try simp only [Act.put, List.setIfInBounds_toArray, List.set_cons_zero, List.set_cons_succ]
      refine wpAnyG_take (i := 14) (v := undef) rfl (by kernel_rfl) (fun _ _ _ h => h) (Or.inr ⟨by kernel_rfl, rfl⟩) hHeld ?_
      try simp only [Act.put, List.setIfInBounds_toArray, List.set_cons_zero, List.set_cons_succ]
      refine wpAnyG_take (i := 15) (v := .bool true) rfl (by kernel_rfl) (fun _ _ _ h => h) (Or.inl ⟨by kernel_rfl, ?y15x83⟩) hHeld ?r15x83
      case y15x83 => (intro wS hSw; (go_simp; try rfl))
      try simp only [Act.put, List.setIfInBounds_toArray, List.set_cons_zero, List.set_cons_succ]
      refine wpAnyG_take (i := 16) (v := .bool true) rfl (by kernel_rfl) (fun _ _ _ h => h) (Or.inl ⟨by kernel_rfl, ?y16x84⟩) hHeld ?r16x84
      case y16x84 => (intro wS hSw; (go_simp; try rfl))
      try simp only [Act.put, List.setIfInBounds_toArray, List.set_cons_zero, List.set_cons_succ]
      refine wpAnyG_take (i := 17) (v := undef) rfl (by kernel_rfl) (fun _ _ _ h => h) (Or.inr ⟨by kernel_rfl, rfl⟩) hHeld ?_
      try simp only [Act.put, List.setIfInBounds_toArray, List.set_cons_zero, List.set_cons_succ]
      refine wpAnyG_take (i := 18) (v := undef) rfl (by kernel_rfl) (fun _ _ _ h => h) (Or.inr ⟨by kernel_rfl, rfl⟩) hHeld ?_
      try simp only [Act.put, List.setIfInBounds_toArray, List.set_cons_zero, List.set_cons_succ]
      refine wpAnyG_take (i := 19) (v := undef) rfl (by kernel_rfl) (fun _ _ _ h => h) (Or.inr ⟨by kernel_rfl, rfl⟩) hHeld ?_
      try simp only [Act.put, List.setIfInBounds_toArray, List.set_cons_zero, List.set_cons_succ]
      refine wpAnyG_last (i := 20) rfl (by kernel_rfl) (by kernel_rfl) (fun K hK => ?_)
      go_simp
      refine hK.out _ _ ?_
      clear hK K
      try simp only [Act.put, List.setIfInBounds_toArray, List.set_cons_zero, List.set_cons_succ]
      refine wpAnyG_done (by kernel_rfl) ?_ _
      have HKe : Hid (Below w.heap.size w ub) := Mb.2
      clear hHeld
      go_wp2_with fail
      go_ret
      exact ⟨rfl, HKe.out⟩
  · have hcb : (c != 0) = true := by simpa using hc
    go_wp2_with fail
    rw [← hW2]
    have M2 := HM2.out.below ((Below.refl W2.heap.size W2).drew)
    have hS2 : S7 f h c w.heap.size w2.heap.size W2 := ⟨(HM2.out.1 _ (.tail _ (.tail _ (.head _)))).cell 0, (HM2.out.1 _ (.tail _ (.tail _ (.head _)))).cell 1, (HM2.out.1 _ (.tail _ (.tail _ (.head _)))).cell 2, (HM2.out.1 _ (.tail _ (.tail _ (.tail _ (.tail _ (.head _)))))).cell 0, (HM2.out.1 _ (.tail _ (.tail _ (.tail _ (.tail _ (.head _)))))).cell 1, (HM2.out.1 _ (.tail _ (.tail _ (.tail _ (.tail _ (.head _)))))).cell 2, (HM2.out.1 _ (.tail _ (.head _))).cell 0⟩
    refine wp_region_G (S7 f h c w.heap.size w2.heap.size) 20 (by kernel_rfl) hS2 (fun hHeld => ?_)
    clear hW2 hS2 HM2 q0 q1 q2 q3 q4 q5 q6
    refine wpAnyG_take (i := 0) (v := ?v0x85) rfl (by kernel_rfl) (fun _ _ _ h => h) (Or.inl ⟨by rfl, ?y0x85⟩) hHeld ?r0x85
    case y0x85 => (intro wS hSw; obtain ⟨s1, s2, s3, s4, s5, s6, s7⟩ := hSw; go_simp; try with_reducible rfl)
    try simp only [Act.put, List.setIfInBounds_toArray, List.set_cons_zero, List.set_cons_succ]
    refine wpAnyG_take (i := 1) (v := ?v1x86) rfl (by kernel_rfl) (fun _ _ _ h => h) (Or.inl ⟨by rfl, ?y1x86⟩) hHeld ?r1x86
    case y1x86 => (intro wS hSw; obtain ⟨s1, s2, s3, s4, s5, s6, s7⟩ := hSw; go_simp; try with_reducible rfl)
    try simp only [Act.put, List.setIfInBounds_toArray, List.set_cons_zero, List.set_cons_succ]
    refine wpAnyG_take (i := 2) (v := .bool true) rfl (by kernel_rfl) (fun _ _ _ h => h) (Or.inl ⟨by kernel_rfl, ?y2x87⟩) hHeld ?r2x87
    case y2x87 => (intro wS hSw; (go_simp; try simp only [hcb]))
    try simp only [Act.put, List.setIfInBounds_toArray, List.set_cons_zero, List.set_cons_succ]
    refine wpAnyG_take (i := 3) (v := .bool true) rfl (by kernel_rfl) (fun _ _ _ h => h) (Or.inl ⟨by kernel_rfl, ?y3x88⟩) hHeld ?r3x88
    case y3x88 => (intro wS hSw; (go_simp; try rfl))
    try simp only [Act.put, List.setIfInBounds_toArray, List.set_cons_zero, List.set_cons_succ]
    refine wpAnyG_take (i := 4) (v := undef) rfl (by kernel_rfl) (fun _ _ _ h => h) (Or.inr ⟨by kernel_rfl, rfl⟩) hHeld ?_
    try simp only [Act.put, List.setIfInBounds_toArray, List.set_cons_zero, List.set_cons_succ]
    refine wpAnyG_take (i := 5) (v := undef) rfl (by kernel_rfl) (fun _ _ _ h => h) (Or.inr ⟨by kernel_rfl, rfl⟩) hHeld ?_
    try simp only [Act.put, List.setIfInBounds_toArray, List.set_cons_zero, List.set_cons_succ]
    refine wpAnyG_take (i := 6) (v := undef) rfl (by kernel_rfl) (fun _ _ _ h => h) (Or.inr ⟨by kernel_rfl, rfl⟩) hHeld ?_
    try simp only [Act.put, List.setIfInBounds_toArray, List.set_cons_zero, List.set_cons_succ]
    refine wpAnyG_take (i := 7) (v := undef) rfl (by kernel_rfl) (fun _ _ _ h => h) (Or.inr ⟨by kernel_rfl, rfl⟩) hHeld ?_
    try simp only [Act.put, List.setIfInBounds_toArray, List.set_cons_zero, List.set_cons_succ]
    refine wpAnyG_take (i := 8) (v := undef) rfl (by kernel_rfl) (fun _ _ _ h => h) (Or.inr ⟨by kernel_rfl, rfl⟩) hHeld ?_
    try simp only [Act.put, List.setIfInBounds_toArray, List.set_cons_zero, List.set_cons_succ]
    refine wpAnyG_take (i := 9) (v := .bool true) rfl (by kernel_rfl) (fun _ _ _ h => h) (Or.inl ⟨by kernel_rfl, ?y9x89⟩) hHeld ?r9x89
    case y9x89 => (intro wS hSw; (go_simp; try rfl))
    try simp only [Act.put, List.setIfInBounds_toArray, List.set_cons_zero, List.set_cons_succ]
    refine wpAnyG_take (i := 10) (v := .bool true) rfl (by kernel_rfl) (fun _ _ _ h => h) (Or.inl ⟨by kernel_rfl, ?y10x90⟩) hHeld ?r10x90
    case y10x90 => (intro wS hSw; (go_simp; try rfl))
    try simp only [Act.put, List.setIfInBounds_toArray, List.set_cons_zero, List.set_cons_succ]
    refine wpAnyG_take (i := 11) (v := undef) rfl (by kernel_rfl) (fun _ _ _ h => h) (Or.inr ⟨by kernel_rfl, rfl⟩) hHeld ?_
    try simp only [Act.put, List.setIfInBounds_toArray, List.set_cons_zero, List.set_cons_succ]
    refine wpAnyG_take (i := 12) (v := undef) rfl (by kernel_rfl) (fun _ _ _ h => h) (Or.inr ⟨by kernel_rfl, rfl⟩) hHeld ?_
    try simp only [Act.put, List.setIfInBounds_toArray, List.set_cons_zero, List.set_cons_succ]
    refine wpAnyG_take (i := 13) (v := undef) rfl (by kernel_rfl) (fun _ _ _ h => h) (Or.inr ⟨by kernel_rfl, rfl⟩) hHeld ?_
    try simp only [Act.put, List.setIfInBounds_toArray, List.set_cons_zero, List.set_cons_succ]
    refine wpAnyG_take (i := 14) (v := undef) rfl (by kernel_rfl) (fun _ _ _ h => h) (Or.inr ⟨by kernel_rfl, rfl⟩) hHeld ?_
    try simp only [Act.put, List.setIfInBounds_toArray, List.set_cons_zero, List.set_cons_succ]
    refine wpAnyG_take (i := 15) (v := .bool true) rfl (by kernel_rfl) (fun _ _ _ h => h) (Or.inl ⟨by kernel_rfl, ?y15x91⟩) hHeld ?r15x91
    case y15x91 => (intro wS hSw; (go_simp; try rfl))
    try simp only [Act.put, List.setIfInBounds_toArray, List.set_cons_zero, List.set_cons_succ]
    refine wpAnyG_take (i := 16) (v := .bool true) rfl (by kernel_rfl) (fun _ _ _ h => h) (Or.inl ⟨by kernel_rfl, ?y16x92⟩) hHeld ?r16x92
    case y16x92 => (intro wS hSw; (go_simp; try rfl))
    try simp only [Act.put, List.setIfInBounds_toArray, List.set_cons_zero, List.set_cons_succ]
    refine wpAnyG_take (i := 17) (v := undef) rfl (by kernel_rfl) (fun _ _ _ h => h) (Or.inr ⟨by kernel_rfl, rfl⟩) hHeld ?_
    try simp only [Act.put, List.setIfInBounds_toArray, List.set_cons_zero, List.set_cons_succ]
    refine wpAnyG_take (i := 18) (v := undef) rfl (by kernel_rfl) (fun _ _ _ h => h) (Or.inr ⟨by kernel_rfl, rfl⟩) hHeld ?_
    try simp only [Act.put, List.setIfInBounds_toArray, List.set_cons_zero, List.set_cons_succ]
    refine wpAnyG_take (i := 19) (v := undef) rfl (by kernel_rfl) (fun _ _ _ h => h) (Or.inr ⟨by kernel_rfl, rfl⟩) hHeld ?_
    try simp only [Act.put, List.setIfInBounds_toArray, List.set_cons_zero, List.set_cons_succ]
    refine wpAnyG_last (i := 20) rfl (by kernel_rfl) (by kernel_rfl) (fun K hK => ?_)
    go_simp
    refine hK.out _ _ ?_
    clear hK K
    try simp only [Act.put, List.setIfInBounds_toArray, List.set_cons_zero, List.set_cons_succ]
    refine wpAnyG_done (by kernel_rfl) ?_ _
    have HKe : Hid (Below w.heap.size w W2.drew) := M2.2
    clear hHeld
    go_wp2_with fail
    go_ret
    exact ⟨rfl, HKe.out⟩

end Go.Proofs.Ytijkanilpblogae
