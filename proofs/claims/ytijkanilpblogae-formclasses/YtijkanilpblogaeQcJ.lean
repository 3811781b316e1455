/- The program: Compose. -/
import Derived.Test.YtijkanilpblogaeQcI
import Derived.Test.YtijkanilpblogaeFormCom
import Derived.Test.YtijkanilpblogaeRegionG
set_option linter.unusedSimpArgs false
set_option linter.unusedVariables false
set_option maxRecDepth 100000
namespace Go.Proofs.Ytijkanilpblogae
open Go.RowKit

/-- The memory of the walk. -/
structure Kp (h : Nat) (f g : Qf) (w W : World) : Prop where
  cf : Cl h f.l 32 W
  cg : Cl (h + 1) g.l 32 W
  o : Cl (h + 1 + 1) [.int .i64 0, .int .i64 0, .int .i64 0] 32 W
  e : Sv (h + 1 + 1 + 1) 0 0 W
  l : Cl (h + 1 + 1 + 1 + 1) [.int .i64 f.a, .int .i64 f.b, .int .i64 f.c, .int .i64 g.a, .int .i64 g.b, .int .i64 g.c] 32 W
  k : Below h w W
theorem Kp.below {h : Nat} {f g : Qf} {w W W' : World} (x : Kp h f g w W) (c : Below W.heap.size W W') : Kp h f g w W' :=
  ⟨x.cf.below c, x.cg.below c, x.o.below c, x.e.below c, x.l.below c, x.k.trans (c.mono (Nat.le_of_lt x.cf.lt))⟩

/-- The cells that are read. -/
abbrev S6k (f g : Qf) (b : Nat) (W : World) : Prop :=
  W.cell? ⟨b, 0, none⟩ = some (.int .i64 f.a) ∧ W.cell? ⟨b, 1, none⟩ = some (.int .i64 f.b) ∧ W.cell? ⟨b, 2, none⟩ = some (.int .i64 f.c) ∧
  W.cell? ⟨b + 1, 0, none⟩ = some (.int .i64 g.a) ∧ W.cell? ⟨b + 1, 1, none⟩ = some (.int .i64 g.b) ∧ W.cell? ⟨b + 1, 2, none⟩ = some (.int .i64 g.c)
theorem s6k_of {h : Nat} {f g : Qf} {w W : World} (x : Kp h f g w W) : S6k f g h W := ⟨x.cf.cell 0, x.cf.cell 1, x.cf.cell 2, x.cg.cell 0, x.cg.cell 1, x.cg.cell 2⟩
theorem field_turned (w : World) (a b c p q r s : Int) : (Instr.field 63 (.agg #[.int .i64 a, .int .i64 b, .int .i64 c, .int .i64 p, .int .i64 q, .int .i64 r, .int .i64 s]) 0).run Try.prog w = .ok (.agg #[.int .i64 a, .int .i64 b, .int .i64 c]) w := by
  kernel_rfl

theorem cmp_red {f g h : Qf} (hf : ffault f = (0, 0)) (hg : ffault g = (0, 0)) (hd : f.disc = g.disc) (c : Cmp f g h) (w : World) :
    Calls Try.prog 33 #[h.v] w fun e w' => (∃ (r : Qf) (m : Mt), e = .returned (Tv r m) ∧ MQ.Cz f g r ∧ Int.gcd (Int.gcd r.a r.b) r.c = 1) ∧ Below w.heap.size w w' := by
  obtain ⟨_, fa, fd, fg⟩ := ffault_ok hf
  obtain ⟨_, ga, _, gg⟩ := ffault_ok hg
  refine (reduce_any h w c.up c.a (by rw [c.disc]; exact fd)).mono ?_
  rintro e w' ⟨⟨r, M, rfl, hr, ha⟩, k⟩
  exact ⟨⟨r, M.w, rfl, MQ.comp_cz fa ga c.a ha fd hd.symm c.disc (MQ.Pm.of_gcd fg) (MQ.Pm.of_gcd gg) c.co hr⟩, k⟩

set_option maxHeartbeats 4000000 in
theorem Compose_any (f g : Qf) (w : World) : Calls Try.prog 13 #[f.v, g.v] w fun e w' => ∃ h, e = .returned (.tuple #[h.v, ffv (compF f g)]) ∧ ComOut f g h ∧ Below w.heap.size w w' := by
  obtain ⟨c, d, hcd⟩ : ∃ c d, compF f g = (c, d) := ⟨_, _, rfl⟩
  have HCD : Hid (compF f g = (c, d)) := hcd
  rw [hcd]
  clear hcd
  obtain ⟨c0, d0, h0⟩ : ∃ c d, ffault f = (c, d) := ⟨_, _, rfl⟩
  obtain ⟨c1, d1, h1⟩ : ∃ c d, ffault g = (c, d) := ⟨_, _, rfl⟩
  have HF0 : Hid (ffault f = (c0, d0)) := h0
  have HF1 : Hid (ffault g = (c1, d1)) := h1
  have HCf : Hid (∀ w, Calls Try.prog 31 #[f.v] w fun e w' => e = .returned (.agg #[.int .i64 c0, .int .i64 d0]) ∧ Below w.heap.size w w') := fun w => by have k := Check_any f w; rw [h0] at k; exact k
  have HCg : Hid (∀ w, Calls Try.prog 31 #[g.v] w fun e w' => e = .returned (.agg #[.int .i64 c1, .int .i64 d1]) ∧ Below w.heap.size w w') := fun w => by have k := Check_any g w; rw [h1] at k; exact k
  clear h0 h1
  unfold Qf.v at HCf HCg ⊢
  unfold ffv
  go_enter Try.func13, Try.ntmps13
  go_wp2
  obtain ⟨W1, hW1⟩ : ∃ W1, W1 = ((((w.alloc (.cells #[.int .i64 f.a, .int .i64 f.b, .int .i64 f.c] 32)).alloc (.cells #[.int .i64 g.a, .int .i64 g.b, .int .i64 g.c] 32)).alloc (.cells #[.int .i64 0, .int .i64 0, .int .i64 0] 32)).alloc (.cells #[.int .i64 0, .int .i64 0] 24)).alloc (.cells #[.int .i64 f.a, .int .i64 f.b, .int .i64 f.c, .int .i64 g.a, .int .i64 g.b, .int .i64 g.c] 32) := ⟨_, rfl⟩
  have HK1 : Hid (Kp w.heap.size f g w W1) := by
    show Kp _ _ _ _ _
    rw [hW1]
    exact ⟨((((Cl.new f.l _ w).alloc _).alloc _).alloc _).alloc _, (((cl_new0 _ g.l _ _ (by simp)).alloc _).alloc _).alloc _, ((cl_new0 _ [.int .i64 0, .int .i64 0, .int .i64 0] _ _ (by simp)).alloc _).alloc _, sv_al (sv_new0 _ _ _ (by simp) _ _) _, cl_new0 _ _ _ _ (by simp),
      Below.alloc (Below.alloc (Below.alloc (Below.alloc (Below.alloc (Below.refl _ _) (Nat.le_refl _) _) (by simp) _) (by simp; omega) _) (by simp; omega) _) (by simp; omega) _⟩
  rw [← hW1]
  clear hW1
  go_loopw [13] (fun iv wx => ∃ i : Nat, i ≤ 2 ∧ iv = .int .i64 i ∧ Hid ((0 < i → c0 = 0 ∧ d0 = 0) ∧ (1 < i → c1 = 0 ∧ d1 = 0) ∧ Kp w.heap.size f g w wx)) (fun iv _ => 2 - (intOf iv).toNat)
  case atStart => exact ⟨0, by omega, rfl, fun h => by omega, fun h => by omega, HK1.out⟩
  case round =>
    obtain ⟨i, hi, rfl, HR⟩ := hrel
    clear HK1
    have HK : Hid (Kp w.heap.size f g w wr) := HR.out.2.2
    have hi3 : i = 0 ∨ i = 1 ∨ i = 2 := by omega
    rcases hi3 with rfl | rfl | rfl
    · have l0 := HK.out.l.cell 0
      have l1 := HK.out.l.cell 1
      have l2 := HK.out.l.cell 2
      simp at l0 l1 l2
      go_wp2_with fail
      refine (HCf.out _).mono ?_
      rintro e w1 ⟨rfl, k1⟩
      have HK2 : Hid (Kp w.heap.size f g w w1) := (HK.out.below (al1 _ _)).below k1
      have z9 : w.heap.size + 1 + 1 + 1 + 1 < w1.heap.size := HK2.out.l.lt
      have HK3 : Hid (Kp w.heap.size f g w (w1.alloc (.cells #[.int .i64 c0, .int .i64 d0] 24))) := HK2.out.below (al1 _ _)
      clear k1 HK HK2 l0 l1 l2
      rcases ffault_code HF0.out with ⟨rfl, rfl⟩ | hc
      · go_wp2
        go_roundw
        case rel => exact ⟨1, by omega, rfl, fun _ => by simp, fun h => by omega, HK3.out⟩
        case measure => simp [intOf]
      · have hcb : (c0 != 0) = true := by simpa using hc
        obtain ⟨rfl, rfl⟩ : c = c0 ∧ d = d0 := by
          have h4 := HCD.out
          unfold compF at h4
          rw [if_pos (by rw [HF0.out]; intro h; exact hc (congrArg Prod.fst h)), HF0.out] at h4
          simp at h4; omega
        have HX : Hid (c ≠ 0) := hc
        clear hc
        obtain ⟨W3, hW3⟩ : ∃ W3, W3 = w1.alloc (.cells #[.int .i64 c, .int .i64 d] 24) := ⟨_, rfl⟩
        rw [← hW3] at HK3
        have CE : Sv w1.heap.size c d W3 := by rw [hW3]; exact sv_new0 _ _ _ rfl _ _
        have e0 := CE.c0
        have e1 := CE.c1
        have a0 := HK3.out.o.cell 0
        have a1 := HK3.out.o.cell 1
        have a2 := HK3.out.o.cell 2
        have a3 := HK3.out.o.frozen 0
        have a4 := HK3.out.o.frozen 1
        have a5 := HK3.out.o.frozen 2
        have a6 := HK3.out.o.lt
        have r0 := HK3.out.e.c0
        have r1 := HK3.out.e.c1
        have r2 := HK3.out.e.f0
        have r3 := HK3.out.e.f1
        have r4 := HK3.out.e.lt
        simp at a0 a1 a2
        clear CE
        rw [hW3] at e0 e1 a0 a1 a2 a3 a4 a5 a6 r0 r1 r2 r3 r4
        go_wp2_with fail
        rw [← hW3] at *
        clear hW3
        go_region
        go_wp2
        refine bodyPost_ret (v := .tuple #[Qf.v ⟨0, 0, 0⟩, .agg #[.int .i64 c, .int .i64 d]]) (by simp [Qf.v, results, Try.results13, go_sem, a0, a1, a2, a6, r0, r1, r4]) rfl ⟨⟨0, 0, 0⟩, rfl, ⟨fun _ => rfl, fun h => ?_⟩, ?_⟩
        · rw [HCD.out] at h; simp at h; exact absurd h.1 HX.out
        refine Below.drew ?_
        iterate 5 refine Below.setCell ?_ (by first | (show w.heap.size ≤ w.heap.size + 1 + 1; omega) | (show w.heap.size ≤ w.heap.size + 1 + 1 + 1; omega)) _
        exact HK3.out.k
    · have l0 := HK.out.l.cell 3
      have l1 := HK.out.l.cell 4
      have l2 := HK.out.l.cell 5
      simp at l0 l1 l2
      obtain ⟨rfl, rfl⟩ := HR.out.1 (by omega)
      go_wp2_with fail
      refine (HCg.out _).mono ?_
      rintro e w1 ⟨rfl, k1⟩
      have HK2 : Hid (Kp w.heap.size f g w w1) := (HK.out.below (al1 _ _)).below k1
      have z9 : w.heap.size + 1 + 1 + 1 + 1 < w1.heap.size := HK2.out.l.lt
      have HK3 : Hid (Kp w.heap.size f g w (w1.alloc (.cells #[.int .i64 c1, .int .i64 d1] 24))) := HK2.out.below (al1 _ _)
      clear k1 HK HK2 l0 l1 l2
      rcases ffault_code HF1.out with ⟨rfl, rfl⟩ | hc
      · go_wp2
        go_roundw
        case rel => exact ⟨2, by omega, rfl, fun _ => by simp, fun _ => by simp, HK3.out⟩
        case measure => simp [intOf]
      · have hcb : (c1 != 0) = true := by simpa using hc
        obtain ⟨rfl, rfl⟩ : c = c1 ∧ d = d1 := by
          have h4 := HCD.out
          unfold compF at h4
          rw [if_neg (by rw [HF0.out]; simp), if_pos (by rw [HF1.out]; intro h; exact hc (congrArg Prod.fst h)), HF1.out] at h4
          simp at h4; omega
        have HX : Hid (c ≠ 0) := hc
        clear hc
        obtain ⟨W3, hW3⟩ : ∃ W3, W3 = w1.alloc (.cells #[.int .i64 c, .int .i64 d] 24) := ⟨_, rfl⟩
        rw [← hW3] at HK3
        have CE : Sv w1.heap.size c d W3 := by rw [hW3]; exact sv_new0 _ _ _ rfl _ _
        have e0 := CE.c0
        have e1 := CE.c1
        have a0 := HK3.out.o.cell 0
        have a1 := HK3.out.o.cell 1
        have a2 := HK3.out.o.cell 2
        have a3 := HK3.out.o.frozen 0
        have a4 := HK3.out.o.frozen 1
        have a5 := HK3.out.o.frozen 2
        have a6 := HK3.out.o.lt
        have r0 := HK3.out.e.c0
        have r1 := HK3.out.e.c1
        have r2 := HK3.out.e.f0
        have r3 := HK3.out.e.f1
        have r4 := HK3.out.e.lt
        simp at a0 a1 a2
        clear CE
        rw [hW3] at e0 e1 a0 a1 a2 a3 a4 a5 a6 r0 r1 r2 r3 r4
        go_wp2_with fail
        rw [← hW3] at *
        clear hW3
        go_region
        go_wp2
        refine bodyPost_ret (v := .tuple #[Qf.v ⟨0, 0, 0⟩, .agg #[.int .i64 c, .int .i64 d]]) (by simp [Qf.v, results, Try.results13, go_sem, a0, a1, a2, a6, r0, r1, r4]) rfl ⟨⟨0, 0, 0⟩, rfl, ⟨fun _ => rfl, fun h => ?_⟩, ?_⟩
        · rw [HCD.out] at h; simp at h; exact absurd h.1 HX.out
        refine Below.drew ?_
        iterate 5 refine Below.setCell ?_ (by first | (show w.heap.size ≤ w.heap.size + 1 + 1; omega) | (show w.heap.size ≤ w.heap.size + 1 + 1 + 1; omega)) _
        exact HK3.out.k
    · obtain ⟨rfl, rfl⟩ := HR.out.1 (by omega)
      obtain ⟨rfl, rfl⟩ := HR.out.2.1 (by omega)
      obtain ⟨hfu, _, _, _⟩ := ffault_ok HF0.out
      obtain ⟨hgu, _, _, _⟩ := ffault_ok HF1.out
      obtain ⟨D, hD⟩ : ∃ D, D = f.disc := ⟨_, rfl⟩
      obtain ⟨D2, hD2⟩ : ∃ D, D = g.disc := ⟨_, rfl⟩
      have HDD : Hid (D = f.disc ∧ D2 = g.disc) := ⟨hD, hD2⟩
      have HDf : Hid (∀ w, Calls Try.prog 32 #[f.v] w fun e w' => e = .returned (.int .i64 D) ∧ Below w.heap.size w w') := fun w => by rw [hD]; exact discriminant_any f w hfu
      have HDg : Hid (∀ w, Calls Try.prog 32 #[g.v] w fun e w' => e = .returned (.int .i64 D2) ∧ Below w.heap.size w w') := fun w => by rw [hD2]; exact discriminant_any g w hgu
      unfold Qf.v at HDf HDg
      clear hfu hgu hD hD2
      go_wp2_with fail
      have N3 := HK.out.below ((Below.refl wr.heap.size wr).drew)
      refine wp_region_G (S6k f g w.heap.size) 4 (by kernel_rfl) (s6k_of N3) (fun hHeld => ?_)
      refine wpAnyG_take (i := 0) (v := ?v0x1) rfl (by kernel_rfl) (fun _ _ _ h => h) (Or.inl ⟨by rfl, ?y0x1⟩) hHeld ?r0x1
      case y0x1 => (intro wS hSw; obtain ⟨s1, s2, s3, s4, s5, s6⟩ := hSw; go_simp; try with_reducible rfl)
      try simp only [Act.put, List.setIfInBounds_toArray, List.set_cons_zero, List.set_cons_succ]
      refine wpAnyG_take (i := 2) (v := ?v2x2) rfl (by kernel_rfl) (fun _ _ _ h => h) (Or.inl ⟨by rfl, ?y2x2⟩) hHeld ?r2x2
      case y2x2 => (intro wS hSw; obtain ⟨s1, s2, s3, s4, s5, s6⟩ := hSw; go_simp; try with_reducible rfl)
      try simp only [Act.put, List.setIfInBounds_toArray, List.set_cons_zero, List.set_cons_succ]
      refine wpAnyG_one (i := 1) rfl (by kernel_rfl) (fun K hK => ?_)
      go_simp
      refine (HDf.out _).mono ?_
      rintro e ua ⟨rfl, ka⟩
      have N4 := N3.below ka
      refine hK.out _ _ (s6k_of N4) ?_
      clear hK K
      try simp only [Act.put, List.setIfInBounds_toArray, List.set_cons_zero, List.set_cons_succ]
      refine wpAnyG_one (i := 3) rfl (by kernel_rfl) (fun K hK => ?_)
      go_simp
      refine (HDg.out _).mono ?_
      rintro e ub ⟨rfl, kb⟩
      have N5 := N4.below kb
      refine hK.out _ _ (s6k_of N5) ?_
      clear hK K
      try simp only [Act.put, List.setIfInBounds_toArray, List.set_cons_zero, List.set_cons_succ]
      clear hHeld
      have hHeld : S6k f g w.heap.size ub := s6k_of N5
      have HK5 : Hid (Kp w.heap.size f g w ub) := N5
      have a0 := HK5.out.o.cell 0
      have a1 := HK5.out.o.cell 1
      have a2 := HK5.out.o.cell 2
      have a3 := HK5.out.o.frozen 0
      have a4 := HK5.out.o.frozen 1
      have a5 := HK5.out.o.frozen 2
      have a6 := HK5.out.o.lt
      have r0 := HK5.out.e.c0
      have r1 := HK5.out.e.c1
      have r2 := HK5.out.e.f0
      have r3 := HK5.out.e.f1
      have r4 := HK5.out.e.lt
      simp at a0 a1 a2
      by_cases hDE : D = D2
      · have hne : (D != D2) = false := by simpa using hDE
        have hdd : f.disc = g.disc := by rw [← HDD.out.1, ← HDD.out.2]; exact hDE
        obtain ⟨rfl, rfl⟩ : c = 0 ∧ d = 0 := by
          have h4 := HCD.out
          rw [compF_ok HF0.out HF1.out hdd] at h4
          simp at h4; omega
        have HCm : Hid (∀ w, Calls Try.prog 34 #[f.v, g.v] w fun e w' => ∃ h, e = .returned h.v ∧ Cmp f g h ∧ Below w.heap.size w w') := fun w => compose_any f g w HF0.out HF1.out hdd
        have HRm : Hid (∀ h, Cmp f g h → ∀ w, Calls Try.prog 33 #[h.v] w fun e w' => (∃ (r : Qf) (m : Mt), e = .returned (Tv r m) ∧ MQ.Cz f g r ∧ Int.gcd (Int.gcd r.a r.b) r.c = 1) ∧ Below w.heap.size w w') := fun h c w => cmp_red HF0.out HF1.out hdd c w
        unfold Qf.v at HCm HRm
        unfold Tv at HRm
        clear hDE hdd
        refine wpAnyG_last (i := 4) rfl (by kernel_rfl) (by kernel_rfl) (fun K hK => ?_)
        go_simp
        refine hK.out _ _ ?_
        clear hK K
        try simp only [Act.put, List.setIfInBounds_toArray, List.set_cons_zero, List.set_cons_succ]
        refine wpAnyG_done (by kernel_rfl) ?_ _
        have q0 := HK5.out.cf.cell 0
        have q1 := HK5.out.cf.cell 1
        have q2 := HK5.out.cf.cell 2
        have q3 := HK5.out.cg.cell 0
        have q4 := HK5.out.cg.cell 1
        have q5 := HK5.out.cg.cell 2
        simp at q0 q1 q2 q3 q4 q5
        clear hHeld N3 N4 N5 ka kb HK HDf HDg a0 a1 a2 a3 a4 a5 a6 r0 r1 r2 r3 r4
        go_wp2_with fail
        refine (HCm.out _).mono ?_
        rintro e w5 ⟨h, rfl, hcm, k5⟩
        have HK6 : Hid (Kp w.heap.size f g w w5) := HK5.out.below k5
        have HRh : Hid (∀ w, Calls Try.prog 33 #[.agg #[.int .i64 h.a, .int .i64 h.b, .int .i64 h.c]] w fun e w' => (∃ (r : Qf) (m : Mt), e = .returned (.agg #[.int .i64 r.a, .int .i64 r.b, .int .i64 r.c, .int .i64 m.p, .int .i64 m.q, .int .i64 m.r, .int .i64 m.s]) ∧ MQ.Cz f g r ∧ Int.gcd (Int.gcd r.a r.b) r.c = 1) ∧ Below w.heap.size w w') := HRm.out h hcm
        clear hcm k5 HK5 HCm HRm q0 q1 q2 q3 q4 q5
        go_wp2_with fail
        refine (HRh.out _).mono ?_
        rintro e w6 ⟨⟨r, m, rfl, hcz⟩, k6⟩
        have HK7 : Hid (Kp w.heap.size f g w w6) := HK6.out.below k6
        have HCz : Hid (MQ.Cz f g r ∧ Int.gcd (Int.gcd r.a r.b) r.c = 1) := hcz
        have hfld := fun w : World => field_turned w r.a r.b r.c m.p m.q m.r m.s
        have a0 := HK7.out.o.cell 0
        have a1 := HK7.out.o.cell 1
        have a2 := HK7.out.o.cell 2
        have a3 := HK7.out.o.frozen 0
        have a4 := HK7.out.o.frozen 1
        have a5 := HK7.out.o.frozen 2
        have a6 := HK7.out.o.lt
        have r0 := HK7.out.e.c0
        have r1 := HK7.out.e.c1
        have r2 := HK7.out.e.f0
        have r3 := HK7.out.e.f1
        have r4 := HK7.out.e.lt
        simp at a0 a1 a2
        clear hcz k6 HK6 HRh
        go_wp2
        refine bodyPost_ret (v := .tuple #[r.v, .agg #[.int .i64 0, .int .i64 0]]) (by simp [Qf.v, results, Try.results13, go_sem, a0, a1, a2, a6, r0, r1, r4]) rfl ⟨r, rfl, ⟨fun h => absurd HCD.out h, fun _ => HCz.out⟩, ?_⟩
        iterate 5 refine Below.setCell ?_ (by first | (show w.heap.size ≤ w.heap.size + 1 + 1; omega) | (show w.heap.size ≤ w.heap.size + 1 + 1 + 1; omega)) _
        exact HK7.out.k
      · have hne : (D != D2) = true := by simpa using hDE
        obtain ⟨rfl, rfl⟩ : c = 8 ∧ d = 1 := by
          have h4 := HCD.out
          unfold compF at h4
          rw [if_neg (by rw [HF0.out]; simp), if_neg (by rw [HF1.out]; simp), if_pos (by rw [← HDD.out.1, ← HDD.out.2]; exact hDE)] at h4
          simp at h4; omega
        clear hDE
        refine wpAnyG_last (i := 4) rfl (by kernel_rfl) (by kernel_rfl) (fun K hK => ?_)
        go_simp
        refine hK.out _ _ ?_
        clear hK K
        try simp only [Act.put, List.setIfInBounds_toArray, List.set_cons_zero, List.set_cons_succ]
        refine wpAnyG_done (by kernel_rfl) ?_ _
        clear hHeld N3 N4 N5 ka kb HK HDf HDg
        go_wp2
        refine bodyPost_ret (v := .tuple #[Qf.v ⟨0, 0, 0⟩, .agg #[.int .i64 8, .int .i64 1]]) (by simp [Qf.v, results, Try.results13, go_sem, a0, a1, a2, a6, r0, r1, r4]) rfl ⟨⟨0, 0, 0⟩, rfl, ⟨fun _ => rfl, fun h => ?_⟩, ?_⟩
        · rw [HCD.out] at h; simp at h
        iterate 5 refine Below.setCell ?_ (by first | (show w.heap.size ≤ w.heap.size + 1 + 1; omega) | (show w.heap.size ≤ w.heap.size + 1 + 1 + 1; omega)) _
        exact HK5.out.k

end Go.Proofs.Ytijkanilpblogae
