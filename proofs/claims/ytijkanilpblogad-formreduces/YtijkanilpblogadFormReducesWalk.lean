/- FormReduces, the law's own walk: out of what is asked of the example and of Check and Reduce. -/
import Derived.Test.YtijkanilpblogadQfE
import Derived.Test.YtijkanilpblogadWholeH
set_option linter.unusedSimpArgs false
set_option linter.unusedVariables false
set_option maxRecDepth 100000
namespace Go.Proofs.Ytijkanilpblogad
open Go.RowKit

abbrev ffv (f : Int × Int) : Value := .agg #[.int .i64 f.1, .int .i64 f.2]
/-- What Reduce answers. -/
structure RedOut (f g : Qf) (m : Mt) : Prop where
  bad : ffault f ≠ (0, 0) → g = ⟨0, 0, 0⟩ ∧ m = ⟨0, 0, 0, 0⟩
  good : ffault f = (0, 0) → Rd f g m

/-- What is asked of the example and of the two. -/
structure FormIs (Bg : World → Prop) : Prop where
  keep : ∀ w w' : World, Bg w → Below w.heap.size w w' → Bg w'
  begun : ∀ w : World, Bg w → Calls Try.prog 7 #[] w fun e w' => e = .returned (.bool true) ∧ Below w.heap.size w w'
  check : ∀ (f : Qf) (w : World), Calls Try.prog 4 #[f.v] w fun e w' => e = .returned (ffv (ffault f)) ∧ Below w.heap.size w w'
  reduce : ∀ (f : Qf) (w : World), Calls Try.prog 5 #[f.v] w fun e w' => ∃ g m, e = .returned (.tuple #[g.v, m.v, ffv (ffault f)]) ∧ RedOut f g m ∧ Below w.heap.size w w'

abbrev Qf.l (f : Qf) : List Value := [.int .i64 f.a, .int .i64 f.b, .int .i64 f.c]
abbrev Mt.l (m : Mt) : List Value := [.int .i64 m.p, .int .i64 m.q, .int .i64 m.r, .int .i64 m.s]
/-- What lies in memory. -/
structure Fm (h b1 b2 b3 : Nat) (f g : Qf) (m : Mt) (e hh v : Int × Int) (w W : World) : Prop where
  f : Cl h f.l 23 W
  e : Sv b1 e.1 e.2 W
  g : Cl b2 g.l 23 W
  m : Cl (b2 + 1) m.l 27 W
  hh : Sv (b2 + 1 + 1) hh.1 hh.2 W
  v : Sv b3 v.1 v.2 W
  k : Below h w W
theorem Fm.below {h b1 b2 b3 : Nat} {f g : Qf} {m : Mt} {e hh v : Int × Int} {w W W' : World} (x : Fm h b1 b2 b3 f g m e hh v w W) (c : Below W.heap.size W W') : Fm h b1 b2 b3 f g m e hh v w W' :=
  ⟨x.f.below c, x.e.below c, x.g.below c, x.m.below c, x.hh.below c, x.v.below c, x.k.trans (c.mono (Nat.le_of_lt x.f.lt))⟩
theorem sv_new0 (x : World) (t : TypeId) (z : Nat) (hz : x.heap.size = z) (c d : Int) : Sv z c d (x.alloc (.cells #[.int .i64 c, .int .i64 d] t)) :=
  ⟨by subst hz; simp, by subst hz; simp, by subst hz; simp, by subst hz; simp, by subst hz; simp⟩
theorem cl_new0 (W : World) (l : List Value) (t : TypeId) (z : Nat) (hz : W.heap.size = z) : Cl z l t (W.alloc (.cells l.toArray t)) := by subst hz; exact Cl.new l t W
theorem sv_al {b : Nat} {c d : Int} {w : World} (h : Sv b c d w) (o : Obj) : Sv b c d (w.alloc o) := h.below (Below.alloc (Below.refl _ _) (Nat.le_refl _) _)
theorem al1 (W : World) (o : Obj) : Below W.heap.size W (W.alloc o) := Below.alloc (Below.refl _ _) (Nat.le_refl _) _

theorem ffault_code {f : Qf} {c d : Int} (h : ffault f = (c, d)) : (c = 0 ∧ d = 0) ∨ c ≠ 0 := by
  unfold ffault at h
  split at h
  · simp at h; omega
  split at h
  · simp at h; omega
  split at h
  · simp at h; omega
  split at h
  · simp at h; omega
  split at h
  · simp at h; omega
  · simp at h; omega

theorem eq4 (w : World) : (Op.equalIn 10000 27 (.agg #[.int .i64 0, .int .i64 0, .int .i64 0, .int .i64 0]) (.agg #[.int .i64 0, .int .i64 0, .int .i64 0, .int .i64 0])).run Try.prog w = .ok true w := by kernel_rfl

/-- The cells that are read. -/
abbrev S10 (f g : Qf) (m : Mt) (b b2 : Nat) (W : World) : Prop :=
  W.cell? ⟨b, 0, none⟩ = some (.int .i64 f.a) ∧ W.cell? ⟨b, 1, none⟩ = some (.int .i64 f.b) ∧ W.cell? ⟨b, 2, none⟩ = some (.int .i64 f.c) ∧
  W.cell? ⟨b2, 0, none⟩ = some (.int .i64 g.a) ∧ W.cell? ⟨b2, 1, none⟩ = some (.int .i64 g.b) ∧ W.cell? ⟨b2, 2, none⟩ = some (.int .i64 g.c) ∧
  W.cell? ⟨b2 + 1, 0, none⟩ = some (.int .i64 m.p) ∧ W.cell? ⟨b2 + 1, 1, none⟩ = some (.int .i64 m.q) ∧ W.cell? ⟨b2 + 1, 2, none⟩ = some (.int .i64 m.r) ∧ W.cell? ⟨b2 + 1, 3, none⟩ = some (.int .i64 m.s)
theorem Fm.s10 {h b1 b2 b3 : Nat} {f g : Qf} {m : Mt} {e hh v : Int × Int} {w W : World} (x : Fm h b1 b2 b3 f g m e hh v w W) : S10 f g m h b2 W :=
  ⟨x.f.cell 0, x.f.cell 1, x.f.cell 2, x.g.cell 0, x.g.cell 1, x.g.cell 2, x.m.cell 0, x.m.cell 1, x.m.cell 2, x.m.cell 3⟩

set_option maxHeartbeats 4000000 in
theorem fr_start (Bg : World → Prop) (G : FormIs Bg) (f : Qf) (w : World) (hbg : Bg w) :
    Calls Try.prog 3 #[f.v] w fun e w' => e = .returned (.bool true) ∧ Below w.heap.size w w' := by
  have HG : Hid (FormIs Bg) := G
  have HBG : Hid (Bg w) := hbg
  clear G hbg
  obtain ⟨c, d, hff⟩ : ∃ c d, ffault f = (c, d) := ⟨_, _, rfl⟩
  have HFF : Hid (ffault f = (c, d)) := hff
  clear hff
  have HC : Hid (∀ w, Calls Try.prog 4 #[f.v] w fun e w' => e = .returned (ffv (c, d)) ∧ Below w.heap.size w w') := fun w => by rw [← HFF.out]; exact HG.out.check f w
  have HR : Hid (∀ w, Calls Try.prog 5 #[f.v] w fun e w' => ∃ g m, e = .returned (.tuple #[g.v, m.v, ffv (c, d)]) ∧ RedOut f g m ∧ Below w.heap.size w w') := fun w => by rw [← HFF.out]; exact HG.out.reduce f w
  have HFl : Hid (∀ w, Calls Try.prog 6 #[f.v] w fun e w' => e = .returned (ffv (c, d)) ∧ Below w.heap.size w w') := fun w => by have h := refFormFault_any f w; rw [HFF.out] at h; exact h
  unfold Qf.v at HC HFl ⊢
  unfold Qf.v at HR
  go_enter Try.func3, Try.ntmps3
  go_wp2_with fail
  have F0 : Cl w.heap.size f.l 23 (w.alloc (.cells #[.int .i64 f.a, .int .i64 f.b, .int .i64 f.c] 23)) := Cl.new f.l _ w
  have K0 := al1 w (.cells #[.int .i64 f.a, .int .i64 f.b, .int .i64 f.c] 23)
  refine (HC.out _).mono ?_
  rintro e w1 ⟨rfl, k1⟩
  have F1 := (F0.below k1).alloc (.cells #[.int .i64 c, .int .i64 d] 25)
  have HE1 : Hid (Sv w1.heap.size c d (w1.alloc (.cells #[.int .i64 c, .int .i64 d] 25))) := sv_new0 w1 _ _ rfl _ _
  have HF1 : Hid (Cl w.heap.size f.l 23 (w1.alloc (.cells #[.int .i64 c, .int .i64 d] 25))) := F1
  have HK1 : Hid (Below w.heap.size w (w1.alloc (.cells #[.int .i64 c, .int .i64 d] 25))) := (K0.trans (k1.mono K0.size)).trans ((al1 w1 _).mono (K0.trans (k1.mono K0.size)).size)
  have f0 := F1.cell 0
  have f1 := F1.cell 1
  have f2 := F1.cell 2
  simp at f0 f1 f2
  clear k1 F0 F1 K0
  go_wp2_with fail
  refine (HR.out _).mono ?_
  rintro e w2 ⟨g, m, rfl, hro, k2⟩
  have HRO : Hid (RedOut f g m) := hro
  obtain ⟨W3, hW3⟩ : ∃ W3, W3 = ((w2.alloc (.cells #[.int .i64 g.a, .int .i64 g.b, .int .i64 g.c] 23)).alloc (.cells #[.int .i64 m.p, .int .i64 m.q, .int .i64 m.r, .int .i64 m.s] 27)).alloc (.cells #[.int .i64 c, .int .i64 d] 25) := ⟨_, rfl⟩
  have c3 : Below w2.heap.size w2 W3 := by rw [hW3]; exact (((al1 w2 _).trans ((al1 _ _).mono (by simp)))).trans ((al1 _ _).mono (by simp; omega))
  have HF3 : Hid (Cl w.heap.size f.l 23 W3) := (HF1.out.below k2).below c3
  have HE3 : Hid (Sv w1.heap.size c d W3) := (HE1.out.below k2).below c3
  have HK3 : Hid (Below w.heap.size w W3) := HK1.out.trans ((k2.trans (c3.mono k2.size)).mono HK1.out.size)
  have HG3 : Hid (Cl w2.heap.size g.l 23 W3) := by rw [hW3]; exact ((Cl.new g.l 23 w2).alloc _).alloc _
  have HM3 : Hid (Cl (w2.heap.size + 1) m.l 27 W3) := by rw [hW3]; exact (cl_new0 _ m.l _ _ (by simp)).alloc _
  have HH3 : Hid (Sv (w2.heap.size + 1 + 1) c d W3) := by rw [hW3]; exact sv_new0 _ _ _ (by simp) _ _
  have f3 : W3.cell? ⟨w.heap.size, 0, none⟩ = some (.int .i64 f.a) := HF3.out.cell 0
  have f4 : W3.cell? ⟨w.heap.size, 1, none⟩ = some (.int .i64 f.b) := HF3.out.cell 1
  have f5 : W3.cell? ⟨w.heap.size, 2, none⟩ = some (.int .i64 f.c) := HF3.out.cell 2
  rw [hW3] at f3 f4 f5
  clear f0 f1 f2 k2 c3 HF1 HE1 HK1 HC HR hro
  unfold Mt.v
  go_wp2_with fail
  rw [← hW3]
  clear hW3 f3 f4 f5
  refine (HFl.out _).mono ?_
  rintro e w3 ⟨rfl, k3⟩
  have c4 := k3.trans ((al1 w3 (.cells #[.int .i64 c, .int .i64 d] 25)).mono k3.size)
  have HM4 : Hid (Fm w.heap.size w1.heap.size w2.heap.size w3.heap.size f g m (c, d) (c, d) (c, d) w (w3.alloc (.cells #[.int .i64 c, .int .i64 d] 25))) :=
    ⟨HF3.out.below c4, HE3.out.below c4, HG3.out.below c4, HM3.out.below c4, HH3.out.below c4, sv_new0 w3 _ _ rfl _ _, HK3.out.trans (c4.mono HK3.out.size)⟩
  clear k3 c4 HF3 HE3 HG3 HM3 HH3 HK3 HFl
  go_wp2_with fail
  refine (HG.out.begun _ (HG.out.keep _ _ HBG.out HM4.out.k)).mono ?_
  rintro e w4 ⟨rfl, k4⟩
  have M5 := HM4.out.below k4
  have HM5 : Hid (Fm w.heap.size w1.heap.size w2.heap.size w3.heap.size f g m (c, d) (c, d) (c, d) w w4) := M5
  have e0 := M5.e.c0
  have e1 := M5.e.c1
  have h0 := M5.hh.c0
  have h1 := M5.hh.c1
  have v0 := M5.v.c0
  have v1 := M5.v.c1
  have g0 := M5.g.cell 0
  have g1 := M5.g.cell 1
  have g2 := M5.g.cell 2
  have m0 := M5.m.cell 0
  have m1 := M5.m.cell 1
  have m2 := M5.m.cell 2
  have m3 := M5.m.cell 3
  simp at g0 g1 g2 m0 m1 m2 m3
  clear k4 M5 HM4
  rcases ffault_code HFF.out with ⟨rfl, rfl⟩ | hc
  · have HRd : Hid (Rd f g m) := HRO.out.good HFF.out
    have hmu := HRd.out.small HFF.out
    have HMU : Hid (m.upto 100000000) := hmu
    have b1 : decide (100000000 < m.p) = false := decide_eq_false (by have := hmu.1.2; omega)
    have b2 : decide (m.p < -100000000) = false := decide_eq_false (by have := hmu.1.1; omega)
    have b3 : decide (100000000 < m.q) = false := decide_eq_false (by have := hmu.2.1.2; omega)
    have b4 : decide (m.q < -100000000) = false := decide_eq_false (by have := hmu.2.1.1; omega)
    have b5 : decide (100000000 < m.r) = false := decide_eq_false (by have := hmu.2.2.1.2; omega)
    have b6 : decide (m.r < -100000000) = false := decide_eq_false (by have := hmu.2.2.1.1; omega)
    have b7 : decide (100000000 < m.s) = false := decide_eq_false (by have := hmu.2.2.2.2; omega)
    have b8 : decide (m.s < -100000000) = false := decide_eq_false (by have := hmu.2.2.2.1; omega)
    clear HRO hmu
    go_wp2
    go_loopw [8] (fun iv wx => (iv = .int .i64 0 ∨ iv = .int .i64 1 ∨ iv = .int .i64 2 ∨ iv = .int .i64 3 ∨ iv = .int .i64 4) ∧ Hid (wx = w4)) (fun iv _ => 4 - (intOf iv).toNat)
    case atStart => exact ⟨.inl rfl, rfl⟩
    case round =>
      obtain ⟨hcase, HW⟩ := hrel
      have hw := HW.out
      subst hw
      clear HW
      rcases hcase with rfl | rfl | rfl | rfl | rfl
      · go_wp2
        go_roundw
        case rel => exact ⟨.inr (.inl rfl), by first | rfl | trivial⟩
        case measure => simp [intOf]
      · go_wp2
        go_roundw
        case rel => exact ⟨.inr (.inr (.inl rfl)), by first | rfl | trivial⟩
        case measure => simp [intOf]
      · go_wp2
        go_roundw
        case rel => exact ⟨.inr (.inr (.inr (.inl rfl))), by first | rfl | trivial⟩
        case measure => simp [intOf]
      · go_wp2
        go_roundw
        case rel => exact ⟨.inr (.inr (.inr (.inr rfl))), by first | rfl | trivial⟩
        case measure => simp [intOf]
      · clear b1 b2 b3 b4 b5 b6 b7 b8 e0 e1 h0 h1 v0 v1
        obtain ⟨hfu, _, _, _⟩ := ffault_ok HFF.out
        obtain ⟨hgu, _, _⟩ := HRd.out.upto HFF.out
        have hdd := HRd.out.disc
        obtain ⟨D, hD⟩ : ∃ D, D = f.disc := ⟨_, rfl⟩
        have hDb : -9223372036854775808 ≤ D ∧ D ≤ 9223372036854775807 := by
          obtain ⟨a1, a2, a3, a4, a5, a6⟩ := hfu
          have x1 := sq_bd a3 a4 a3 a4
          have x2 := sq_bd a1 a2 a5 a6
          have x3 : 4 * f.a * f.c = 4 * (f.a * f.c) := Int.mul_assoc ..
          rw [hD]; unfold Qf.disc
          omega
        have HRed : Hid (∀ w, Calls Try.prog 8 #[g.v] w fun e w' => e = .returned (.bool true) ∧ Below w.heap.size w w') := fun w => by
          have h := refReduced_any g w (by obtain ⟨a1, a2, a3, a4, a5, a6⟩ := hgu; exact ⟨by omega, by omega, by omega, by omega, by omega, by omega⟩)
          rw [HRd.out.red] at h
          exact h
        have HFg : Hid (∀ w, Calls Try.prog 6 #[g.v] w fun e w' => e = .returned (ffv (0, 0)) ∧ Below w.heap.size w w') := fun w => by
          have h := refFormFault_any g w
          rw [HRd.out.fault HFF.out] at h
          exact h
        have HDf : Hid (∀ w, Calls Try.prog 10 #[f.v] w fun e w' => e = .returned (.int .i64 D) ∧ Below w.heap.size w w') := fun w => by rw [hD]; exact refDisc_any f w hfu
        have HDg : Hid (∀ w, Calls Try.prog 10 #[g.v] w fun e w' => e = .returned (.int .i64 D) ∧ Below w.heap.size w w') := fun w => by rw [hD, ← hdd]; exact refDisc_any g w hgu
        have HCo : Hid (∀ w, Calls Try.prog 9 #[.int .i64 1, .int .i64 D, .int .i64 (-1), .int .i64 D] w fun e w' => ∃ z, e = .returned (.pointer (some ⟨z, 0, none⟩)) ∧ Made w w' z 0) := fun w => by
          have h := Combined_any 1 D (-1) D w (by decide) hDb (by decide) hDb
          rw [show 1 * D + -1 * D = 0 by omega] at h
          exact h
        have HLk : Hid (∀ w, Calls Try.prog 12 #[f.v, g.v, m.v] w fun e w' => e = .returned (.bool true) ∧ Below w.heap.size w w') := fun w => likeBy_any f g m w HMU.out hfu hgu HRd.out.like
        unfold Qf.v at HRed HFg HDf HDg
        unfold Qf.v Mt.v at HLk
        have ew1 : IntKind.i64.wrap (m.p * m.s) = m.p * m.s := by
          have := sq_bd HMU.out.1.1 HMU.out.1.2 HMU.out.2.2.2.1 HMU.out.2.2.2.2
          rw [IntKind.wrap_i64]; omega
        have ew2 : IntKind.i64.wrap (m.q * m.r) = m.q * m.r := by
          have := sq_bd HMU.out.2.1.1 HMU.out.2.1.2 HMU.out.2.2.1.1 HMU.out.2.2.1.2
          rw [IntKind.wrap_i64]; omega
        have ew3 : IntKind.i64.wrap (m.p * m.s - m.q * m.r) = 1 := by rw [HRd.out.det]; decide
        clear hfu hgu hdd hD hDb
        go_wp2_with fail
        refine wp_region_G (S10 f g m w.heap.size w2.heap.size) 37 (by kernel_rfl) HM5.out.s10 (fun hHeld => ?_)
        have M5 : Fm w.heap.size w1.heap.size w2.heap.size w3.heap.size f g m (0, 0) (0, 0) (0, 0) w wr.drew := HM5.out.below ((Below.refl _ _).drew)
        clear HM5 g0 g1 g2 m0 m1 m2 m3
        refine wpAnyG_take (i := 0) (v := ?v0x1) rfl (by kernel_rfl) (fun _ _ _ h => h) (Or.inl ⟨by rfl, ?y0x1⟩) hHeld ?r0x1
        case y0x1 => (intro wS hSw; obtain ⟨s1, s2, s3, s4, s5, s6, s7, s8, s9, s10⟩ := hSw; go_simp; try with_reducible rfl)
        try simp only [Act.put, List.setIfInBounds_toArray, List.set_cons_zero, List.set_cons_succ]
        refine wpAnyG_one (i := 1) rfl (by kernel_rfl) (fun K hK => ?_)
        go_simp
        refine (HRed.out _).mono ?_
        rintro e w5 ⟨rfl, k5⟩
        have M6 := M5.below k5
        refine hK.out _ _ M6.s10 ?_
        clear hK K
        try simp only [Act.put, List.setIfInBounds_toArray, List.set_cons_zero, List.set_cons_succ]
        clear hHeld
        have hHeld : S10 f g m w.heap.size w2.heap.size w5 := M6.s10
        refine wpAnyG_take (i := 2) (v := .bool true) rfl (by kernel_rfl) (fun _ _ _ h => h) (Or.inl ⟨by kernel_rfl, ?y2x2⟩) hHeld ?r2x2
        case y2x2 => (intro wS hSw; (go_simp))
        try simp only [Act.put, List.setIfInBounds_toArray, List.set_cons_zero, List.set_cons_succ]
        refine wpAnyG_take (i := 3) (v := ?v3x3) rfl (by kernel_rfl) (fun _ _ _ h => h) (Or.inl ⟨by kernel_rfl, ?y3x3⟩) hHeld ?r3x3
        case y3x3 => (intro wS hSw; have s1 := hSw; go_simp; try with_reducible rfl)
        try simp only [Act.put, List.setIfInBounds_toArray, List.set_cons_zero, List.set_cons_succ]
        refine wpAnyG_take (i := 4) (v := ?v4x4) rfl (by kernel_rfl) (fun _ _ _ h => h) (Or.inl ⟨by kernel_rfl, ?y4x4⟩) hHeld ?r4x4
        case y4x4 => (intro wS hSw; have s1 := hSw; go_simp; try with_reducible rfl)
        try simp only [Act.put, List.setIfInBounds_toArray, List.set_cons_zero, List.set_cons_succ]
        refine wpAnyG_take (i := 5) (v := ?v5x5) rfl (by kernel_rfl) (fun _ _ _ h => h) (Or.inl ⟨by kernel_rfl, ?y5x5⟩) hHeld ?r5x5
        case y5x5 => (intro wS hSw; have s1 := hSw; go_simp; try with_reducible rfl)
        try simp only [Act.put, List.setIfInBounds_toArray, List.set_cons_zero, List.set_cons_succ]
        refine wpAnyG_take (i := 6) (v := ?v6x6) rfl (by kernel_rfl) (fun _ _ _ h => h) (Or.inl ⟨by kernel_rfl, ?y6x6⟩) hHeld ?r6x6
        case y6x6 => (intro wS hSw; have s1 := hSw; go_simp; try with_reducible rfl)
        try simp only [Act.put, List.setIfInBounds_toArray, List.set_cons_zero, List.set_cons_succ]
        refine wpAnyG_take (i := 7) (v := .int .i64 (m.p * m.s)) rfl (by kernel_rfl) (fun _ _ _ h => h) (Or.inl ⟨by kernel_rfl, ?y7x7⟩) hHeld ?r7x7
        case y7x7 => (intro wS hSw; (go_simp; try simp only [ew1]))
        try simp only [Act.put, List.setIfInBounds_toArray, List.set_cons_zero, List.set_cons_succ]
        refine wpAnyG_take (i := 8) (v := ?v8x8) rfl (by kernel_rfl) (fun _ _ _ h => h) (Or.inl ⟨by kernel_rfl, ?y8x8⟩) hHeld ?r8x8
        case y8x8 => (intro wS hSw; have s1 := hSw; go_simp; try with_reducible rfl)
        try simp only [Act.put, List.setIfInBounds_toArray, List.set_cons_zero, List.set_cons_succ]
        refine wpAnyG_take (i := 9) (v := ?v9x9) rfl (by kernel_rfl) (fun _ _ _ h => h) (Or.inl ⟨by kernel_rfl, ?y9x9⟩) hHeld ?r9x9
        case y9x9 => (intro wS hSw; have s1 := hSw; go_simp; try with_reducible rfl)
        try simp only [Act.put, List.setIfInBounds_toArray, List.set_cons_zero, List.set_cons_succ]
        refine wpAnyG_take (i := 10) (v := ?v10x10) rfl (by kernel_rfl) (fun _ _ _ h => h) (Or.inl ⟨by kernel_rfl, ?y10x10⟩) hHeld ?r10x10
        case y10x10 => (intro wS hSw; have s1 := hSw; go_simp; try with_reducible rfl)
        try simp only [Act.put, List.setIfInBounds_toArray, List.set_cons_zero, List.set_cons_succ]
        refine wpAnyG_take (i := 11) (v := ?v11x11) rfl (by kernel_rfl) (fun _ _ _ h => h) (Or.inl ⟨by kernel_rfl, ?y11x11⟩) hHeld ?r11x11
        case y11x11 => (intro wS hSw; have s1 := hSw; go_simp; try with_reducible rfl)
        try simp only [Act.put, List.setIfInBounds_toArray, List.set_cons_zero, List.set_cons_succ]
        refine wpAnyG_take (i := 12) (v := .int .i64 (m.q * m.r)) rfl (by kernel_rfl) (fun _ _ _ h => h) (Or.inl ⟨by kernel_rfl, ?y12x12⟩) hHeld ?r12x12
        case y12x12 => (intro wS hSw; (go_simp; try simp only [ew2]))
        try simp only [Act.put, List.setIfInBounds_toArray, List.set_cons_zero, List.set_cons_succ]
        refine wpAnyG_take (i := 13) (v := .int .i64 1) rfl (by kernel_rfl) (fun _ _ _ h => h) (Or.inl ⟨by kernel_rfl, ?y13x13⟩) hHeld ?r13x13
        case y13x13 => (intro wS hSw; (go_simp; try simp only [ew3]))
        try simp only [Act.put, List.setIfInBounds_toArray, List.set_cons_zero, List.set_cons_succ]
        refine wpAnyG_take (i := 14) (v := .bool true) rfl (by kernel_rfl) (fun _ _ _ h => h) (Or.inl ⟨by kernel_rfl, ?y14x14⟩) hHeld ?r14x14
        case y14x14 => (intro wS hSw; (go_simp; try rfl))
        try simp only [Act.put, List.setIfInBounds_toArray, List.set_cons_zero, List.set_cons_succ]
        refine wpAnyG_take (i := 15) (v := .bool true) rfl (by kernel_rfl) (fun _ _ _ h => h) (Or.inl ⟨by kernel_rfl, ?y15x15⟩) hHeld ?r15x15
        case y15x15 => (intro wS hSw; (go_simp; try rfl))
        try simp only [Act.put, List.setIfInBounds_toArray, List.set_cons_zero, List.set_cons_succ]
        refine wpAnyG_take (i := 16) (v := .bool true) rfl (by kernel_rfl) (fun _ _ _ h => h) (Or.inl ⟨by kernel_rfl, ?y16x16⟩) hHeld ?r16x16
        case y16x16 => (intro wS hSw; (go_simp; try rfl))
        try simp only [Act.put, List.setIfInBounds_toArray, List.set_cons_zero, List.set_cons_succ]
        refine wpAnyG_take (i := 17) (v := ?v17x17) rfl (by kernel_rfl) (fun _ _ _ h => h) (Or.inl ⟨by kernel_rfl, ?y17x17⟩) hHeld ?r17x17
        case y17x17 => (intro wS hSw; have s1 := hSw; go_simp; try with_reducible rfl)
        try simp only [Act.put, List.setIfInBounds_toArray, List.set_cons_zero, List.set_cons_succ]
        refine wpAnyG_one (i := 18) rfl (by kernel_rfl) (fun K hK => ?_)
        rw [if_pos (by kernel_rfl)]
        go_simp
        refine (HFg.out _).mono ?_
        rintro e w6 ⟨rfl, k6⟩
        have M7 := M6.below k6
        refine hK.out _ _ M7.s10 ?_
        clear hK K
        try simp only [Act.put, List.setIfInBounds_toArray, List.set_cons_zero, List.set_cons_succ]
        clear hHeld
        have hHeld : S10 f g m w.heap.size w2.heap.size w6 := M7.s10
        refine wpAnyG_take (i := 19) (v := .int .i64 0) rfl (by kernel_rfl) (fun _ _ _ h => h) (Or.inl ⟨by kernel_rfl, ?y19x18⟩) hHeld ?r19x18
        case y19x18 => (intro wS hSw; (go_simp; try rfl))
        try simp only [Act.put, List.setIfInBounds_toArray, List.set_cons_zero, List.set_cons_succ]
        refine wpAnyG_take (i := 20) (v := .bool true) rfl (by kernel_rfl) (fun _ _ _ h => h) (Or.inl ⟨by kernel_rfl, ?y20x19⟩) hHeld ?r20x19
        case y20x19 => (intro wS hSw; (go_simp; try rfl))
        try simp only [Act.put, List.setIfInBounds_toArray, List.set_cons_zero, List.set_cons_succ]
        refine wpAnyG_take (i := 21) (v := .bool true) rfl (by kernel_rfl) (fun _ _ _ h => h) (Or.inl ⟨by kernel_rfl, ?y21x20⟩) hHeld ?r21x20
        case y21x20 => (intro wS hSw; (go_simp; try rfl))
        try simp only [Act.put, List.setIfInBounds_toArray, List.set_cons_zero, List.set_cons_succ]
        refine wpAnyG_take (i := 22) (v := .bool true) rfl (by kernel_rfl) (fun _ _ _ h => h) (Or.inl ⟨by kernel_rfl, ?y22x21⟩) hHeld ?r22x21
        case y22x21 => (intro wS hSw; (go_simp; try rfl))
        try simp only [Act.put, List.setIfInBounds_toArray, List.set_cons_zero, List.set_cons_succ]
        refine wpAnyG_take (i := 23) (v := ?v23x22) rfl (by kernel_rfl) (fun _ _ _ h => h) (Or.inl ⟨by kernel_rfl, ?y23x22⟩) hHeld ?r23x22
        case y23x22 => (intro wS hSw; have s1 := hSw; go_simp; try with_reducible rfl)
        try simp only [Act.put, List.setIfInBounds_toArray, List.set_cons_zero, List.set_cons_succ]
        refine wpAnyG_take (i := 25) (v := ?v25x23) rfl (by kernel_rfl) (fun _ _ _ h => h) (Or.inl ⟨by kernel_rfl, ?y25x23⟩) hHeld ?r25x23
        case y25x23 => (intro wS hSw; have s1 := hSw; go_simp; try with_reducible rfl)
        try simp only [Act.put, List.setIfInBounds_toArray, List.set_cons_zero, List.set_cons_succ]
        refine wpAnyG_one (i := 24) rfl (by kernel_rfl) (fun K hK => ?_)
        rw [if_pos (by kernel_rfl)]
        go_simp
        refine (HDf.out _).mono ?_
        rintro e w7 ⟨rfl, k7⟩
        have M8 := M7.below k7
        refine hK.out _ _ M8.s10 ?_
        clear hK K
        try simp only [Act.put, List.setIfInBounds_toArray, List.set_cons_zero, List.set_cons_succ]
        refine wpAnyG_one (i := 26) rfl (by kernel_rfl) (fun K hK => ?_)
        rw [if_pos (by kernel_rfl)]
        go_simp
        refine (HDg.out _).mono ?_
        rintro e w8 ⟨rfl, k8⟩
        have M9 := M8.below k8
        refine hK.out _ _ M9.s10 ?_
        clear hK K
        try simp only [Act.put, List.setIfInBounds_toArray, List.set_cons_zero, List.set_cons_succ]
        refine wpAnyG_one (i := 27) rfl (by kernel_rfl) (fun K hK => ?_)
        rw [if_pos (by kernel_rfl)]
        go_simp
        refine (HCo.out _).mono ?_
        rintro e w9 ⟨z, rfl, _, hz, k9⟩
        have M10 := M9.below k9
        refine hK.out _ _ M10.s10 ?_
        clear hK K
        try simp only [Act.put, List.setIfInBounds_toArray, List.set_cons_zero, List.set_cons_succ]
        refine wpAnyG_one (i := 28) rfl (by kernel_rfl) (fun K hK => ?_)
        rw [if_pos (by kernel_rfl)]
        go_simp
        refine (Sign_any z 0 _ hz).mono ?_
        rintro e w10 ⟨rfl, rfl⟩
        refine hK.out _ _ M10.s10 ?_
        clear hK K
        try simp only [Act.put, List.setIfInBounds_toArray, List.set_cons_zero, List.set_cons_succ]
        clear hHeld
        have hHeld : S10 f g m w.heap.size w2.heap.size w10 := M10.s10
        refine wpAnyG_take (i := 29) (v := .bool true) rfl (by kernel_rfl) (fun _ _ _ h => h) (Or.inl ⟨by kernel_rfl, ?y29x24⟩) hHeld ?r29x24
        case y29x24 => (intro wS hSw; (go_simp; try rfl))
        try simp only [Act.put, List.setIfInBounds_toArray, List.set_cons_zero, List.set_cons_succ]
        refine wpAnyG_take (i := 30) (v := .bool true) rfl (by kernel_rfl) (fun _ _ _ h => h) (Or.inl ⟨by kernel_rfl, ?y30x25⟩) hHeld ?r30x25
        case y30x25 => (intro wS hSw; (go_simp; try rfl))
        try simp only [Act.put, List.setIfInBounds_toArray, List.set_cons_zero, List.set_cons_succ]
        refine wpAnyG_take (i := 31) (v := .bool true) rfl (by kernel_rfl) (fun _ _ _ h => h) (Or.inl ⟨by kernel_rfl, ?y31x26⟩) hHeld ?r31x26
        case y31x26 => (intro wS hSw; (go_simp; try rfl))
        try simp only [Act.put, List.setIfInBounds_toArray, List.set_cons_zero, List.set_cons_succ]
        refine wpAnyG_take (i := 32) (v := ?v32x27) rfl (by kernel_rfl) (fun _ _ _ h => h) (Or.inl ⟨by kernel_rfl, ?y32x27⟩) hHeld ?r32x27
        case y32x27 => (intro wS hSw; have s1 := hSw; go_simp; try with_reducible rfl)
        try simp only [Act.put, List.setIfInBounds_toArray, List.set_cons_zero, List.set_cons_succ]
        refine wpAnyG_take (i := 33) (v := ?v33x28) rfl (by kernel_rfl) (fun _ _ _ h => h) (Or.inl ⟨by kernel_rfl, ?y33x28⟩) hHeld ?r33x28
        case y33x28 => (intro wS hSw; have s1 := hSw; go_simp; try with_reducible rfl)
        try simp only [Act.put, List.setIfInBounds_toArray, List.set_cons_zero, List.set_cons_succ]
        refine wpAnyG_take (i := 34) (v := ?v34x29) rfl (by kernel_rfl) (fun _ _ _ h => h) (Or.inl ⟨by kernel_rfl, ?y34x29⟩) hHeld ?r34x29
        case y34x29 => (intro wS hSw; have s1 := hSw; go_simp; try with_reducible rfl)
        try simp only [Act.put, List.setIfInBounds_toArray, List.set_cons_zero, List.set_cons_succ]
        refine wpAnyG_one (i := 35) rfl (by kernel_rfl) (fun K hK => ?_)
        rw [if_pos (by kernel_rfl)]
        go_simp
        refine (HLk.out _).mono ?_
        rintro e w11 ⟨rfl, k11⟩
        have M11 := M10.below k11
        refine hK.out _ _ M11.s10 ?_
        clear hK K
        try simp only [Act.put, List.setIfInBounds_toArray, List.set_cons_zero, List.set_cons_succ]
        clear hHeld
        have hHeld : S10 f g m w.heap.size w2.heap.size w11 := M11.s10
        refine wpAnyG_take (i := 36) (v := .bool true) rfl (by kernel_rfl) (fun _ _ _ h => h) (Or.inl ⟨by kernel_rfl, ?y36x30⟩) hHeld ?r36x30
        case y36x30 => (intro wS hSw; (go_simp; try rfl))
        try simp only [Act.put, List.setIfInBounds_toArray, List.set_cons_zero, List.set_cons_succ]
        refine wpAnyG_last (i := 37) rfl (by kernel_rfl) (by kernel_rfl) (fun K hK => ?_)
        go_simp
        refine hK.out _ _ ?_
        clear hK K
        try simp only [Act.put, List.setIfInBounds_toArray, List.set_cons_zero, List.set_cons_succ]
        refine wpAnyG_done (by kernel_rfl) ?_ _
        have HK11 : Hid (Below w.heap.size w w11) := M11.k
        clear hHeld M5 M6 M7 M8 M9 M10 M11 hz k5 k6 k7 k8 k9 k11
        go_wp2_with fail
        go_ret
        exact ⟨rfl, HK11.out⟩
  · obtain ⟨rfl, rfl⟩ := HRO.out.bad (by rw [HFF.out]; intro h; exact hc (congrArg Prod.fst h))
    have hcb : (c != 0) = true := by simpa using hc
    clear hc
    have HK5 : Hid (Below w.heap.size w w4) := HM5.out.k
    have heq := eq4 w4
    go_wp2_with fail
    go_ret
    exact ⟨rfl, HK5.out⟩

end Go.Proofs.Ytijkanilpblogad
