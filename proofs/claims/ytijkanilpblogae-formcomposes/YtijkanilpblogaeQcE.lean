/- The program: Reduce. -/
import Derived.Test.YtijkanilpblogaeQcD
set_option linter.unusedSimpArgs false
set_option linter.unusedVariables false
set_option maxRecDepth 100000
namespace Go.Proofs.Ytijkanilpblogae
open Go.RowKit

/-- The memory of the walk: the form, and where the results go. -/
structure Ro (h : Nat) (f : Qf) (w W : World) : Prop where
  f : Cl h f.l 32 W
  g : Cl (h + 1) [.int .i64 0, .int .i64 0, .int .i64 0] 32 W
  m : Cl (h + 1 + 1) [.int .i64 0, .int .i64 0, .int .i64 0, .int .i64 0] 43 W
  e : Sv (h + 1 + 1 + 1) 0 0 W
  k : Below h w W
theorem Ro.below {h : Nat} {f : Qf} {w W W' : World} (x : Ro h f w W) (c : Below W.heap.size W W') : Ro h f w W' :=
  ⟨x.f.below c, x.g.below c, x.m.below c, x.e.below c, x.k.trans (c.mono (Nat.le_of_lt x.f.lt))⟩

theorem Mt.w_id {M : Mt} (h : M.upto 100000000) : M.w = M := by
  obtain ⟨h1, h2, h3, h4⟩ := h
  obtain ⟨p, q, r, s⟩ := M
  simp only [] at h1 h2 h3 h4
  unfold Mt.w
  simp only [Mt.mk.injEq]
  exact ⟨wrap64_id (by omega), wrap64_id (by omega), wrap64_id (by omega), wrap64_id (by omega)⟩

theorem up_up {f : Qf} (h : f.upto 1000000) : f.upto 4000000000000 := by
  obtain ⟨h1, h2, h3, h4, h5, h6⟩ := h
  exact ⟨by omega, by omega, by omega, by omega, by omega, by omega⟩

/-- .. of a form without a fault. -/
theorem reduce_ok (f : Qf) (w : World) (h : ffault f = (0, 0)) :
    Calls Try.prog 33 #[f.v] w fun e w' => ∃ g m, e = .returned (Tv g m) ∧ Rd f g m ∧ Below w.heap.size w w' := by
  obtain ⟨h1, h2, h3, h4⟩ := ffault_ok h
  refine (reduce_any f w (up_up h1) h2 h3).mono ?_
  rintro e w' ⟨⟨g, M, rfl, hr, _⟩, k⟩
  exact ⟨g, M, by rw [Mt.w_id (hr.small h)], hr, k⟩

set_option maxHeartbeats 4000000 in
theorem Reduce_any (f : Qf) (w : World) :
    Calls Try.prog 20 #[f.v] w fun e w' => ∃ g m, e = .returned (.tuple #[g.v, m.v, ffv (ffault f)]) ∧ RedOut f g m ∧ Below w.heap.size w w' := by
  obtain ⟨c, d, hff⟩ : ∃ c d, ffault f = (c, d) := ⟨_, _, rfl⟩
  have HFF : Hid (ffault f = (c, d)) := hff
  have HC : Hid (∀ w, Calls Try.prog 31 #[f.v] w fun e w' => e = .returned (ffv (c, d)) ∧ Below w.heap.size w w') := fun w => by rw [← hff]; exact Check_any f w
  have HR : Hid (c = 0 → d = 0 → ∀ w, Calls Try.prog 33 #[f.v] w fun e w' => ∃ g m, e = .returned (Tv g m) ∧ Rd f g m ∧ Below w.heap.size w w') := fun e1 e2 w => reduce_ok f w (by rw [hff, e1, e2])
  rw [hff]
  clear hff
  unfold Qf.v at HC HR ⊢
  unfold ffv at HC ⊢
  go_enter Try.func20, Try.ntmps20
  go_wp2_with fail
  obtain ⟨W1, hW1⟩ : ∃ W1, W1 = (((w.alloc (.cells #[.int .i64 f.a, .int .i64 f.b, .int .i64 f.c] 32)).alloc (.cells #[.int .i64 0, .int .i64 0, .int .i64 0] 32)).alloc (.cells #[.int .i64 0, .int .i64 0, .int .i64 0, .int .i64 0] 43)).alloc (.cells #[.int .i64 0, .int .i64 0] 24) := ⟨_, rfl⟩
  have HO1 : Hid (Ro w.heap.size f w W1) := by
    show Ro _ _ _ _
    rw [hW1]
    exact ⟨(((Cl.new f.l _ w).alloc _).alloc _).alloc _, ((cl_new0 _ [.int .i64 0, .int .i64 0, .int .i64 0] _ _ (by simp)).alloc _).alloc _, (cl_new0 _ [.int .i64 0, .int .i64 0, .int .i64 0, .int .i64 0] _ _ (by simp)).alloc _, sv_new0 _ _ _ (by simp) _ _, Below.alloc (Below.alloc (Below.alloc (Below.alloc (Below.refl _ _) (Nat.le_refl _) _) (by simp) _) (by simp; omega) _) (by simp; omega) _⟩
  rw [← hW1]
  clear hW1
  refine (HC.out _).mono ?_
  rintro e w1 ⟨rfl, k1⟩
  have z9 : w.heap.size + 1 + 1 + 1 < w1.heap.size := ((HO1.out.below k1).e).lt
  have HO : Hid (Ro w.heap.size f w (w1.alloc (.cells #[.int .i64 c, .int .i64 d] 24))) := (HO1.out.below k1).below (al1 _ _)
  clear k1 HO1 HC
  rcases ffault_code HFF.out with ⟨rfl, rfl⟩ | hc
  · have c0 := HO.out.f.cell 0
    have c1 := HO.out.f.cell 1
    have c2 := HO.out.f.cell 2
    simp at c0 c1 c2
    go_wp2_with fail
    refine (HR.out trivial trivial _).mono ?_
    rintro e w2 ⟨g, m, rfl, hrd, k2⟩
    have HRd : Hid (Rd f g m) := hrd
    unfold Tv
    obtain ⟨W3, hW3⟩ : ∃ W3, W3 = w2.alloc (.cells #[.int .i64 g.a, .int .i64 g.b, .int .i64 g.c, .int .i64 m.p, .int .i64 m.q, .int .i64 m.r, .int .i64 m.s] 63) := ⟨_, rfl⟩
    have k3 : Below w2.heap.size w2 W3 := by rw [hW3]; exact al1 _ _
    have HO2 : Hid (Ro w.heap.size f w W3) := (HO.out.below k2).below k3
    have CT : Cl w2.heap.size (l7 g m) 63 W3 := by rw [hW3]; exact Cl.new (l7 g m) _ w2
    have t0 := CT.cell 0
    have t1 := CT.cell 1
    have t2 := CT.cell 2
    have t3 := CT.cell 3
    have t4 := CT.cell 4
    have t5 := CT.cell 5
    have t6 := CT.cell 6
    simp at t0 t1 t2 t3 t4 t5 t6
    clear c0 c1 c2 k2 k3 CT HO hrd
    have HO := HO2
    clear HO2
    have a0 := HO.out.g.cell 0
    have a1 := HO.out.g.cell 1
    have a2 := HO.out.g.cell 2
    have a3 := HO.out.g.frozen 0
    have a4 := HO.out.g.frozen 1
    have a5 := HO.out.g.frozen 2
    have a6 := HO.out.g.lt
    have b0 := HO.out.m.cell 0
    have b1 := HO.out.m.cell 1
    have b2 := HO.out.m.cell 2
    have b3 := HO.out.m.cell 3
    have b4 := HO.out.m.frozen 0
    have b5 := HO.out.m.frozen 1
    have b6 := HO.out.m.frozen 2
    have b7 := HO.out.m.frozen 3
    have b8 := HO.out.m.lt
    have r0 := HO.out.e.c0
    have r1 := HO.out.e.c1
    have r2 := HO.out.e.f0
    have r3 := HO.out.e.f1
    have r4 := HO.out.e.lt
    simp at a0 a1 a2 b0 b1 b2 b3
    rw [hW3] at t0 t1 t2 t3 t4 t5 t6 a0 a1 a2 a3 a4 a5 a6 b0 b1 b2 b3 b4 b5 b6 b7 b8 r0 r1 r2 r3 r4 HO
    go_wp2
    rw [← hW3] at *
    clear hW3
    go_region
    go_wp2
    refine bodyPost_ret (v := .tuple #[g.v, m.v, .agg #[.int .i64 0, .int .i64 0]]) (by simp [Qf.v, Mt.v, results, Try.results20, go_sem, a0, a1, a2, a6, b0, b1, b2, b3, b8, r0, r1, r4]) rfl ⟨g, m, rfl, ⟨fun h => absurd HFF.out h, fun _ => HRd.out⟩, ?_⟩
    refine Below.drew ?_
    iterate 9 refine Below.setCell ?_ (by first | (show w.heap.size ≤ w.heap.size + 1; omega) | (show w.heap.size ≤ w.heap.size + 1 + 1; omega) | (show w.heap.size ≤ w.heap.size + 1 + 1 + 1; omega)) _
    exact HO.out.k
  · have hcb : (c != 0) = true := by simpa using hc
    have HX : Hid (c ≠ 0) := hc
    clear hc
    obtain ⟨W3, hW3⟩ : ∃ W3, W3 = w1.alloc (.cells #[.int .i64 c, .int .i64 d] 24) := ⟨_, rfl⟩
    rw [← hW3] at HO
    have CE : Sv w1.heap.size c d W3 := by rw [hW3]; exact sv_new0 _ _ _ rfl _ _
    have e0 := CE.c0
    have e1 := CE.c1
    have a0 := HO.out.g.cell 0
    have a1 := HO.out.g.cell 1
    have a2 := HO.out.g.cell 2
    have a3 := HO.out.g.frozen 0
    have a4 := HO.out.g.frozen 1
    have a5 := HO.out.g.frozen 2
    have a6 := HO.out.g.lt
    have b0 := HO.out.m.cell 0
    have b1 := HO.out.m.cell 1
    have b2 := HO.out.m.cell 2
    have b3 := HO.out.m.cell 3
    have b4 := HO.out.m.frozen 0
    have b5 := HO.out.m.frozen 1
    have b6 := HO.out.m.frozen 2
    have b7 := HO.out.m.frozen 3
    have b8 := HO.out.m.lt
    have r0 := HO.out.e.c0
    have r1 := HO.out.e.c1
    have r2 := HO.out.e.f0
    have r3 := HO.out.e.f1
    have r4 := HO.out.e.lt
    simp at a0 a1 a2 b0 b1 b2 b3
    clear CE
    rw [hW3] at e0 e1 a0 a1 a2 a3 a4 a5 a6 b0 b1 b2 b3 b4 b5 b6 b7 b8 r0 r1 r2 r3 r4
    go_wp2_with fail
    rw [← hW3] at *
    clear hW3
    go_region
    go_wp2
    refine bodyPost_ret (v := .tuple #[Qf.v ⟨0, 0, 0⟩, Mt.v ⟨0, 0, 0, 0⟩, .agg #[.int .i64 c, .int .i64 d]]) (by simp [Qf.v, Mt.v, results, Try.results20, go_sem, a0, a1, a2, a6, b0, b1, b2, b3, b8, r0, r1, r4]) rfl ⟨⟨0, 0, 0⟩, ⟨0, 0, 0, 0⟩, rfl, ⟨fun _ => ⟨rfl, rfl⟩, fun h => ?_⟩, ?_⟩
    · rw [HFF.out] at h; simp at h; exact absurd h.1 HX.out
    refine Below.drew ?_
    iterate 9 refine Below.setCell ?_ (by first | (show w.heap.size ≤ w.heap.size + 1; omega) | (show w.heap.size ≤ w.heap.size + 1 + 1; omega) | (show w.heap.size ≤ w.heap.size + 1 + 1 + 1; omega)) _
    exact HO.out.k

end Go.Proofs.Ytijkanilpblogae
