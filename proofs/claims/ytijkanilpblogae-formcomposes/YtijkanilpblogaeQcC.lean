/- The program: (turned).slide, (turned).swap. -/
import Derived.Test.YtijkanilpblogaeQcB
import Derived.Test.YtijkanilpblogaeQcM
import Derived.BigRegion
import Derived.BigQuiet
set_option linter.unusedSimpArgs false
set_option linter.unusedVariables false
set_option maxRecDepth 100000
namespace Go.Proofs.Ytijkanilpblogae
open Go.RowKit

/-- A form and the numbers that lead to it. -/
def Tv (f : Qf) (m : Mt) : Value := .agg #[.int .i64 f.a, .int .i64 f.b, .int .i64 f.c, .int .i64 m.p, .int .i64 m.q, .int .i64 m.r, .int .i64 m.s]
/-- What is left of the numbers in 64 bits. -/
def Mt.w (m : Mt) : Mt := ⟨wrap64 m.p, wrap64 m.q, wrap64 m.r, wrap64 m.s⟩

theorem wrap64_neg (x : Int) : wrap64 (-wrap64 x) = wrap64 (-x) := by
  simp only [wrap64]; omega
theorem wrap64_mod (x : Int) : ∃ k, wrap64 x = x + 18446744073709551616 * k := by
  simp only [wrap64]
  exact ⟨-((x + 9223372036854775808) / 18446744073709551616), by omega⟩
theorem wrap64_cong {x y k : Int} (h : x = y + 18446744073709551616 * k) : wrap64 x = wrap64 y := by
  simp only [wrap64]; omega
theorem wrap64_step (q k p : Int) : wrap64 (wrap64 q + wrap64 (k * wrap64 p)) = wrap64 (q + k * p) := by
  obtain ⟨a, ha⟩ := wrap64_mod p
  obtain ⟨b, hb⟩ := wrap64_mod q
  obtain ⟨c, hc⟩ := wrap64_mod (k * wrap64 p)
  rw [hc, hb, ha]
  refine wrap64_cong (k := a * k + b + c) ?_
  grind
theorem wrap64_id {x : Int} (h : -9223372036854775808 ≤ x ∧ x ≤ 9223372036854775807) : wrap64 x = x := by
  simp only [wrap64]; omega

set_option maxHeartbeats 4000000 in
theorem swap_any (f : Qf) (M : Mt) (w : World) (h : f.upto 4000000000000) : Calls Try.prog 49 #[Tv f M.w] w fun e w' => e = .returned (Tv (swapF f) (swapM M).w) ∧ Below w.heap.size w w' := by
  obtain ⟨h1, h2, h3, h4, h5, h6⟩ := h
  unfold Tv swapF swapM Mt.w
  simp only []
  go_enter Try.func49, Try.ntmps49
  go_wp2
  go_region
  all_goals
    go_wp2
    refine bodyPost_ret (v := .agg #[.int .i64 f.c, .int .i64 (-f.b), .int .i64 f.a, .int .i64 (wrap64 M.q), .int .i64 (wrap64 (-M.p)), .int .i64 (wrap64 M.s), .int .i64 (wrap64 (-M.r))]) (by simp [results, Try.results49, go_sem, wrap64_neg]) rfl ⟨rfl, ?_⟩
    exact (Below.alloc (Below.alloc (Below.alloc (Below.alloc (Below.refl _ _) (Nat.le_refl _) _) (by simp) _) (by simp; omega) _) (by simp; omega) _).drew

theorem modLeft_int (a n : Int) (w : World) (ha : a.natAbs ≤ 4000000000000000000) (h0 : 1 ≤ n) (hn : n ≤ 1000000000000000000) :
    Calls Try.prog 29 #[.int .i64 a, .int .i64 n] w fun e w' => e = .returned (.int .i64 (a % n)) ∧ w' = w := by
  obtain ⟨m, rfl⟩ : ∃ m : Nat, n = m := ⟨n.toNat, by omega⟩
  exact left_any a m w ha (by omega) hn

set_option maxHeartbeats 4000000 in
theorem slide_any (f : Qf) (M : Mt) (w : World) (h : f.upto 4000000000000) (ha : 1 ≤ f.a) (hd : f.disc < 0) : Calls Try.prog 48 #[Tv f M.w] w fun e w' => e = .returned (Tv (slideF f) (slideM f M).w) ∧ Below w.heap.size w w' := by
  obtain ⟨s1, s2, s3⟩ := slide_b ha
  obtain ⟨s4, s5, s6⟩ := slide_c ha hd
  have s7 := slide_k (f := f)
  have s8 := slide_div ha
  have s9 := slide_half (f := f)
  have sA : (slideF f).a = f.a := rfl
  have s10 : slideK f * (2 * f.a) = (slideF f).b - f.b := by simp only [slideF]; grind
  obtain ⟨K, hK⟩ : ∃ K, slideK f = K := ⟨_, rfl⟩
  have hM : (slideM f M).w = ⟨wrap64 M.p, wrap64 (M.q + K * M.p), wrap64 M.r, wrap64 (M.s + K * M.r)⟩ := by rw [← hK]; rfl
  rw [hM]
  clear hM
  obtain ⟨b', hb⟩ : ∃ b', (slideF f).b = b' := ⟨_, rfl⟩
  obtain ⟨c', hc⟩ : ∃ c', (slideF f).c = c' := ⟨_, rfl⟩
  unfold Tv Mt.w
  rw [sA, hb, hc]
  rw [hK] at s7 s8 s9 s10
  rw [hb] at s1 s2 s3 s6 s7 s8 s9 s10
  rw [hc] at s4 s5 s7 s9
  clear hK hb hc sA hd
  obtain ⟨h1, h2, h3, h4, h5, h6⟩ := h
  obtain ⟨A, B, C⟩ := f
  simp only [] at *
  obtain ⟨R, hR⟩ : ∃ R, (A - B) % (2 * A) = R := ⟨_, rfl⟩
  have HL : Hid (∀ w, Calls Try.prog 29 #[.int .i64 (A - B), .int .i64 (2 * A)] w fun e w' => e = .returned (.int .i64 R) ∧ w' = w) := fun w => by rw [← hR]; exact modLeft_int _ _ w (by omega) (by omega) (by omega)
  have r1 := Int.emod_nonneg (A - B) (show 2 * A ≠ 0 by omega)
  have r2 := Int.emod_lt_of_pos (A - B) (show 0 < 2 * A by omega)
  rw [hR] at r1 r2 s1
  have e1 : A - R = b' := s1.symm
  have kb : -8000000000000 ≤ K ∧ K ≤ 8000000000000 := by
    have x1 : (K * (2 * A)).natAbs = K.natAbs * (2 * A).natAbs := Int.natAbs_mul ..
    have x2 : K.natAbs * 1 ≤ K.natAbs * (2 * A).natAbs := Nat.mul_le_mul_left _ (by omega)
    rw [s10] at x1
    omega
  obtain ⟨T, hT⟩ : ∃ T, K * (B + b') = T := ⟨_, rfl⟩
  rw [hT] at s7 s9
  obtain ⟨d, hd⟩ : ∃ d, d = c' - C := ⟨_, rfl⟩
  have e4 : T.tdiv 2 = d := by rw [hd]; exact s9
  have e5 : C + d = c' := by omega
  have t1 : ((2 * A : Int) == 0) = false := beq_eq_false_iff_ne.2 (by omega)
  have t2 : -8000000000000 ≤ T ∧ T ≤ 8000000000000 := by omega
  have t3 : -8000000000000 ≤ d ∧ d ≤ 8000000000000 := by omega
  have v1 : IntKind.i64.wrap (A - B) = A - B := by rw [IntKind.wrap_i64]; omega
  have v2 : IntKind.i64.wrap (2 * A) = 2 * A := by rw [IntKind.wrap_i64]; omega
  have v3 : IntKind.i64.wrap (A - R) = b' := by rw [IntKind.wrap_i64]; omega
  clear hR s1 s7 s9 s10 hd r1 r2 s6
  go_enter Try.func48, Try.ntmps48
  go_wp2
  go_region
  · generalize hW : World.drew _ = W
    have CF : Cl (w.heap.size+1+1) [.int .i64 A, .int .i64 B, .int .i64 C] 32 W := by rw [← hW]; first | exact ((cl_new0 _ _ _ _ (by simp)).alloc _).drew | exact (cl_new0 _ _ _ _ (by simp)).drew
    have CM : Cl (w.heap.size+1+1+1) [.int .i64 (wrap64 M.p), .int .i64 (wrap64 M.q), .int .i64 (wrap64 M.r), .int .i64 (wrap64 M.s)] 43 W := by rw [← hW]; first | exact ((cl_new0 _ _ _ _ (by simp)).alloc _).drew | exact (cl_new0 _ _ _ _ (by simp)).drew
    have CR : Cl (w.heap.size + 1) [.int .i64 0, .int .i64 0, .int .i64 0, .int .i64 0, .int .i64 0, .int .i64 0, .int .i64 0] 63 W := by rw [← hW]; exact (((cl_new0 _ _ _ _ (by simp)).alloc _).alloc _).drew
    have f0 : W.cell? ⟨(w.heap.size+1+1), 0, none⟩ = some (.int .i64 A) := CF.cell 0
    have f1 : W.cell? ⟨(w.heap.size+1+1), 1, none⟩ = some (.int .i64 B) := CF.cell 1
    have f2 : W.cell? ⟨(w.heap.size+1+1), 2, none⟩ = some (.int .i64 C) := CF.cell 2
    have f3 : W.frozen? ⟨(w.heap.size+1+1), 1, none⟩ = false := CF.frozen _
    have f4 : W.frozen? ⟨(w.heap.size+1+1), 2, none⟩ = false := CF.frozen _
    have f5 : (w.heap.size+1+1) < W.heap.size := CF.lt
    have m0 : W.cell? ⟨(w.heap.size+1+1+1), 0, none⟩ = some (.int .i64 (wrap64 M.p)) := CM.cell 0
    have m1 : W.cell? ⟨(w.heap.size+1+1+1), 1, none⟩ = some (.int .i64 (wrap64 M.q)) := CM.cell 1
    have m2 : W.cell? ⟨(w.heap.size+1+1+1), 2, none⟩ = some (.int .i64 (wrap64 M.r)) := CM.cell 2
    have m3 : W.cell? ⟨(w.heap.size+1+1+1), 3, none⟩ = some (.int .i64 (wrap64 M.s)) := CM.cell 3
    have q0 : W.cell? ⟨w.heap.size + 1, 0, none⟩ = some (.int .i64 0) := CR.cell 0
    have q1 : W.cell? ⟨w.heap.size + 1, 1, none⟩ = some (.int .i64 0) := CR.cell 1
    have q2 : W.cell? ⟨w.heap.size + 1, 2, none⟩ = some (.int .i64 0) := CR.cell 2
    have q3 : W.cell? ⟨w.heap.size + 1, 3, none⟩ = some (.int .i64 0) := CR.cell 3
    have q4 : W.cell? ⟨w.heap.size + 1, 4, none⟩ = some (.int .i64 0) := CR.cell 4
    have q5 : W.cell? ⟨w.heap.size + 1, 5, none⟩ = some (.int .i64 0) := CR.cell 5
    have q6 : W.cell? ⟨w.heap.size + 1, 6, none⟩ = some (.int .i64 0) := CR.cell 6
    have z0 : W.frozen? ⟨w.heap.size + 1, 0, none⟩ = false := CR.frozen _
    have z1 : W.frozen? ⟨w.heap.size + 1, 1, none⟩ = false := CR.frozen _
    have z2 : W.frozen? ⟨w.heap.size + 1, 2, none⟩ = false := CR.frozen _
    have z3 : W.frozen? ⟨w.heap.size + 1, 3, none⟩ = false := CR.frozen _
    have z4 : W.frozen? ⟨w.heap.size + 1, 4, none⟩ = false := CR.frozen _
    have z5 : W.frozen? ⟨w.heap.size + 1, 5, none⟩ = false := CR.frozen _
    have z6 : W.frozen? ⟨w.heap.size + 1, 6, none⟩ = false := CR.frozen _
    have z7 : w.heap.size + 1 < W.heap.size := CR.lt
    have HK : Hid (Below w.heap.size w W) := by show Below _ _ _; rw [← hW]; exact (Below.alloc (Below.alloc (Below.alloc (Below.alloc (Below.refl _ _) (Nat.le_refl _) _) (by simp) _) (by simp; omega) _) (by simp; omega) _).drew
    clear hW CF CM CR
    go_wp2_with fail
    go_quiet ((go_at_call 29; exact Calls.quiet_of_same (HL.out _)))
    go_wp2
    refine bodyPost_ret (v := .agg #[.int .i64 A, .int .i64 b', .int .i64 c', .int .i64 (wrap64 M.p), .int .i64 (wrap64 (M.q + K * M.p)), .int .i64 (wrap64 M.r), .int .i64 (wrap64 (M.s + K * M.r))]) (by simp [results, Try.results48, go_sem, wrap64_step, q0, q1, q2, q3, q4, q5, q6, z7]) rfl ⟨rfl, ?_⟩
    iterate 9 refine Below.setCell ?_ (by first | (show w.heap.size ≤ w.heap.size + 1; omega) | (show w.heap.size ≤ w.heap.size + 1 + 1; omega) | (show w.heap.size ≤ w.heap.size + 1 + 1 + 1; omega)) _
    exact below_drewN' HK.out
  · generalize hW : World.drew _ = W
    have CF : Cl (w.heap.size+1+1+1) [.int .i64 A, .int .i64 B, .int .i64 C] 32 W := by rw [← hW]; first | exact ((cl_new0 _ _ _ _ (by simp)).alloc _).drew | exact (cl_new0 _ _ _ _ (by simp)).drew
    have CM : Cl (w.heap.size+1+1) [.int .i64 (wrap64 M.p), .int .i64 (wrap64 M.q), .int .i64 (wrap64 M.r), .int .i64 (wrap64 M.s)] 43 W := by rw [← hW]; first | exact ((cl_new0 _ _ _ _ (by simp)).alloc _).drew | exact (cl_new0 _ _ _ _ (by simp)).drew
    have CR : Cl (w.heap.size + 1) [.int .i64 0, .int .i64 0, .int .i64 0, .int .i64 0, .int .i64 0, .int .i64 0, .int .i64 0] 63 W := by rw [← hW]; exact (((cl_new0 _ _ _ _ (by simp)).alloc _).alloc _).drew
    have f0 : W.cell? ⟨(w.heap.size+1+1+1), 0, none⟩ = some (.int .i64 A) := CF.cell 0
    have f1 : W.cell? ⟨(w.heap.size+1+1+1), 1, none⟩ = some (.int .i64 B) := CF.cell 1
    have f2 : W.cell? ⟨(w.heap.size+1+1+1), 2, none⟩ = some (.int .i64 C) := CF.cell 2
    have f3 : W.frozen? ⟨(w.heap.size+1+1+1), 1, none⟩ = false := CF.frozen _
    have f4 : W.frozen? ⟨(w.heap.size+1+1+1), 2, none⟩ = false := CF.frozen _
    have f5 : (w.heap.size+1+1+1) < W.heap.size := CF.lt
    have m0 : W.cell? ⟨(w.heap.size+1+1), 0, none⟩ = some (.int .i64 (wrap64 M.p)) := CM.cell 0
    have m1 : W.cell? ⟨(w.heap.size+1+1), 1, none⟩ = some (.int .i64 (wrap64 M.q)) := CM.cell 1
    have m2 : W.cell? ⟨(w.heap.size+1+1), 2, none⟩ = some (.int .i64 (wrap64 M.r)) := CM.cell 2
    have m3 : W.cell? ⟨(w.heap.size+1+1), 3, none⟩ = some (.int .i64 (wrap64 M.s)) := CM.cell 3
    have q0 : W.cell? ⟨w.heap.size + 1, 0, none⟩ = some (.int .i64 0) := CR.cell 0
    have q1 : W.cell? ⟨w.heap.size + 1, 1, none⟩ = some (.int .i64 0) := CR.cell 1
    have q2 : W.cell? ⟨w.heap.size + 1, 2, none⟩ = some (.int .i64 0) := CR.cell 2
    have q3 : W.cell? ⟨w.heap.size + 1, 3, none⟩ = some (.int .i64 0) := CR.cell 3
    have q4 : W.cell? ⟨w.heap.size + 1, 4, none⟩ = some (.int .i64 0) := CR.cell 4
    have q5 : W.cell? ⟨w.heap.size + 1, 5, none⟩ = some (.int .i64 0) := CR.cell 5
    have q6 : W.cell? ⟨w.heap.size + 1, 6, none⟩ = some (.int .i64 0) := CR.cell 6
    have z0 : W.frozen? ⟨w.heap.size + 1, 0, none⟩ = false := CR.frozen _
    have z1 : W.frozen? ⟨w.heap.size + 1, 1, none⟩ = false := CR.frozen _
    have z2 : W.frozen? ⟨w.heap.size + 1, 2, none⟩ = false := CR.frozen _
    have z3 : W.frozen? ⟨w.heap.size + 1, 3, none⟩ = false := CR.frozen _
    have z4 : W.frozen? ⟨w.heap.size + 1, 4, none⟩ = false := CR.frozen _
    have z5 : W.frozen? ⟨w.heap.size + 1, 5, none⟩ = false := CR.frozen _
    have z6 : W.frozen? ⟨w.heap.size + 1, 6, none⟩ = false := CR.frozen _
    have z7 : w.heap.size + 1 < W.heap.size := CR.lt
    have HK : Hid (Below w.heap.size w W) := by show Below _ _ _; rw [← hW]; exact (Below.alloc (Below.alloc (Below.alloc (Below.alloc (Below.refl _ _) (Nat.le_refl _) _) (by simp) _) (by simp; omega) _) (by simp; omega) _).drew
    clear hW CF CM CR
    go_wp2_with fail
    go_quiet ((go_at_call 29; exact Calls.quiet_of_same (HL.out _)))
    go_wp2
    refine bodyPost_ret (v := .agg #[.int .i64 A, .int .i64 b', .int .i64 c', .int .i64 (wrap64 M.p), .int .i64 (wrap64 (M.q + K * M.p)), .int .i64 (wrap64 M.r), .int .i64 (wrap64 (M.s + K * M.r))]) (by simp [results, Try.results48, go_sem, wrap64_step, q0, q1, q2, q3, q4, q5, q6, z7]) rfl ⟨rfl, ?_⟩
    iterate 9 refine Below.setCell ?_ (by first | (show w.heap.size ≤ w.heap.size + 1; omega) | (show w.heap.size ≤ w.heap.size + 1 + 1; omega) | (show w.heap.size ≤ w.heap.size + 1 + 1 + 1; omega)) _
    exact below_drewN' HK.out
end Go.Proofs.Ytijkanilpblogae
