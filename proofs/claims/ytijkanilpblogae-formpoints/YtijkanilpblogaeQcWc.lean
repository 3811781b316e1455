import Derived.Test.YtijkanilpblogaeQcB
import Derived.Test.YtijkanilpblogaeQcM
import Derived.BigRegion
import Derived.BigQuiet
import Derived.Test.YtijkanilpblogaeQfN
import Derived.Deep.LoopGhost
section
/- The program: (turned).slide, (turned).swap. -/
set_option linter.unusedSimpArgs false
set_option linter.unusedVariables false
set_option maxRecDepth 100000
namespace Go.Proofs.Ytijkanilpblogae
open Go.RowKit

/-- A form and the numbers that lead to it. -/
def Tv (f : Qf) (m : Mt) : Value := .agg #[.int .i64 f.a, .int .i64 f.b, .int .i64 f.c, .int .i64 m.p, .int .i64 m.q, .int .i64 m.r, .int .i64 m.s]
/-- What is left of the numbers in 64 bits. -/
def Mt.w (m : Mt) : Mt := ⟨wrap64 m.p, wrap64 m.q, wrap64 m.r, wrap64 m.s⟩

theorem wrap64_neg (x : Int) : wrap64 (-wrap64 x) = wrap64 (-x) := by
  simp only [wrap64]; omega
theorem wrap64_mod (x : Int) : ∃ k, wrap64 x = x + 18446744073709551616 * k := by
  simp only [wrap64]
  exact ⟨-((x + 9223372036854775808) / 18446744073709551616), by omega⟩
theorem wrap64_cong {x y k : Int} (h : x = y + 18446744073709551616 * k) : wrap64 x = wrap64 y := by
  simp only [wrap64]; omega
theorem wrap64_step (q k p : Int) : wrap64 (wrap64 q + wrap64 (k * wrap64 p)) = wrap64 (q + k * p) := by
  obtain ⟨a, ha⟩ := wrap64_mod p
  obtain ⟨b, hb⟩ := wrap64_mod q
  obtain ⟨c, hc⟩ := wrap64_mod (k * wrap64 p)
  rw [hc, hb, ha]
  refine wrap64_cong (k := a * k + b + c) ?_
  grind
theorem wrap64_id {x : Int} (h : -9223372036854775808 ≤ x ∧ x ≤ 9223372036854775807) : wrap64 x = x := by
  simp only [wrap64]; omega

set_option maxHeartbeats 4000000 in
theorem swap_any (f : Qf) (M : Mt) (w : World) (h : f.upto 4000000000000) : Calls Try.prog 49 #[Tv f M.w] w fun e w' => e = .returned (Tv (swapF f) (swapM M).w) ∧ Below w.heap.size w w' := by
  obtain ⟨h1, h2, h3, h4, h5, h6⟩ := h
  unfold Tv swapF swapM Mt.w
  simp only []
  go_enter Try.func49, Try.ntmps49
  go_wp2
  go_region
  all_goals
    go_wp2
    refine bodyPost_ret (v := .agg #[.int .i64 f.c, .int .i64 (-f.b), .int .i64 f.a, .int .i64 (wrap64 M.q), .int .i64 (wrap64 (-M.p)), .int .i64 (wrap64 M.s), .int .i64 (wrap64 (-M.r))]) (by simp [results, Try.results49, go_sem, wrap64_neg]) rfl ⟨rfl, ?_⟩
    exact (Below.alloc (Below.alloc (Below.alloc (Below.alloc (Below.refl _ _) (Nat.le_refl _) _) (by simp) _) (by simp; omega) _) (by simp; omega) _).drew

theorem modLeft_int (a n : Int) (w : World) (ha : a.natAbs ≤ 4000000000000000000) (h0 : 1 ≤ n) (hn : n ≤ 1000000000000000000) :
    Calls Try.prog 29 #[.int .i64 a, .int .i64 n] w fun e w' => e = .returned (.int .i64 (a % n)) ∧ w' = w := by
  obtain ⟨m, rfl⟩ : ∃ m : Nat, n = m := ⟨n.toNat, by omega⟩
  exact left_any a m w ha (by omega) hn

set_option maxHeartbeats 4000000 in
theorem slide_any (f : Qf) (M : Mt) (w : World) (h : f.upto 4000000000000) (ha : 1 ≤ f.a) (hd : f.disc < 0) : Calls Try.prog 48 #[Tv f M.w] w fun e w' => e = .returned (Tv (slideF f) (slideM f M).w) ∧ Below w.heap.size w w' := by
  obtain ⟨s1, s2, s3⟩ := slide_b ha
  obtain ⟨s4, s5, s6⟩ := slide_c ha hd
  have s7 := slide_k (f := f)
  have s8 := slide_div ha
  have s9 := slide_half (f := f)
  have sA : (slideF f).a = f.a := rfl
  have s10 : slideK f * (2 * f.a) = (slideF f).b - f.b := by simp only [slideF]; grind
  obtain ⟨K, hK⟩ : ∃ K, slideK f = K := ⟨_, rfl⟩
  have hM : (slideM f M).w = ⟨wrap64 M.p, wrap64 (M.q + K * M.p), wrap64 M.r, wrap64 (M.s + K * M.r)⟩ := by rw [← hK]; rfl
  rw [hM]
  clear hM
  obtain ⟨b', hb⟩ : ∃ b', (slideF f).b = b' := ⟨_, rfl⟩
  obtain ⟨c', hc⟩ : ∃ c', (slideF f).c = c' := ⟨_, rfl⟩
  unfold Tv Mt.w
  rw [sA, hb, hc]
  rw [hK] at s7 s8 s9 s10
  rw [hb] at s1 s2 s3 s6 s7 s8 s9 s10
  rw [hc] at s4 s5 s7 s9
  clear hK hb hc sA hd
  obtain ⟨h1, h2, h3, h4, h5, h6⟩ := h
  obtain ⟨A, B, C⟩ := f
  simp only [] at *
  obtain ⟨R, hR⟩ : ∃ R, (A - B) % (2 * A) = R := ⟨_, rfl⟩
  have HL : Hid (∀ w, Calls Try.prog 29 #[.int .i64 (A - B), .int .i64 (2 * A)] w fun e w' => e = .returned (.int .i64 R) ∧ w' = w) := fun w => by rw [← hR]; exact modLeft_int _ _ w (by omega) (by omega) (by omega)
  have r1 := Int.emod_nonneg (A - B) (show 2 * A ≠ 0 by omega)
  have r2 := Int.emod_lt_of_pos (A - B) (show 0 < 2 * A by omega)
  rw [hR] at r1 r2 s1
  have e1 : A - R = b' := s1.symm
  have kb : -8000000000000 ≤ K ∧ K ≤ 8000000000000 := by
    have x1 : (K * (2 * A)).natAbs = K.natAbs * (2 * A).natAbs := Int.natAbs_mul ..
    have x2 : K.natAbs * 1 ≤ K.natAbs * (2 * A).natAbs := Nat.mul_le_mul_left _ (by omega)
    rw [s10] at x1
    omega
  obtain ⟨T, hT⟩ : ∃ T, K * (B + b') = T := ⟨_, rfl⟩
  rw [hT] at s7 s9
  obtain ⟨d, hd⟩ : ∃ d, d = c' - C := ⟨_, rfl⟩
  have e4 : T.tdiv 2 = d := by rw [hd]; exact s9
  have e5 : C + d = c' := by omega
  have t1 : ((2 * A : Int) == 0) = false := beq_eq_false_iff_ne.2 (by omega)
  have t2 : -8000000000000 ≤ T ∧ T ≤ 8000000000000 := by omega
  have t3 : -8000000000000 ≤ d ∧ d ≤ 8000000000000 := by omega
  have v1 : IntKind.i64.wrap (A - B) = A - B := by rw [IntKind.wrap_i64]; omega
  have v2 : IntKind.i64.wrap (2 * A) = 2 * A := by rw [IntKind.wrap_i64]; omega
  have v3 : IntKind.i64.wrap (A - R) = b' := by rw [IntKind.wrap_i64]; omega
  clear hR s1 s7 s9 s10 hd r1 r2 s6
  go_enter Try.func48, Try.ntmps48
  go_wp2
  go_region
  · generalize hW : World.drew _ = W
    have CF : Cl (w.heap.size+1+1) [.int .i64 A, .int .i64 B, .int .i64 C] 32 W := by rw [← hW]; first | exact ((cl_new0 _ _ _ _ (by simp)).alloc _).drew | exact (cl_new0 _ _ _ _ (by simp)).drew
    have CM : Cl (w.heap.size+1+1+1) [.int .i64 (wrap64 M.p), .int .i64 (wrap64 M.q), .int .i64 (wrap64 M.r), .int .i64 (wrap64 M.s)] 43 W := by rw [← hW]; first | exact ((cl_new0 _ _ _ _ (by simp)).alloc _).drew | exact (cl_new0 _ _ _ _ (by simp)).drew
    have CR : Cl (w.heap.size + 1) [.int .i64 0, .int .i64 0, .int .i64 0, .int .i64 0, .int .i64 0, .int .i64 0, .int .i64 0] 63 W := by rw [← hW]; exact (((cl_new0 _ _ _ _ (by simp)).alloc _).alloc _).drew
    have f0 : W.cell? ⟨(w.heap.size+1+1), 0, none⟩ = some (.int .i64 A) := CF.cell 0
    have f1 : W.cell? ⟨(w.heap.size+1+1), 1, none⟩ = some (.int .i64 B) := CF.cell 1
    have f2 : W.cell? ⟨(w.heap.size+1+1), 2, none⟩ = some (.int .i64 C) := CF.cell 2
    have f3 : W.frozen? ⟨(w.heap.size+1+1), 1, none⟩ = false := CF.frozen _
    have f4 : W.frozen? ⟨(w.heap.size+1+1), 2, none⟩ = false := CF.frozen _
    have f5 : (w.heap.size+1+1) < W.heap.size := CF.lt
    have m0 : W.cell? ⟨(w.heap.size+1+1+1), 0, none⟩ = some (.int .i64 (wrap64 M.p)) := CM.cell 0
    have m1 : W.cell? ⟨(w.heap.size+1+1+1), 1, none⟩ = some (.int .i64 (wrap64 M.q)) := CM.cell 1
    have m2 : W.cell? ⟨(w.heap.size+1+1+1), 2, none⟩ = some (.int .i64 (wrap64 M.r)) := CM.cell 2
    have m3 : W.cell? ⟨(w.heap.size+1+1+1), 3, none⟩ = some (.int .i64 (wrap64 M.s)) := CM.cell 3
    have q0 : W.cell? ⟨w.heap.size + 1, 0, none⟩ = some (.int .i64 0) := CR.cell 0
    have q1 : W.cell? ⟨w.heap.size + 1, 1, none⟩ = some (.int .i64 0) := CR.cell 1
    have q2 : W.cell? ⟨w.heap.size + 1, 2, none⟩ = some (.int .i64 0) := CR.cell 2
    have q3 : W.cell? ⟨w.heap.size + 1, 3, none⟩ = some (.int .i64 0) := CR.cell 3
    have q4 : W.cell? ⟨w.heap.size + 1, 4, none⟩ = some (.int .i64 0) := CR.cell 4
    have q5 : W.cell? ⟨w.heap.size + 1, 5, none⟩ = some (.int .i64 0) := CR.cell 5
    have q6 : W.cell? ⟨w.heap.size + 1, 6, none⟩ = some (.int .i64 0) := CR.cell 6
    have z0 : W.frozen? ⟨w.heap.size + 1, 0, none⟩ = false := CR.frozen _
    have z1 : W.frozen? ⟨w.heap.size + 1, 1, none⟩ = false := CR.frozen _
    have z2 : W.frozen? ⟨w.heap.size + 1, 2, none⟩ = false := CR.frozen _
    have z3 : W.frozen? ⟨w.heap.size + 1, 3, none⟩ = false := CR.frozen _
    have z4 : W.frozen? ⟨w.heap.size + 1, 4, none⟩ = false := CR.frozen _
    have z5 : W.frozen? ⟨w.heap.size + 1, 5, none⟩ = false := CR.frozen _
    have z6 : W.frozen? ⟨w.heap.size + 1, 6, none⟩ = false := CR.frozen _
    have z7 : w.heap.size + 1 < W.heap.size := CR.lt
    have HK : Hid (Below w.heap.size w W) := by show Below _ _ _; rw [← hW]; exact (Below.alloc (Below.alloc (Below.alloc (Below.alloc (Below.refl _ _) (Nat.le_refl _) _) (by simp) _) (by simp; omega) _) (by simp; omega) _).drew
    clear hW CF CM CR
    go_wp2_with fail
    go_quiet ((go_at_call 29; exact Calls.quiet_of_same (HL.out _)))
    go_wp2
    refine bodyPost_ret (v := .agg #[.int .i64 A, .int .i64 b', .int .i64 c', .int .i64 (wrap64 M.p), .int .i64 (wrap64 (M.q + K * M.p)), .int .i64 (wrap64 M.r), .int .i64 (wrap64 (M.s + K * M.r))]) (by simp [results, Try.results48, go_sem, wrap64_step, q0, q1, q2, q3, q4, q5, q6, z7]) rfl ⟨rfl, ?_⟩
    iterate 9 refine Below.setCell ?_ (by first | (show w.heap.size ≤ w.heap.size + 1; omega) | (show w.heap.size ≤ w.heap.size + 1 + 1; omega) | (show w.heap.size ≤ w.heap.size + 1 + 1 + 1; omega)) _
    exact below_drewN' HK.out
  · generalize hW : World.drew _ = W
    have CF : Cl (w.heap.size+1+1+1) [.int .i64 A, .int .i64 B, .int .i64 C] 32 W := by rw [← hW]; first | exact ((cl_new0 _ _ _ _ (by simp)).alloc _).drew | exact (cl_new0 _ _ _ _ (by simp)).drew
    have CM : Cl (w.heap.size+1+1) [.int .i64 (wrap64 M.p), .int .i64 (wrap64 M.q), .int .i64 (wrap64 M.r), .int .i64 (wrap64 M.s)] 43 W := by rw [← hW]; first | exact ((cl_new0 _ _ _ _ (by simp)).alloc _).drew | exact (cl_new0 _ _ _ _ (by simp)).drew
    have CR : Cl (w.heap.size + 1) [.int .i64 0, .int .i64 0, .int .i64 0, .int .i64 0, .int .i64 0, .int .i64 0, .int .i64 0] 63 W := by rw [← hW]; exact (((cl_new0 _ _ _ _ (by simp)).alloc _).alloc _).drew
    have f0 : W.cell? ⟨(w.heap.size+1+1+1), 0, none⟩ = some (.int .i64 A) := CF.cell 0
    have f1 : W.cell? ⟨(w.heap.size+1+1+1), 1, none⟩ = some (.int .i64 B) := CF.cell 1
    have f2 : W.cell? ⟨(w.heap.size+1+1+1), 2, none⟩ = some (.int .i64 C) := CF.cell 2
    have f3 : W.frozen? ⟨(w.heap.size+1+1+1), 1, none⟩ = false := CF.frozen _
    have f4 : W.frozen? ⟨(w.heap.size+1+1+1), 2, none⟩ = false := CF.frozen _
    have f5 : (w.heap.size+1+1+1) < W.heap.size := CF.lt
    have m0 : W.cell? ⟨(w.heap.size+1+1), 0, none⟩ = some (.int .i64 (wrap64 M.p)) := CM.cell 0
    have m1 : W.cell? ⟨(w.heap.size+1+1), 1, none⟩ = some (.int .i64 (wrap64 M.q)) := CM.cell 1
    have m2 : W.cell? ⟨(w.heap.size+1+1), 2, none⟩ = some (.int .i64 (wrap64 M.r)) := CM.cell 2
    have m3 : W.cell? ⟨(w.heap.size+1+1), 3, none⟩ = some (.int .i64 (wrap64 M.s)) := CM.cell 3
    have q0 : W.cell? ⟨w.heap.size + 1, 0, none⟩ = some (.int .i64 0) := CR.cell 0
    have q1 : W.cell? ⟨w.heap.size + 1, 1, none⟩ = some (.int .i64 0) := CR.cell 1
    have q2 : W.cell? ⟨w.heap.size + 1, 2, none⟩ = some (.int .i64 0) := CR.cell 2
    have q3 : W.cell? ⟨w.heap.size + 1, 3, none⟩ = some (.int .i64 0) := CR.cell 3
    have q4 : W.cell? ⟨w.heap.size + 1, 4, none⟩ = some (.int .i64 0) := CR.cell 4
    have q5 : W.cell? ⟨w.heap.size + 1, 5, none⟩ = some (.int .i64 0) := CR.cell 5
    have q6 : W.cell? ⟨w.heap.size + 1, 6, none⟩ = some (.int .i64 0) := CR.cell 6
    have z0 : W.frozen? ⟨w.heap.size + 1, 0, none⟩ = false := CR.frozen _
    have z1 : W.frozen? ⟨w.heap.size + 1, 1, none⟩ = false := CR.frozen _
    have z2 : W.frozen? ⟨w.heap.size + 1, 2, none⟩ = false := CR.frozen _
    have z3 : W.frozen? ⟨w.heap.size + 1, 3, none⟩ = false := CR.frozen _
    have z4 : W.frozen? ⟨w.heap.size + 1, 4, none⟩ = false := CR.frozen _
    have z5 : W.frozen? ⟨w.heap.size + 1, 5, none⟩ = false := CR.frozen _
    have z6 : W.frozen? ⟨w.heap.size + 1, 6, none⟩ = false := CR.frozen _
    have z7 : w.heap.size + 1 < W.heap.size := CR.lt
    have HK : Hid (Below w.heap.size w W) := by show Below _ _ _; rw [← hW]; exact (Below.alloc (Below.alloc (Below.alloc (Below.alloc (Below.refl _ _) (Nat.le_refl _) _) (by simp) _) (by simp; omega) _) (by simp; omega) _).drew
    clear hW CF CM CR
    go_wp2_with fail
    go_quiet ((go_at_call 29; exact Calls.quiet_of_same (HL.out _)))
    go_wp2
    refine bodyPost_ret (v := .agg #[.int .i64 A, .int .i64 b', .int .i64 c', .int .i64 (wrap64 M.p), .int .i64 (wrap64 (M.q + K * M.p)), .int .i64 (wrap64 M.r), .int .i64 (wrap64 (M.s + K * M.r))]) (by simp [results, Try.results48, go_sem, wrap64_step, q0, q1, q2, q3, q4, q5, q6, z7]) rfl ⟨rfl, ?_⟩
    iterate 9 refine Below.setCell ?_ (by first | (show w.heap.size ≤ w.heap.size + 1; omega) | (show w.heap.size ≤ w.heap.size + 1 + 1; omega) | (show w.heap.size ≤ w.heap.size + 1 + 1 + 1; omega)) _
    exact below_drewN' HK.out
end Go.Proofs.Ytijkanilpblogae
end

section
/- The program: quad.reduce and Reduce. -/
set_option linter.unusedSimpArgs false
set_option linter.unusedVariables false
set_option maxRecDepth 100000
namespace Go.Proofs.Ytijkanilpblogae
open Go.RowKit

/-- On the way: a form that is like f, slid. -/
structure Rs (f g : Qf) (M : Mt) : Prop where
  lk : MQ.Lk f g M
  a : 1 ≤ g.a
  up : g.upto 4000000000000
  disc : g.disc = f.disc
  sl : slidB g
theorem Rs.start {f : Qf} (h : f.upto 4000000000000) (ha : 1 ≤ f.a) (hd : f.disc < 0) : Rs f (slideF f) (slideM f ⟨1, 0, 0, 1⟩) := by
  obtain ⟨h1, h2, h3, h4, h5, h6⟩ := h
  obtain ⟨s1, s2, s3⟩ := slide_b ha
  obtain ⟨s4, s5, s6⟩ := slide_c ha hd
  have sA : (slideF f).a = f.a := rfl
  exact ⟨slide_lk (MQ.Lk.refl f), by rw [sA]; exact ha, ⟨by omega, by omega, by omega, by omega, by omega, by omega⟩, slide_disc f, ⟨by omega, by omega⟩⟩
theorem Rs.next {f g : Qf} {M : Mt} (r : Rs f g M) (hd : f.disc < 0) : Rs f (slideF (swapF g)) (slideM (swapF g) (swapM M)) := by
  obtain ⟨h1, h2, h3, h4, h5, h6⟩ := r.up
  have hc := disc_c r.a (by rw [r.disc]; exact hd)
  have hd' : (swapF g).disc < 0 := by rw [swap_disc, r.disc]; exact hd
  have ha' : 1 ≤ (swapF g).a := hc
  obtain ⟨s1, s2, s3⟩ := slide_b ha'
  obtain ⟨s4, s5, s6⟩ := slide_c ha' hd'
  have e1 : (swapF g).a = g.c := rfl
  have e2 : (swapF g).c = g.a := rfl
  have e4 : (slideF (swapF g)).a = g.c := rfl
  exact ⟨slide_lk (swap_lk r.lk), by rw [e4]; exact hc, ⟨by omega, by omega, by omega, by omega, by omega, by omega⟩, by rw [slide_disc, swap_disc, r.disc], ⟨by omega, by omega⟩⟩
theorem swap_up {g : Qf} (h : g.upto 4000000000000) : (swapF g).upto 4000000000000 := by
  obtain ⟨h1, h2, h3, h4, h5, h6⟩ := h
  exact ⟨h5, h6, by show -4000000000000 ≤ -g.b; omega, by show -g.b ≤ 4000000000000; omega, h1, h2⟩

abbrev l7 (g : Qf) (m : Mt) : List Value := [.int .i64 g.a, .int .i64 g.b, .int .i64 g.c, .int .i64 m.p, .int .i64 m.q, .int .i64 m.r, .int .i64 m.s]
/-- The memory of the walk. -/
structure Tm (h b : Nat) (g : Qf) (m : Mt) (w W : World) : Prop where
  t : Cl b (l7 g m) 63 W
  o : Cl (h + 1) [.int .i64 0, .int .i64 0, .int .i64 0, .int .i64 0, .int .i64 0, .int .i64 0, .int .i64 0] 63 W
  ne : h + 1 < b
  k : Below h w W
theorem Tm.below {h b : Nat} {g : Qf} {m : Mt} {w W W' : World} (x : Tm h b g m w W) (c : Below W.heap.size W W') : Tm h b g m w W' :=
  ⟨x.t.below c, x.o.below c, x.ne, x.k.trans (c.mono (by have := x.o.lt; omega))⟩
theorem Tm.set {h b : Nat} {g : Qf} {m : Mt} {w W : World} (x : Tm h b g m w W) (g' : Qf) (m' : Mt) :
    Tm h b g' m' w (((((((W.setCell ⟨b, 0, none⟩ (.int .i64 g'.a)).setCell ⟨b, 1, none⟩ (.int .i64 g'.b)).setCell ⟨b, 2, none⟩ (.int .i64 g'.c)).setCell ⟨b, 3, none⟩ (.int .i64 m'.p)).setCell ⟨b, 4, none⟩ (.int .i64 m'.q)).setCell ⟨b, 5, none⟩ (.int .i64 m'.r)).setCell ⟨b, 6, none⟩ (.int .i64 m'.s)) := by
  have hn := x.ne
  refine ⟨((((((x.t.set 0 _).set 1 _).set 2 _).set 3 _).set 4 _).set 5 _).set 6 _, ?_, hn, ?_⟩
  · exact (((((((x.o.other (by show h + 1 ≠ b; omega) _).other (by show h + 1 ≠ b; omega) _).other (by show h + 1 ≠ b; omega) _).other (by show h + 1 ≠ b; omega) _).other (by show h + 1 ≠ b; omega) _).other (by show h + 1 ≠ b; omega) _).other (by show h + 1 ≠ b; omega) _)
  · have := x.k
    iterate 7 refine Below.setCell ?_ (by show h ≤ b; omega) _
    exact this

set_option maxHeartbeats 4000000 in
theorem reduce_any (f : Qf) (w : World) (h : f.upto 4000000000000) (ha : 1 ≤ f.a) (hd : f.disc < 0) :
    Calls Try.prog 33 #[f.v] w fun e w' => (∃ g M, e = .returned (Tv g M.w) ∧ Rd f g M ∧ 1 ≤ g.a) ∧ Below w.heap.size w w' := by
  have HD : Hid (f.disc < 0) := hd
  have HR0 : Hid (Rs f (slideF f) (slideM f ⟨1, 0, 0, 1⟩)) := Rs.start h ha hd
  have HS0 : Hid (∀ w, Calls Try.prog 48 #[Tv f ⟨1, 0, 0, 1⟩] w fun e w' => e = .returned (Tv (slideF f) (slideM f ⟨1, 0, 0, 1⟩).w) ∧ Below w.heap.size w w') := fun w => by
    have k := slide_any f ⟨1, 0, 0, 1⟩ w h ha hd
    rw [show (⟨1, 0, 0, 1⟩ : Mt).w = ⟨1, 0, 0, 1⟩ by unfold Mt.w; simp only [Mt.mk.injEq]; refine ⟨wrap64_id (by decide), wrap64_id (by decide), wrap64_id (by decide), wrap64_id (by decide)⟩] at k
    exact k
  obtain ⟨g0, hg0⟩ : ∃ g0, slideF f = g0 := ⟨_, rfl⟩
  obtain ⟨M0, hM0⟩ : ∃ M0, slideM f ⟨1, 0, 0, 1⟩ = M0 := ⟨_, rfl⟩
  rw [hg0, hM0] at HR0 HS0
  clear hg0 hM0 h ha hd
  unfold Tv at HS0
  unfold Qf.v
  go_enter Try.func33, Try.ntmps33
  go_wp2_with fail
  obtain ⟨W1, hW1⟩ : ∃ W1, W1 = (w.alloc (.cells #[.int .i64 f.a, .int .i64 f.b, .int .i64 f.c] 32)).alloc (.cells #[.int .i64 0, .int .i64 0, .int .i64 0, .int .i64 0, .int .i64 0, .int .i64 0, .int .i64 0] 63) := ⟨_, rfl⟩
  have C1 : Cl (w.heap.size + 1) [.int .i64 0, .int .i64 0, .int .i64 0, .int .i64 0, .int .i64 0, .int .i64 0, .int .i64 0] 63 W1 := by rw [hW1]; exact cl_new0 _ _ _ _ (by simp)
  have K1 : Below w.heap.size w W1 := by rw [hW1]; exact Below.alloc (Below.alloc (Below.refl _ _) (Nat.le_refl _) _) (by simp) _
  rw [← hW1]
  clear hW1
  refine (HS0.out _).mono ?_
  rintro e w1 ⟨rfl, k1⟩
  have HT0 : Hid (Tm w.heap.size w1.heap.size g0 M0.w w (w1.alloc (.cells #[.int .i64 g0.a, .int .i64 g0.b, .int .i64 g0.c, .int .i64 M0.w.p, .int .i64 M0.w.q, .int .i64 M0.w.r, .int .i64 M0.w.s] 63))) :=
    ⟨Cl.new (l7 g0 M0.w) _ w1, (C1.below k1).alloc _, Nat.lt_of_lt_of_le C1.lt k1.size, (K1.trans (k1.mono K1.size)).trans ((al1 w1 _).mono (K1.trans (k1.mono K1.size)).size)⟩
  clear C1 K1 k1 HS0
  go_wp2
  go_loopg [8] (mea g0) (fun gk _ wx => ∃ (g : Qf) (m : Mt), Hid (Rs f g m ∧ gk = mea g ∧ Tm w.heap.size w1.heap.size g m.w w wx))
  case atStart => exact ⟨g0, M0, HR0.out, rfl, HT0.out⟩
  case round =>
    clear HT0 HR0
    obtain ⟨g, m, HH⟩ := hrel
    have HR : Hid (Rs f g m) := HH.out.1
    have HG : Hid (gk = mea g) := HH.out.2.1
    have HF : Hid (Tm w.heap.size w1.heap.size g m.w w wr) := HH.out.2.2
    have HRed : Hid (∀ w, Calls Try.prog 45 #[g.v] w fun e w' => e = .returned (.bool g.redB) ∧ Below w.heap.size w w') := fun w => isReduced_any g w HR.out.up
    unfold Qf.v at HRed
    have c0 := HF.out.t.cell 0
    have c1 := HF.out.t.cell 1
    have c2 := HF.out.t.cell 2
    simp at c0 c1 c2
    clear HH
    cases hrb : g.redB
    · rw [hrb] at HRed
      have HRb : Hid (g.redB = false) := hrb
      have HSw : Hid (∀ w, Calls Try.prog 49 #[Tv g m.w] w fun e w' => e = .returned (Tv (swapF g) (swapM m).w) ∧ Below w.heap.size w w') := fun w => swap_any g m w HR.out.up
      have HSl : Hid (∀ w, Calls Try.prog 48 #[Tv (swapF g) (swapM m).w] w fun e w' => e = .returned (Tv (slideF (swapF g)) (slideM (swapF g) (swapM m)).w) ∧ Below w.heap.size w w') := fun w =>
        slide_any (swapF g) (swapM m) w (swap_up HR.out.up) (disc_c HR.out.a (by rw [HR.out.disc]; exact HD.out)) (by rw [swap_disc, HR.out.disc]; exact HD.out)
      have HN : Hid (Rs f (slideF (swapF g)) (slideM (swapF g) (swapM m)) ∧ mea (slideF (swapF g)) < gk) := ⟨HR.out.next HD.out, by rw [HG.out]; exact mea_less HR.out.a (by rw [HR.out.disc]; exact HD.out) HR.out.sl HRb.out⟩
      obtain ⟨g1, hg1⟩ : ∃ g1, slideF (swapF g) = g1 := ⟨_, rfl⟩
      obtain ⟨m1, hm1⟩ : ∃ m1, slideM (swapF g) (swapM m) = m1 := ⟨_, rfl⟩
      obtain ⟨gs, hgs⟩ : ∃ g1, swapF g = g1 := ⟨_, rfl⟩
      obtain ⟨ms, hms⟩ : ∃ m1, (swapM m).w = m1 := ⟨_, rfl⟩
      rw [hg1, hm1] at HN HSl
      rw [hgs, hms] at HSl HSw
      unfold Tv at HSw HSl
      clear hrb hg1 hm1 hgs hms
      go_wp2_with fail
      refine (HRed.out _).mono ?_
      rintro e w2 ⟨rfl, k1⟩
      have HF1 : Hid (Tm w.heap.size w1.heap.size g m.w w w2) := HF.out.below k1
      clear c0 c1 c2 k1 HF
      have c0 := HF1.out.t.cell 0
      have c1 := HF1.out.t.cell 1
      have c2 := HF1.out.t.cell 2
      have c3 := HF1.out.t.cell 3
      have c4 := HF1.out.t.cell 4
      have c5 := HF1.out.t.cell 5
      have c6 := HF1.out.t.cell 6
      simp at c0 c1 c2 c3 c4 c5 c6
      go_wp2_with fail
      refine (HSw.out _).mono ?_
      rintro e w3 ⟨rfl, k1⟩
      have HF2 : Hid (Tm w.heap.size w1.heap.size g m.w w w3) := HF1.out.below k1
      clear c0 c1 c2 c3 c4 c5 c6 k1 HF1
      go_wp2_with fail
      refine (HSl.out _).mono ?_
      rintro e w4 ⟨rfl, k1⟩
      have HF3 : Hid (Tm w.heap.size w1.heap.size g m.w w w4) := HF2.out.below k1
      clear k1 HF2
      have c0 := HF3.out.t.cell 0
      have c1 := HF3.out.t.cell 1
      have c2 := HF3.out.t.cell 2
      have c3 := HF3.out.t.cell 3
      have c4 := HF3.out.t.cell 4
      have c5 := HF3.out.t.cell 5
      have c6 := HF3.out.t.cell 6
      have d0 := HF3.out.t.frozen 0
      have d1 := HF3.out.t.frozen 1
      have d2 := HF3.out.t.frozen 2
      have d3 := HF3.out.t.frozen 3
      have d4 := HF3.out.t.frozen 4
      have d5 := HF3.out.t.frozen 5
      have d6 := HF3.out.t.frozen 6
      simp at c0 c1 c2 c3 c4 c5 c6
      go_wp2
      go_roundg (mea g1)
      case rel => exact ⟨g1, m1, HN.out.1, rfl, HF3.out.set g1 m1.w⟩
      case measure => exact HN.out.2
    · rw [hrb] at HRed
      have HRd : Hid (Rd f g m ∧ 1 ≤ g.a) := ⟨⟨hrb, HR.out.lk.det, HR.out.lk.like⟩, HR.out.a⟩
      clear hrb
      go_wp2_with fail
      refine (HRed.out _).mono ?_
      rintro e w2 ⟨rfl, k1⟩
      have F1 := HF.out.below k1
      have HK1 : Hid (Below w.heap.size w w2) := F1.k
      clear c0 c1 c2 k1 HF
      have c0 := F1.t.cell 0
      have c1 := F1.t.cell 1
      have c2 := F1.t.cell 2
      have c3 := F1.t.cell 3
      have c4 := F1.t.cell 4
      have c5 := F1.t.cell 5
      have c6 := F1.t.cell 6
      have o0 := F1.o.cell 0
      have o1 := F1.o.cell 1
      have o2 := F1.o.cell 2
      have o3 := F1.o.cell 3
      have o4 := F1.o.cell 4
      have o5 := F1.o.cell 5
      have o6 := F1.o.cell 6
      have p0 := F1.o.frozen 0
      have p1 := F1.o.frozen 1
      have p2 := F1.o.frozen 2
      have p3 := F1.o.frozen 3
      have p4 := F1.o.frozen 4
      have p5 := F1.o.frozen 5
      have p6 := F1.o.frozen 6
      have p7 := F1.o.lt
      simp at c0 c1 c2 c3 c4 c5 c6 o0 o1 o2 o3 o4 o5 o6
      clear F1
      go_wp2
      refine bodyPost_ret (v := Tv g m.w) (by simp [Tv, results, Try.results33, go_sem, o0, o1, o2, o3, o4, o5, o6, p7]) rfl ⟨⟨g, m, rfl, HRd.out⟩, ?_⟩
      iterate 7 refine Below.setCell ?_ (by show w.heap.size ≤ w.heap.size + 1; omega) _
      exact HK1.out

end Go.Proofs.Ytijkanilpblogae
end

section
/- The program: Reduce. -/
set_option linter.unusedSimpArgs false
set_option linter.unusedVariables false
set_option maxRecDepth 100000
namespace Go.Proofs.Ytijkanilpblogae
open Go.RowKit

/-- The memory of the walk: the form, and where the results go. -/
structure Ro (h : Nat) (f : Qf) (w W : World) : Prop where
  f : Cl h f.l 32 W
  g : Cl (h + 1) [.int .i64 0, .int .i64 0, .int .i64 0] 32 W
  m : Cl (h + 1 + 1) [.int .i64 0, .int .i64 0, .int .i64 0, .int .i64 0] 43 W
  e : Sv (h + 1 + 1 + 1) 0 0 W
  k : Below h w W
theorem Ro.below {h : Nat} {f : Qf} {w W W' : World} (x : Ro h f w W) (c : Below W.heap.size W W') : Ro h f w W' :=
  ⟨x.f.below c, x.g.below c, x.m.below c, x.e.below c, x.k.trans (c.mono (Nat.le_of_lt x.f.lt))⟩

theorem Mt.w_id {M : Mt} (h : M.upto 100000000) : M.w = M := by
  obtain ⟨h1, h2, h3, h4⟩ := h
  obtain ⟨p, q, r, s⟩ := M
  simp only [] at h1 h2 h3 h4
  unfold Mt.w
  simp only [Mt.mk.injEq]
  exact ⟨wrap64_id (by omega), wrap64_id (by omega), wrap64_id (by omega), wrap64_id (by omega)⟩

theorem up_up {f : Qf} (h : f.upto 1000000) : f.upto 4000000000000 := by
  obtain ⟨h1, h2, h3, h4, h5, h6⟩ := h
  exact ⟨by omega, by omega, by omega, by omega, by omega, by omega⟩

/-- .. of a form without a fault. -/
theorem reduce_ok (f : Qf) (w : World) (h : ffault f = (0, 0)) :
    Calls Try.prog 33 #[f.v] w fun e w' => ∃ g m, e = .returned (Tv g m) ∧ Rd f g m ∧ Below w.heap.size w w' := by
  obtain ⟨h1, h2, h3, h4⟩ := ffault_ok h
  refine (reduce_any f w (up_up h1) h2 h3).mono ?_
  rintro e w' ⟨⟨g, M, rfl, hr, _⟩, k⟩
  exact ⟨g, M, by rw [Mt.w_id (hr.small h)], hr, k⟩

set_option maxHeartbeats 4000000 in
theorem Reduce_any (f : Qf) (w : World) :
    Calls Try.prog 20 #[f.v] w fun e w' => ∃ g m, e = .returned (.tuple #[g.v, m.v, ffv (ffault f)]) ∧ RedOut f g m ∧ Below w.heap.size w w' := by
  obtain ⟨c, d, hff⟩ : ∃ c d, ffault f = (c, d) := ⟨_, _, rfl⟩
  have HFF : Hid (ffault f = (c, d)) := hff
  have HC : Hid (∀ w, Calls Try.prog 31 #[f.v] w fun e w' => e = .returned (ffv (c, d)) ∧ Below w.heap.size w w') := fun w => by rw [← hff]; exact Check_any f w
  have HR : Hid (c = 0 → d = 0 → ∀ w, Calls Try.prog 33 #[f.v] w fun e w' => ∃ g m, e = .returned (Tv g m) ∧ Rd f g m ∧ Below w.heap.size w w') := fun e1 e2 w => reduce_ok f w (by rw [hff, e1, e2])
  rw [hff]
  clear hff
  unfold Qf.v at HC HR ⊢
  unfold ffv at HC ⊢
  go_enter Try.func20, Try.ntmps20
  go_wp2_with fail
  obtain ⟨W1, hW1⟩ : ∃ W1, W1 = (((w.alloc (.cells #[.int .i64 f.a, .int .i64 f.b, .int .i64 f.c] 32)).alloc (.cells #[.int .i64 0, .int .i64 0, .int .i64 0] 32)).alloc (.cells #[.int .i64 0, .int .i64 0, .int .i64 0, .int .i64 0] 43)).alloc (.cells #[.int .i64 0, .int .i64 0] 24) := ⟨_, rfl⟩
  have HO1 : Hid (Ro w.heap.size f w W1) := by
    show Ro _ _ _ _
    rw [hW1]
    exact ⟨(((Cl.new f.l _ w).alloc _).alloc _).alloc _, ((cl_new0 _ [.int .i64 0, .int .i64 0, .int .i64 0] _ _ (by simp)).alloc _).alloc _, (cl_new0 _ [.int .i64 0, .int .i64 0, .int .i64 0, .int .i64 0] _ _ (by simp)).alloc _, sv_new0 _ _ _ (by simp) _ _, Below.alloc (Below.alloc (Below.alloc (Below.alloc (Below.refl _ _) (Nat.le_refl _) _) (by simp) _) (by simp; omega) _) (by simp; omega) _⟩
  rw [← hW1]
  clear hW1
  refine (HC.out _).mono ?_
  rintro e w1 ⟨rfl, k1⟩
  have z9 : w.heap.size + 1 + 1 + 1 < w1.heap.size := ((HO1.out.below k1).e).lt
  have HO : Hid (Ro w.heap.size f w (w1.alloc (.cells #[.int .i64 c, .int .i64 d] 24))) := (HO1.out.below k1).below (al1 _ _)
  clear k1 HO1 HC
  rcases ffault_code HFF.out with ⟨rfl, rfl⟩ | hc
  · have c0 := HO.out.f.cell 0
    have c1 := HO.out.f.cell 1
    have c2 := HO.out.f.cell 2
    simp at c0 c1 c2
    go_wp2_with fail
    refine (HR.out trivial trivial _).mono ?_
    rintro e w2 ⟨g, m, rfl, hrd, k2⟩
    have HRd : Hid (Rd f g m) := hrd
    unfold Tv
    obtain ⟨W3, hW3⟩ : ∃ W3, W3 = w2.alloc (.cells #[.int .i64 g.a, .int .i64 g.b, .int .i64 g.c, .int .i64 m.p, .int .i64 m.q, .int .i64 m.r, .int .i64 m.s] 63) := ⟨_, rfl⟩
    have k3 : Below w2.heap.size w2 W3 := by rw [hW3]; exact al1 _ _
    have HO2 : Hid (Ro w.heap.size f w W3) := (HO.out.below k2).below k3
    have CT : Cl w2.heap.size (l7 g m) 63 W3 := by rw [hW3]; exact Cl.new (l7 g m) _ w2
    have t0 := CT.cell 0
    have t1 := CT.cell 1
    have t2 := CT.cell 2
    have t3 := CT.cell 3
    have t4 := CT.cell 4
    have t5 := CT.cell 5
    have t6 := CT.cell 6
    simp at t0 t1 t2 t3 t4 t5 t6
    clear c0 c1 c2 k2 k3 CT HO hrd
    have HO := HO2
    clear HO2
    have a0 := HO.out.g.cell 0
    have a1 := HO.out.g.cell 1
    have a2 := HO.out.g.cell 2
    have a3 := HO.out.g.frozen 0
    have a4 := HO.out.g.frozen 1
    have a5 := HO.out.g.frozen 2
    have a6 := HO.out.g.lt
    have b0 := HO.out.m.cell 0
    have b1 := HO.out.m.cell 1
    have b2 := HO.out.m.cell 2
    have b3 := HO.out.m.cell 3
    have b4 := HO.out.m.frozen 0
    have b5 := HO.out.m.frozen 1
    have b6 := HO.out.m.frozen 2
    have b7 := HO.out.m.frozen 3
    have b8 := HO.out.m.lt
    have r0 := HO.out.e.c0
    have r1 := HO.out.e.c1
    have r2 := HO.out.e.f0
    have r3 := HO.out.e.f1
    have r4 := HO.out.e.lt
    simp at a0 a1 a2 b0 b1 b2 b3
    rw [hW3] at t0 t1 t2 t3 t4 t5 t6 a0 a1 a2 a3 a4 a5 a6 b0 b1 b2 b3 b4 b5 b6 b7 b8 r0 r1 r2 r3 r4 HO
    go_wp2
    rw [← hW3] at *
    clear hW3
    go_region
    go_wp2
    refine bodyPost_ret (v := .tuple #[g.v, m.v, .agg #[.int .i64 0, .int .i64 0]]) (by simp [Qf.v, Mt.v, results, Try.results20, go_sem, a0, a1, a2, a6, b0, b1, b2, b3, b8, r0, r1, r4]) rfl ⟨g, m, rfl, ⟨fun h => absurd HFF.out h, fun _ => HRd.out⟩, ?_⟩
    refine Below.drew ?_
    iterate 9 refine Below.setCell ?_ (by first | (show w.heap.size ≤ w.heap.size + 1; omega) | (show w.heap.size ≤ w.heap.size + 1 + 1; omega) | (show w.heap.size ≤ w.heap.size + 1 + 1 + 1; omega)) _
    exact HO.out.k
  · have hcb : (c != 0) = true := by simpa using hc
    have HX : Hid (c ≠ 0) := hc
    clear hc
    obtain ⟨W3, hW3⟩ : ∃ W3, W3 = w1.alloc (.cells #[.int .i64 c, .int .i64 d] 24) := ⟨_, rfl⟩
    rw [← hW3] at HO
    have CE : Sv w1.heap.size c d W3 := by rw [hW3]; exact sv_new0 _ _ _ rfl _ _
    have e0 := CE.c0
    have e1 := CE.c1
    have a0 := HO.out.g.cell 0
    have a1 := HO.out.g.cell 1
    have a2 := HO.out.g.cell 2
    have a3 := HO.out.g.frozen 0
    have a4 := HO.out.g.frozen 1
    have a5 := HO.out.g.frozen 2
    have a6 := HO.out.g.lt
    have b0 := HO.out.m.cell 0
    have b1 := HO.out.m.cell 1
    have b2 := HO.out.m.cell 2
    have b3 := HO.out.m.cell 3
    have b4 := HO.out.m.frozen 0
    have b5 := HO.out.m.frozen 1
    have b6 := HO.out.m.frozen 2
    have b7 := HO.out.m.frozen 3
    have b8 := HO.out.m.lt
    have r0 := HO.out.e.c0
    have r1 := HO.out.e.c1
    have r2 := HO.out.e.f0
    have r3 := HO.out.e.f1
    have r4 := HO.out.e.lt
    simp at a0 a1 a2 b0 b1 b2 b3
    clear CE
    rw [hW3] at e0 e1 a0 a1 a2 a3 a4 a5 a6 b0 b1 b2 b3 b4 b5 b6 b7 b8 r0 r1 r2 r3 r4
    go_wp2_with fail
    rw [← hW3] at *
    clear hW3
    go_region
    go_wp2
    refine bodyPost_ret (v := .tuple #[Qf.v ⟨0, 0, 0⟩, Mt.v ⟨0, 0, 0, 0⟩, .agg #[.int .i64 c, .int .i64 d]]) (by simp [Qf.v, Mt.v, results, Try.results20, go_sem, a0, a1, a2, a6, b0, b1, b2, b3, b8, r0, r1, r4]) rfl ⟨⟨0, 0, 0⟩, ⟨0, 0, 0, 0⟩, rfl, ⟨fun _ => ⟨rfl, rfl⟩, fun h => ?_⟩, ?_⟩
    · rw [HFF.out] at h; simp at h; exact absurd h.1 HX.out
    refine Below.drew ?_
    iterate 9 refine Below.setCell ?_ (by first | (show w.heap.size ≤ w.heap.size + 1; omega) | (show w.heap.size ≤ w.heap.size + 1 + 1; omega) | (show w.heap.size ≤ w.heap.size + 1 + 1 + 1; omega)) _
    exact HO.out.k

end Go.Proofs.Ytijkanilpblogae
end
