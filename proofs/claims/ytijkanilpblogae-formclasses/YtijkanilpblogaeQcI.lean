/- The program: quad.compose, the walk. -/
import Derived.Test.YtijkanilpblogaeQcH
set_option linter.unusedSimpArgs false
set_option linter.unusedVariables false
set_option maxRecDepth 100000
namespace Go.Proofs.Ytijkanilpblogae
open Go.RowKit

/-- The memory of the walk. -/
structure Ko (h : Nat) (f g : Qf) (w W : World) : Prop where
  f : Cl h f.l 32 W
  g : Cl (h + 1) g.l 32 W
  o : Cl (h + 1 + 1) [.int .i64 0, .int .i64 0, .int .i64 0] 32 W
  k : Below h w W
theorem Ko.below {h : Nat} {f g : Qf} {w W W' : World} (x : Ko h f g w W) (c : Below W.heap.size W W') : Ko h f g w W' :=
  ⟨x.f.below c, x.g.below c, x.o.below c, x.k.trans (c.mono (Nat.le_of_lt x.f.lt))⟩

set_option maxHeartbeats 4000000 in
theorem compose_any (f g : Qf) (w : World) (hf : ffault f = (0, 0)) (hg : ffault g = (0, 0)) (hd : f.disc = g.disc) :
    Calls Try.prog 34 #[f.v, g.v] w fun e w' => ∃ h, e = .returned h.v ∧ Cmp f g h ∧ Below w.heap.size w w' := by
  obtain ⟨H, d2, hH, hd2⟩ := same_two hd
  obtain ⟨uf, fa, _, _⟩ := ffault_ok hf
  obtain ⟨ug, ga, _, _⟩ := ffault_ok hg
  obtain ⟨u1, u2, u3, u4, u5, u6⟩ := uf
  obtain ⟨v1, v2, v3, v4, v5, v6⟩ := ug
  have HB1 : Hid (∀ w, Calls Try.prog 50 #[.int .i64 f.a, .int .i64 g.a] w fun e w' => ∃ u v : Int, e = .returned (.tuple #[.int .i64 (Int.gcd f.a g.a : Int), .int .i64 u, .int .i64 v, .agg #[.int .i64 0, .int .i64 0]]) ∧ Bez f.a g.a u v ∧ Below w.heap.size w w') := fun w => Bezout_ok _ _ w (okB_of (by omega) (by omega))
  have g1 := gcd_pos_right (a := f.a) ga
  have HB2 : Hid (∀ w, Calls Try.prog 50 #[.int .i64 H, .int .i64 (Int.gcd f.a g.a : Int)] w fun e w' => ∃ u v : Int, e = .returned (.tuple #[.int .i64 (Int.gcd H (Int.gcd f.a g.a) : Int), .int .i64 u, .int .i64 v, .agg #[.int .i64 0, .int .i64 0]]) ∧ Bez H (Int.gcd f.a g.a) u v ∧ Below w.heap.size w w') := fun w => Bezout_ok _ _ w (okB_of (by omega) (by omega))
  have e1 : (f.b + g.b).tdiv 2 = H := by rw [hH, Int.mul_tdiv_cancel_left _ (by decide)]
  have e2 : (f.b - g.b).tdiv 2 = d2 := by rw [hd2, Int.mul_tdiv_cancel_left _ (by decide)]
  have HZ : Hid (∀ x times w more : Int, Bez f.a g.a x times → Bez H (Int.gcd f.a g.a) w more → Bz f g H (Int.gcd f.a g.a) x times (Int.gcd H (Int.gcd f.a g.a)) w more) := fun x times w more h1 h2 => bz_of ⟨fa, u2⟩ ⟨ga, v2⟩ (by omega) h1 h2
  obtain ⟨E, hE⟩ : ∃ E : Int, (Int.gcd H (Int.gcd f.a g.a) : Int) = E := ⟨_, rfl⟩
  obtain ⟨G, hG⟩ : ∃ G : Int, (Int.gcd f.a g.a : Int) = G := ⟨_, rfl⟩
  rw [hG] at HB1 HB2 HZ g1
  rw [hG] at hE
  rw [hE] at HB2 HZ
  have HF : Hid (ffault f = (0, 0) ∧ ffault g = (0, 0) ∧ f.disc = g.disc ∧ f.b + g.b = 2 * H ∧ f.b - g.b = 2 * d2) := ⟨hf, hg, hd, hH, hd2⟩
  have bH : -1000000 ≤ H ∧ H ≤ 1000000 := by omega
  have bD : -1000000 ≤ d2 ∧ d2 ≤ 1000000 := by omega
  clear hf hg hd hH hd2 hE hG
  unfold Qf.v
  go_enter Try.func34, Try.ntmps34
  go_wp2_with fail
  obtain ⟨W1, hW1⟩ : ∃ W1, W1 = ((w.alloc (.cells #[.int .i64 f.a, .int .i64 f.b, .int .i64 f.c] 32)).alloc (.cells #[.int .i64 g.a, .int .i64 g.b, .int .i64 g.c] 32)).alloc (.cells #[.int .i64 0, .int .i64 0, .int .i64 0] 32) := ⟨_, rfl⟩
  have K1 : Ko w.heap.size f g w W1 := by
    rw [hW1]
    exact ⟨((Cl.new f.l _ w).alloc _).alloc _, (cl_new0 _ g.l _ _ (by simp)).alloc _, cl_new0 _ [.int .i64 0, .int .i64 0, .int .i64 0] _ _ (by simp), Below.alloc (Below.alloc (Below.alloc (Below.refl _ _) (Nat.le_refl _) _) (by simp) _) (by simp; omega) _⟩
  rw [← hW1]
  clear hW1
  refine (HB1.out _).mono ?_
  rintro e w1 ⟨x, times, rfl, hb1, k1⟩
  have HK2 : Hid (Ko w.heap.size f g w (w1.alloc (.cells #[.int .i64 0, .int .i64 0] 24))) := (K1.below k1).below (al1 _ _)
  have HBz1 : Hid (Bez f.a g.a x times) := hb1
  clear K1 k1 HB1 hb1
  go_wp2_with fail
  refine (HB2.out _).mono ?_
  rintro e w2 ⟨ww, more, rfl, hb2, k1⟩
  have HK3 : Hid (Ko w.heap.size f g w (w2.alloc (.cells #[.int .i64 0, .int .i64 0] 24))) := (HK2.out.below k1).below (al1 _ _)
  have z := HZ.out x times ww more HBz1.out hb2
  clear k1 HB2 hb2 HK2 HZ HBz1
  obtain ⟨A, hA⟩ := z.d2
  obtain ⟨B, hB⟩ := z.d3
  have z1 := z.e1
  have z2 := z.t
  have z3 := z.m
  have z4 := z.w1
  have eA : f.a.tdiv E = A := by rw [hA, Int.mul_tdiv_cancel_left _ (by omega)]
  have eB : g.a.tdiv E = B := by rw [hB, Int.mul_tdiv_cancel_left _ (by omega)]
  have t0 : (E == 0) = false := beq_eq_false_iff_ne.2 (by omega)
  obtain ⟨L, hL⟩ : ∃ L, L = (times * more * d2 - ww * g.c) % A := ⟨_, rfl⟩
  obtain ⟨c, hc, hCm, bA, bB, bL⟩ := bz_cmp HF.out.1 HF.out.2.1 HF.out.2.2.1 HF.out.2.2.2.1 HF.out.2.2.2.2 z hA hB hL
  have HCm : Hid (Cmp f g ⟨A * B, g.b + 2 * B * L, c⟩) := hCm
  obtain ⟨V, hV⟩ : ∃ V, times * more = V := ⟨_, rfl⟩
  have bV : -2000000000000 ≤ V ∧ V ≤ 2000000000000 := by
    rw [← hV]
    have := sq_bd (N := 2000000) (x := times) (y := more) (by omega) (by omega) (by omega) (by omega)
    have y1 : (times * more).natAbs = times.natAbs * more.natAbs := Int.natAbs_mul ..
    have y2 : times.natAbs * more.natAbs ≤ 1000000 * 2000000 := Nat.mul_le_mul (by omega) (by omega)
    omega
  obtain ⟨X1, hX1⟩ : ∃ X1, V * d2 = X1 := ⟨_, rfl⟩
  have bX1 : -2000000000000000000 ≤ X1 ∧ X1 ≤ 2000000000000000000 := by
    rw [← hX1]
    have y1 : (V * d2).natAbs = V.natAbs * d2.natAbs := Int.natAbs_mul ..
    have y2 : V.natAbs * d2.natAbs ≤ 2000000000000 * 1000000 := Nat.mul_le_mul (by omega) (by omega)
    omega
  obtain ⟨X2, hX2⟩ : ∃ X2, ww * g.c = X2 := ⟨_, rfl⟩
  have bX2 : -1000000000000 ≤ X2 ∧ X2 ≤ 1000000000000 := by
    rw [← hX2]
    exact sq_bd (N := 1000000) (x := ww) (y := g.c) (by omega) (by omega) (by omega) (by omega)
  have HLf : Hid (∀ w, Calls Try.prog 29 #[.int .i64 (X1 - X2), .int .i64 A] w fun e w' => e = .returned (.int .i64 L) ∧ w' = w) := fun w => by
    rw [hL, hV, hX1, hX2]; exact modLeft_int _ _ w (by omega) bA.1 (by omega)
  obtain ⟨P1, hP1⟩ : ∃ P1, A * B = P1 := ⟨_, rfl⟩
  obtain ⟨P2, hP2⟩ : ∃ P2, 2 * B * L = P2 := ⟨_, rfl⟩
  obtain ⟨P3, hP3⟩ : ∃ P3, E * g.c = P3 := ⟨_, rfl⟩
  obtain ⟨P4, hP4⟩ : ∃ P4, B * L = P4 := ⟨_, rfl⟩
  obtain ⟨P5, hP5⟩ : ∃ P5, L * (g.b + P4) = P5 := ⟨_, rfl⟩
  have b1 : 0 ≤ P1 ∧ P1 ≤ 1000000000000 := by rw [← hP1]; exact ⟨Int.mul_nonneg (by omega) (by omega), (sq_bd (N := 1000000) (x := A) (y := B) (by omega) (by omega) (by omega) (by omega)).2⟩
  have b4 : 0 ≤ P4 ∧ P4 ≤ 1000000000000 := by rw [← hP4]; exact ⟨Int.mul_nonneg (by omega) (by omega), (sq_bd (N := 1000000) (x := B) (y := L) (by omega) (by omega) (by omega) (by omega)).2⟩
  have b2 : 0 ≤ P2 ∧ P2 ≤ 2000000000000 := by rw [← hP2, Int.mul_assoc, hP4]; omega
  have b3 : -1000000000000 ≤ P3 ∧ P3 ≤ 1000000000000 := by rw [← hP3]; exact sq_bd (N := 1000000) (x := E) (y := g.c) (by omega) (by omega) (by omega) (by omega)
  have b5 : -2000000000000000000 ≤ P5 ∧ P5 ≤ 2000000000000000000 := by
    rw [← hP5]
    have y1 : (L * (g.b + P4)).natAbs = L.natAbs * (g.b + P4).natAbs := Int.natAbs_mul ..
    have y2 : L.natAbs * (g.b + P4).natAbs ≤ 1000000 * 2000000000000 := Nat.mul_le_mul (by omega) (by omega)
    omega
  have eC : (P3 + P5).tdiv A = c := by rw [← hc, ← hP3, ← hP5, ← hP4]
  have bC := HCm.out.up.2.2.2.2
  simp only [] at bC
  have t1 : (A == 0) = false := beq_eq_false_iff_ne.2 (by omega)
  rw [hP1, hP2] at HCm
  clear hc hCm hL hA hB z HF
  have c0 := HK3.out.f.cell 0
  have c1 := HK3.out.f.cell 1
  have c2 := HK3.out.f.cell 2
  have c3 := HK3.out.g.cell 0
  have c4 := HK3.out.g.cell 1
  have c5 := HK3.out.g.cell 2
  simp at c0 c1 c2 c3 c4 c5
  obtain ⟨W3, hW3⟩ : ∃ W3, W3 = w2.alloc (.cells #[.int .i64 0, .int .i64 0] 24) := ⟨_, rfl⟩
  rw [← hW3] at HK3 c0 c1 c2 c3 c4 c5
  go_wp2_with fail
  rw [← hW3]
  clear hW3
  go_region
  go_wp2_with fail
  refine (HLf.out _).mono ?_
  rintro e w3 ⟨rfl, hw⟩
  have HK4 : Hid (Ko w.heap.size f g w w3) := by rw [hw]; exact HK3.out.below ((Below.refl _ _).drew)
  clear hw HK3 HLf c0 c1 c2 c3 c4 c5
  have c3 := HK4.out.g.cell 0
  have c4 := HK4.out.g.cell 1
  have c5 := HK4.out.g.cell 2
  have o0 := HK4.out.o.cell 0
  have o1 := HK4.out.o.cell 1
  have o2 := HK4.out.o.cell 2
  have o3 := HK4.out.o.frozen 0
  have o4 := HK4.out.o.frozen 1
  have o5 := HK4.out.o.frozen 2
  have o6 := HK4.out.o.lt
  simp at c3 c4 c5 o0 o1 o2
  go_wp2_with fail
  go_region
  go_wp2
  refine bodyPost_ret (v := .agg #[.int .i64 P1, .int .i64 (g.b + P2), .int .i64 c]) (by simp [results, Try.results34, go_sem, o0, o1, o2, o6]) rfl ⟨⟨P1, g.b + P2, c⟩, rfl, HCm.out, ?_⟩
  refine Below.drew ?_
  iterate 3 refine Below.setCell ?_ (by show w.heap.size ≤ w.heap.size + 1 + 1; omega) _
  exact HK4.out.k

end Go.Proofs.Ytijkanilpblogae
