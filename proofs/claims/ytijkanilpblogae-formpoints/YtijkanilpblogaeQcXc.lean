import Derived.Test.YtijkanilpblogaeQcWc
import Derived.Test.YtijkanilpblogaeQfN
import Derived.Test.YtijkanilpblogaeRegionG
import Derived.Test.YtijkanilpblogaeWholeD
import Derived.Test.YtijkanilpblogaeQfF
import Derived.Maps.AppendAt
section
/- The program: quad.compose. -/
set_option linter.unusedSimpArgs false
set_option linter.unusedVariables false
set_option maxRecDepth 100000
namespace Go.Proofs.Ytijkanilpblogae
open Go.RowKit

/-- What compose answers. -/
structure Cmp (f g h : Qf) : Prop where
  up : h.upto 4000000000000
  a : 1 ≤ h.a
  disc : h.disc = f.disc
  co : ∀ s n : Int, (s = 0 ∨ s = 1) → f.disc = s * s + 4 * n → MQ.Co s n f g h ((f.b - s) / 2) ((g.b - s) / 2) ((h.b - s) / 2)

/-- Both Bs leave the same by 2. -/
theorem same_two {f g : Qf} (h : f.disc = g.disc) : ∃ H d2 : Int, f.b + g.b = 2 * H ∧ f.b - g.b = 2 * d2 := by
  obtain ⟨s, n, hs, e⟩ := MQ.disc_sn f
  have e2 : g.disc = s * s + 4 * n := by rw [← h]; exact e
  unfold Qf.disc at e e2
  have x1 : f.b % 2 = g.b % 2 := by
    have p : ∀ b : Int, b * b = 4 * ((b / 2) * (b / 2) + (b / 2) * (b % 2)) + (b % 2) * (b % 2) := fun b => by
      have := Int.emod_add_mul_ediv b 2
      generalize b / 2 = q at *
      generalize b % 2 = r at *
      subst this
      grind
    have p1 := p f.b
    have p2 := p g.b
    have r1 : f.b % 2 = 0 ∨ f.b % 2 = 1 := by omega
    have r2 : g.b % 2 = 0 ∨ g.b % 2 = 1 := by omega
    have m1 : 4 * f.a * f.c = 4 * (f.a * f.c) := Int.mul_assoc ..
    have m2 : 4 * g.a * g.c = 4 * (g.a * g.c) := Int.mul_assoc ..
    rcases r1 with r1 | r1 <;> rcases r2 with r2 | r2 <;> rw [r1] at p1 <;> rw [r2] at p2 <;> omega
  exact ⟨(f.b + g.b) / 2, (f.b - g.b) / 2, by omega, by omega⟩

/-- Bezout's numbers, as they are used. -/
structure Bz (f g : Qf) (H both x times e w more : Int) : Prop where
  b1 : 1 ≤ both ∧ both ≤ 1000000
  l1 : x * f.a + times * g.a = both
  t : -1000000 ≤ times ∧ times ≤ 1000000
  e1 : 1 ≤ e ∧ e ≤ 1000000
  l2 : w * H + more * both = e
  w1 : 0 ≤ w ∧ w ≤ 1000000
  m : -2000000 ≤ more ∧ more ≤ 2000000
  d1 : e ∣ H
  d2 : e ∣ f.a
  d3 : e ∣ g.a

theorem gcd_pos_right {a b : Int} (h : 1 ≤ b) : 1 ≤ (Int.gcd a b : Int) ∧ (Int.gcd a b : Int) ≤ b := by
  have h1 : (Int.gcd a b : Int) ∣ b := Int.gcd_dvd_right ..
  have h2 := Int.le_of_dvd (by omega) h1
  have h3 : Int.gcd a b ≠ 0 := fun h0 => by
    have := (Int.gcd_eq_zero_iff.1 h0).2
    omega
  omega
theorem bez_high {a b u v : Int} (hb : 1 ≤ b) (h : Bez a b u v) : 0 ≤ u ∧ u ≤ b := by
  have h1 := h.low (by omega)
  have h2 := h.high (by omega)
  have h3 : b.natAbs / Int.gcd a b ≤ b.natAbs := Nat.div_le_self _ _
  omega

theorem bz_of {f g : Qf} {H x times w more : Int} (fa : 1 ≤ f.a ∧ f.a ≤ 1000000) (ga : 1 ≤ g.a ∧ g.a ≤ 1000000) (hH : -1000000 ≤ H ∧ H ≤ 1000000) (h1 : Bez f.a g.a x times) (h2 : Bez H (Int.gcd f.a g.a) w more) :
    Bz f g H (Int.gcd f.a g.a) x times (Int.gcd H (Int.gcd f.a g.a)) w more := by
  have g1 := gcd_pos_right (a := f.a) ga.1
  have g2 := gcd_pos_right (a := H) (b := (Int.gcd f.a g.a : Int)) g1.1
  have x1 := bez_high ga.1 h1
  have x2 := bez_high g1.1 h2
  have d0 : (Int.gcd H (Int.gcd f.a g.a) : Int) ∣ (Int.gcd f.a g.a : Int) := Int.gcd_dvd_right ..
  refine ⟨⟨g1.1, by omega⟩, h1.lin, ?_, ⟨g2.1, by omega⟩, h2.lin, ⟨x2.1, by omega⟩, ?_, Int.gcd_dvd_left .., Int.dvd_trans d0 (Int.gcd_dvd_left ..), Int.dvd_trans d0 (Int.gcd_dvd_right ..)⟩
  · exact MQ.bez_bd fa ga g1.1 h1.lin x1.1 x1.2 g1.2
  · exact MQ.bez_bd2 hH ⟨g1.1, by omega⟩ g2.1 h2.lin x2.1 x2.2 g2.2

/-- .. and what is made of them. -/
theorem bz_cmp {f g : Qf} {H d2 both x times e w more A B L : Int} (hf : ffault f = (0, 0)) (hg : ffault g = (0, 0)) (hd : f.disc = g.disc) (hH : f.b + g.b = 2 * H) (h2 : f.b - g.b = 2 * d2) (z : Bz f g H both x times e w more)
    (hA : f.a = e * A) (hB : g.a = e * B) (hL : L = (times * more * d2 - w * g.c) % A) :
    ∃ c, (e * g.c + L * (g.b + B * L)).tdiv A = c ∧ Cmp f g ⟨A * B, g.b + 2 * B * L, c⟩ ∧ (1 ≤ A ∧ A ≤ 1000000) ∧ (1 ≤ B ∧ B ≤ 1000000) ∧ (0 ≤ L ∧ L < A) := by
  obtain ⟨uf, fa, fd, fg⟩ := ffault_ok hf
  obtain ⟨ug, ga, gd, gg⟩ := ffault_ok hg
  obtain ⟨S, hS⟩ := z.d1
  have p1 : 1 ≤ A := pos_of_mul z.e1.1 (by omega)
  have h0 : 0 ≤ L ∧ L < A := by rw [hL]; exact ⟨Int.emod_nonneg _ (by omega), Int.emod_lt_of_pos _ (by omega)⟩
  have hu : (x * more) * A + (times * more) * B + w * S = 1 := by
    have he : e ≠ 0 := by have := z.e1.1; omega
    refine Int.eq_of_mul_eq_mul_left he ?_
    have y1 := z.l1
    have y2 := z.l2
    rw [hA, hB] at y1
    rw [hS] at y2
    rw [← y1] at y2
    clear hL
    grind
  obtain ⟨c, hc, hdc, hco⟩ := MQ.comp_all (f := f) (g := g) fa ga hd.symm (MQ.Pm.of_gcd fg) z.e1.1 hA hB (by rw [hH, hS]) h2 hu hL
  obtain ⟨b1, b2, b3, b4, b5, b6, b7⟩ := MQ.comp_bd uf ug fa ga fd z.e1.1 hA hB h0.1 h0.2 hc hdc
  refine ⟨c, ?_, ⟨b1, b4, hdc, hco⟩, ⟨b2, b6⟩, ⟨b3, b7⟩, h0⟩
  rw [← hc, Int.mul_tdiv_cancel_left _ (by omega)]

end Go.Proofs.Ytijkanilpblogae
end

section
/- The program: quad.compose, the walk. -/
set_option linter.unusedSimpArgs false
set_option linter.unusedVariables false
set_option maxRecDepth 100000
namespace Go.Proofs.Ytijkanilpblogae
open Go.RowKit

/-- The memory of the walk. -/
structure Ko (h : Nat) (f g : Qf) (w W : World) : Prop where
  f : Cl h f.l 32 W
  g : Cl (h + 1) g.l 32 W
  o : Cl (h + 1 + 1) [.int .i64 0, .int .i64 0, .int .i64 0] 32 W
  k : Below h w W
theorem Ko.below {h : Nat} {f g : Qf} {w W W' : World} (x : Ko h f g w W) (c : Below W.heap.size W W') : Ko h f g w W' :=
  ⟨x.f.below c, x.g.below c, x.o.below c, x.k.trans (c.mono (Nat.le_of_lt x.f.lt))⟩

set_option maxHeartbeats 4000000 in
theorem compose_any (f g : Qf) (w : World) (hf : ffault f = (0, 0)) (hg : ffault g = (0, 0)) (hd : f.disc = g.disc) :
    Calls Try.prog 34 #[f.v, g.v] w fun e w' => ∃ h, e = .returned h.v ∧ Cmp f g h ∧ Below w.heap.size w w' := by
  obtain ⟨H, d2, hH, hd2⟩ := same_two hd
  obtain ⟨uf, fa, _, _⟩ := ffault_ok hf
  obtain ⟨ug, ga, _, _⟩ := ffault_ok hg
  obtain ⟨u1, u2, u3, u4, u5, u6⟩ := uf
  obtain ⟨v1, v2, v3, v4, v5, v6⟩ := ug
  have HB1 : Hid (∀ w, Calls Try.prog 50 #[.int .i64 f.a, .int .i64 g.a] w fun e w' => ∃ u v : Int, e = .returned (.tuple #[.int .i64 (Int.gcd f.a g.a : Int), .int .i64 u, .int .i64 v, .agg #[.int .i64 0, .int .i64 0]]) ∧ Bez f.a g.a u v ∧ Below w.heap.size w w') := fun w => Bezout_ok _ _ w (okB_of (by omega) (by omega))
  have g1 := gcd_pos_right (a := f.a) ga
  have HB2 : Hid (∀ w, Calls Try.prog 50 #[.int .i64 H, .int .i64 (Int.gcd f.a g.a : Int)] w fun e w' => ∃ u v : Int, e = .returned (.tuple #[.int .i64 (Int.gcd H (Int.gcd f.a g.a) : Int), .int .i64 u, .int .i64 v, .agg #[.int .i64 0, .int .i64 0]]) ∧ Bez H (Int.gcd f.a g.a) u v ∧ Below w.heap.size w w') := fun w => Bezout_ok _ _ w (okB_of (by omega) (by omega))
  have e1 : (f.b + g.b).tdiv 2 = H := by rw [hH, Int.mul_tdiv_cancel_left _ (by decide)]
  have e2 : (f.b - g.b).tdiv 2 = d2 := by rw [hd2, Int.mul_tdiv_cancel_left _ (by decide)]
  have HZ : Hid (∀ x times w more : Int, Bez f.a g.a x times → Bez H (Int.gcd f.a g.a) w more → Bz f g H (Int.gcd f.a g.a) x times (Int.gcd H (Int.gcd f.a g.a)) w more) := fun x times w more h1 h2 => bz_of ⟨fa, u2⟩ ⟨ga, v2⟩ (by omega) h1 h2
  obtain ⟨E, hE⟩ : ∃ E : Int, (Int.gcd H (Int.gcd f.a g.a) : Int) = E := ⟨_, rfl⟩
  obtain ⟨G, hG⟩ : ∃ G : Int, (Int.gcd f.a g.a : Int) = G := ⟨_, rfl⟩
  rw [hG] at HB1 HB2 HZ g1
  rw [hG] at hE
  rw [hE] at HB2 HZ
  have HF : Hid (ffault f = (0, 0) ∧ ffault g = (0, 0) ∧ f.disc = g.disc ∧ f.b + g.b = 2 * H ∧ f.b - g.b = 2 * d2) := ⟨hf, hg, hd, hH, hd2⟩
  have bH : -1000000 ≤ H ∧ H ≤ 1000000 := by omega
  have bD : -1000000 ≤ d2 ∧ d2 ≤ 1000000 := by omega
  clear hf hg hd hH hd2 hE hG
  unfold Qf.v
  go_enter Try.func34, Try.ntmps34
  go_wp2_with fail
  obtain ⟨W1, hW1⟩ : ∃ W1, W1 = ((w.alloc (.cells #[.int .i64 f.a, .int .i64 f.b, .int .i64 f.c] 32)).alloc (.cells #[.int .i64 g.a, .int .i64 g.b, .int .i64 g.c] 32)).alloc (.cells #[.int .i64 0, .int .i64 0, .int .i64 0] 32) := ⟨_, rfl⟩
  have K1 : Ko w.heap.size f g w W1 := by
    rw [hW1]
    exact ⟨((Cl.new f.l _ w).alloc _).alloc _, (cl_new0 _ g.l _ _ (by simp)).alloc _, cl_new0 _ [.int .i64 0, .int .i64 0, .int .i64 0] _ _ (by simp), Below.alloc (Below.alloc (Below.alloc (Below.refl _ _) (Nat.le_refl _) _) (by simp) _) (by simp; omega) _⟩
  rw [← hW1]
  clear hW1
  refine (HB1.out _).mono ?_
  rintro e w1 ⟨x, times, rfl, hb1, k1⟩
  have HK2 : Hid (Ko w.heap.size f g w (w1.alloc (.cells #[.int .i64 0, .int .i64 0] 24))) := (K1.below k1).below (al1 _ _)
  have HBz1 : Hid (Bez f.a g.a x times) := hb1
  clear K1 k1 HB1 hb1
  go_wp2_with fail
  refine (HB2.out _).mono ?_
  rintro e w2 ⟨ww, more, rfl, hb2, k1⟩
  have HK3 : Hid (Ko w.heap.size f g w (w2.alloc (.cells #[.int .i64 0, .int .i64 0] 24))) := (HK2.out.below k1).below (al1 _ _)
  have z := HZ.out x times ww more HBz1.out hb2
  clear k1 HB2 hb2 HK2 HZ HBz1
  obtain ⟨A, hA⟩ := z.d2
  obtain ⟨B, hB⟩ := z.d3
  have z1 := z.e1
  have z2 := z.t
  have z3 := z.m
  have z4 := z.w1
  have eA : f.a.tdiv E = A := by rw [hA, Int.mul_tdiv_cancel_left _ (by omega)]
  have eB : g.a.tdiv E = B := by rw [hB, Int.mul_tdiv_cancel_left _ (by omega)]
  have t0 : (E == 0) = false := beq_eq_false_iff_ne.2 (by omega)
  obtain ⟨L, hL⟩ : ∃ L, L = (times * more * d2 - ww * g.c) % A := ⟨_, rfl⟩
  obtain ⟨c, hc, hCm, bA, bB, bL⟩ := bz_cmp HF.out.1 HF.out.2.1 HF.out.2.2.1 HF.out.2.2.2.1 HF.out.2.2.2.2 z hA hB hL
  have HCm : Hid (Cmp f g ⟨A * B, g.b + 2 * B * L, c⟩) := hCm
  obtain ⟨V, hV⟩ : ∃ V, times * more = V := ⟨_, rfl⟩
  have bV : -2000000000000 ≤ V ∧ V ≤ 2000000000000 := by
    rw [← hV]
    have := sq_bd (N := 2000000) (x := times) (y := more) (by omega) (by omega) (by omega) (by omega)
    have y1 : (times * more).natAbs = times.natAbs * more.natAbs := Int.natAbs_mul ..
    have y2 : times.natAbs * more.natAbs ≤ 1000000 * 2000000 := Nat.mul_le_mul (by omega) (by omega)
    omega
  obtain ⟨X1, hX1⟩ : ∃ X1, V * d2 = X1 := ⟨_, rfl⟩
  have bX1 : -2000000000000000000 ≤ X1 ∧ X1 ≤ 2000000000000000000 := by
    rw [← hX1]
    have y1 : (V * d2).natAbs = V.natAbs * d2.natAbs := Int.natAbs_mul ..
    have y2 : V.natAbs * d2.natAbs ≤ 2000000000000 * 1000000 := Nat.mul_le_mul (by omega) (by omega)
    omega
  obtain ⟨X2, hX2⟩ : ∃ X2, ww * g.c = X2 := ⟨_, rfl⟩
  have bX2 : -1000000000000 ≤ X2 ∧ X2 ≤ 1000000000000 := by
    rw [← hX2]
    exact sq_bd (N := 1000000) (x := ww) (y := g.c) (by omega) (by omega) (by omega) (by omega)
  have HLf : Hid (∀ w, Calls Try.prog 29 #[.int .i64 (X1 - X2), .int .i64 A] w fun e w' => e = .returned (.int .i64 L) ∧ w' = w) := fun w => by
    rw [hL, hV, hX1, hX2]; exact modLeft_int _ _ w (by omega) bA.1 (by omega)
  obtain ⟨P1, hP1⟩ : ∃ P1, A * B = P1 := ⟨_, rfl⟩
  obtain ⟨P2, hP2⟩ : ∃ P2, 2 * B * L = P2 := ⟨_, rfl⟩
  obtain ⟨P3, hP3⟩ : ∃ P3, E * g.c = P3 := ⟨_, rfl⟩
  obtain ⟨P4, hP4⟩ : ∃ P4, B * L = P4 := ⟨_, rfl⟩
  obtain ⟨P5, hP5⟩ : ∃ P5, L * (g.b + P4) = P5 := ⟨_, rfl⟩
  have b1 : 0 ≤ P1 ∧ P1 ≤ 1000000000000 := by rw [← hP1]; exact ⟨Int.mul_nonneg (by omega) (by omega), (sq_bd (N := 1000000) (x := A) (y := B) (by omega) (by omega) (by omega) (by omega)).2⟩
  have b4 : 0 ≤ P4 ∧ P4 ≤ 1000000000000 := by rw [← hP4]; exact ⟨Int.mul_nonneg (by omega) (by omega), (sq_bd (N := 1000000) (x := B) (y := L) (by omega) (by omega) (by omega) (by omega)).2⟩
  have b2 : 0 ≤ P2 ∧ P2 ≤ 2000000000000 := by rw [← hP2, Int.mul_assoc, hP4]; omega
  have b3 : -1000000000000 ≤ P3 ∧ P3 ≤ 1000000000000 := by rw [← hP3]; exact sq_bd (N := 1000000) (x := E) (y := g.c) (by omega) (by omega) (by omega) (by omega)
  have b5 : -2000000000000000000 ≤ P5 ∧ P5 ≤ 2000000000000000000 := by
    rw [← hP5]
    have y1 : (L * (g.b + P4)).natAbs = L.natAbs * (g.b + P4).natAbs := Int.natAbs_mul ..
    have y2 : L.natAbs * (g.b + P4).natAbs ≤ 1000000 * 2000000000000 := Nat.mul_le_mul (by omega) (by omega)
    omega
  have eC : (P3 + P5).tdiv A = c := by rw [← hc, ← hP3, ← hP5, ← hP4]
  have bC := HCm.out.up.2.2.2.2
  simp only [] at bC
  have t1 : (A == 0) = false := beq_eq_false_iff_ne.2 (by omega)
  rw [hP1, hP2] at HCm
  clear hc hCm hL hA hB z HF
  have c0 := HK3.out.f.cell 0
  have c1 := HK3.out.f.cell 1
  have c2 := HK3.out.f.cell 2
  have c3 := HK3.out.g.cell 0
  have c4 := HK3.out.g.cell 1
  have c5 := HK3.out.g.cell 2
  simp at c0 c1 c2 c3 c4 c5
  obtain ⟨W3, hW3⟩ : ∃ W3, W3 = w2.alloc (.cells #[.int .i64 0, .int .i64 0] 24) := ⟨_, rfl⟩
  rw [← hW3] at HK3 c0 c1 c2 c3 c4 c5
  go_wp2_with fail
  rw [← hW3]
  clear hW3
  go_region
  go_wp2_with fail
  refine (HLf.out _).mono ?_
  rintro e w3 ⟨rfl, hw⟩
  have HK4 : Hid (Ko w.heap.size f g w w3) := by rw [hw]; exact HK3.out.below ((Below.refl _ _).drew)
  clear hw HK3 HLf c0 c1 c2 c3 c4 c5
  have c3 := HK4.out.g.cell 0
  have c4 := HK4.out.g.cell 1
  have c5 := HK4.out.g.cell 2
  have o0 := HK4.out.o.cell 0
  have o1 := HK4.out.o.cell 1
  have o2 := HK4.out.o.cell 2
  have o3 := HK4.out.o.frozen 0
  have o4 := HK4.out.o.frozen 1
  have o5 := HK4.out.o.frozen 2
  have o6 := HK4.out.o.lt
  simp at c3 c4 c5 o0 o1 o2
  go_wp2_with fail
  go_region
  go_wp2
  refine bodyPost_ret (v := .agg #[.int .i64 P1, .int .i64 (g.b + P2), .int .i64 c]) (by simp [results, Try.results34, go_sem, o0, o1, o2, o6]) rfl ⟨⟨P1, g.b + P2, c⟩, rfl, HCm.out, ?_⟩
  refine Below.drew ?_
  iterate 3 refine Below.setCell ?_ (by show w.heap.size ≤ w.heap.size + 1 + 1; omega) _
  exact HK4.out.k

end Go.Proofs.Ytijkanilpblogae
end

section
/- Compose: what is asked of it. -/
set_option linter.unusedSimpArgs false
set_option linter.unusedVariables false
set_option maxRecDepth 100000
namespace Go.Proofs.Ytijkanilpblogae
open Go.RowKit

/-- The fault of Compose. -/
def compF (f g : Qf) : Int × Int := if ffault f ≠ (0, 0) then ffault f else if ffault g ≠ (0, 0) then ffault g else if f.disc ≠ g.disc then (8, 1) else (0, 0)
/-- What Compose answers. -/
structure ComOut (f g h : Qf) : Prop where
  bad : compF f g ≠ (0, 0) → h = ⟨0, 0, 0⟩
  good : compF f g = (0, 0) → MQ.Cz f g h ∧ Int.gcd (Int.gcd h.a h.b) h.c = 1
theorem compF_ok {f g : Qf} (h1 : ffault f = (0, 0)) (h2 : ffault g = (0, 0)) (h3 : f.disc = g.disc) : compF f g = (0, 0) := by simp [compF, h1, h2, h3]
theorem compF_of {f g : Qf} (h : compF f g = (0, 0)) : ffault f = (0, 0) ∧ ffault g = (0, 0) ∧ f.disc = g.disc := by
  unfold compF at h
  split at h
  · rename_i h1; exact absurd h h1
  · split at h
    · rename_i h1; exact absurd h h1
    · split at h
      · simp at h
      · rename_i h1 h2 h3
        exact ⟨Decidable.not_not.1 h1, Decidable.not_not.1 h2, Decidable.not_not.1 h3⟩
theorem compF_code {f g : Qf} {c d : Int} (h : compF f g = (c, d)) : (c = 0 ∧ d = 0) ∨ c ≠ 0 := by
  unfold compF at h
  split at h
  · exact ffault_code h
  · split at h
    · exact ffault_code h
    · split at h
      · simp at h; omega
      · simp at h; omega
/-- What is made of two is reduced, so it is small where its discriminant is. -/
theorem cz_up {f g h : Qf} {N : Int} (hN : 1 ≤ N) (hd : f.disc < 0) (lo : -N ≤ f.disc) (c : MQ.Cz f g h) : h.a * h.a * 3 ≤ N ∧ h.a ≤ N ∧ -h.a ≤ h.b ∧ h.b ≤ h.a ∧ h.a ≤ h.c ∧ h.c ≤ N ∧ 4 * (h.a * h.c) ≤ N + h.a * h.a := by
  obtain ⟨h1, h2, h3⟩ := redB_parts c.red
  have h4 := c.disc
  have h5 := c.pos
  have e1 : h.disc = h.b * h.b - 4 * (h.a * h.c) := by unfold Qf.disc; rw [Int.mul_assoc]
  have e2 : h.b * h.b ≤ h.a * h.a := (sq_bd (N := h.a) h1 h2 h1 h2).2
  have e3 : h.a * h.a ≤ h.a * h.c := Int.mul_le_mul_of_nonneg_left h3 (by omega)
  have e4 : 1 * h.a ≤ h.a * h.a := Int.mul_le_mul_of_nonneg_right (by omega) (by omega)
  have e5 : 1 * h.c ≤ h.a * h.c := Int.mul_le_mul_of_nonneg_right (by omega) (by omega)
  refine ⟨by omega, by omega, h1, h2, h3, by omega, by omega⟩
theorem com_fault {f g h : Qf} (hd : f.disc < 0) (lo : -1000000 ≤ f.disc) (c : MQ.Cz f g h ∧ Int.gcd (Int.gcd h.a h.b) h.c = 1) : MQ.Cz f g h ∧ ffault h = (0, 0) := by
  obtain ⟨_, h2, h3, h4, h5, h6, _⟩ := cz_up (by decide) hd lo c.1
  have h7 := c.1.pos
  exact ⟨c.1, ffault_of ⟨by omega, by omega, by omega, by omega, by omega, by omega⟩ (by omega) (by rw [c.1.disc]; exact hd) c.2⟩

end Go.Proofs.Ytijkanilpblogae
end

section
/- The program: Compose. -/
set_option linter.unusedSimpArgs false
set_option linter.unusedVariables false
set_option maxRecDepth 100000
namespace Go.Proofs.Ytijkanilpblogae
open Go.RowKit

/-- The memory of the walk. -/
structure Kp (h : Nat) (f g : Qf) (w W : World) : Prop where
  cf : Cl h f.l 32 W
  cg : Cl (h + 1) g.l 32 W
  o : Cl (h + 1 + 1) [.int .i64 0, .int .i64 0, .int .i64 0] 32 W
  e : Sv (h + 1 + 1 + 1) 0 0 W
  l : Cl (h + 1 + 1 + 1 + 1) [.int .i64 f.a, .int .i64 f.b, .int .i64 f.c, .int .i64 g.a, .int .i64 g.b, .int .i64 g.c] 32 W
  k : Below h w W
theorem Kp.below {h : Nat} {f g : Qf} {w W W' : World} (x : Kp h f g w W) (c : Below W.heap.size W W') : Kp h f g w W' :=
  ⟨x.cf.below c, x.cg.below c, x.o.below c, x.e.below c, x.l.below c, x.k.trans (c.mono (Nat.le_of_lt x.cf.lt))⟩

/-- The cells that are read. -/
abbrev S6k (f g : Qf) (b : Nat) (W : World) : Prop :=
  W.cell? ⟨b, 0, none⟩ = some (.int .i64 f.a) ∧ W.cell? ⟨b, 1, none⟩ = some (.int .i64 f.b) ∧ W.cell? ⟨b, 2, none⟩ = some (.int .i64 f.c) ∧
  W.cell? ⟨b + 1, 0, none⟩ = some (.int .i64 g.a) ∧ W.cell? ⟨b + 1, 1, none⟩ = some (.int .i64 g.b) ∧ W.cell? ⟨b + 1, 2, none⟩ = some (.int .i64 g.c)
theorem s6k_of {h : Nat} {f g : Qf} {w W : World} (x : Kp h f g w W) : S6k f g h W := ⟨x.cf.cell 0, x.cf.cell 1, x.cf.cell 2, x.cg.cell 0, x.cg.cell 1, x.cg.cell 2⟩
theorem field_turned (w : World) (a b c p q r s : Int) : (Instr.field 63 (.agg #[.int .i64 a, .int .i64 b, .int .i64 c, .int .i64 p, .int .i64 q, .int .i64 r, .int .i64 s]) 0).run Try.prog w = .ok (.agg #[.int .i64 a, .int .i64 b, .int .i64 c]) w := by
  kernel_rfl

theorem cmp_red {f g h : Qf} (hf : ffault f = (0, 0)) (hg : ffault g = (0, 0)) (hd : f.disc = g.disc) (c : Cmp f g h) (w : World) :
    Calls Try.prog 33 #[h.v] w fun e w' => (∃ (r : Qf) (m : Mt), e = .returned (Tv r m) ∧ MQ.Cz f g r ∧ Int.gcd (Int.gcd r.a r.b) r.c = 1) ∧ Below w.heap.size w w' := by
  obtain ⟨_, fa, fd, fg⟩ := ffault_ok hf
  obtain ⟨_, ga, _, gg⟩ := ffault_ok hg
  refine (reduce_any h w c.up c.a (by rw [c.disc]; exact fd)).mono ?_
  rintro e w' ⟨⟨r, M, rfl, hr, ha⟩, k⟩
  exact ⟨⟨r, M.w, rfl, MQ.comp_cz fa ga c.a ha fd hd.symm c.disc (MQ.Pm.of_gcd fg) (MQ.Pm.of_gcd gg) c.co hr⟩, k⟩

set_option maxHeartbeats 4000000 in
theorem Compose_any (f g : Qf) (w : World) : Calls Try.prog 13 #[f.v, g.v] w fun e w' => ∃ h, e = .returned (.tuple #[h.v, ffv (compF f g)]) ∧ ComOut f g h ∧ Below w.heap.size w w' := by
  obtain ⟨c, d, hcd⟩ : ∃ c d, compF f g = (c, d) := ⟨_, _, rfl⟩
  have HCD : Hid (compF f g = (c, d)) := hcd
  rw [hcd]
  clear hcd
  obtain ⟨c0, d0, h0⟩ : ∃ c d, ffault f = (c, d) := ⟨_, _, rfl⟩
  obtain ⟨c1, d1, h1⟩ : ∃ c d, ffault g = (c, d) := ⟨_, _, rfl⟩
  have HF0 : Hid (ffault f = (c0, d0)) := h0
  have HF1 : Hid (ffault g = (c1, d1)) := h1
  have HCf : Hid (∀ w, Calls Try.prog 31 #[f.v] w fun e w' => e = .returned (.agg #[.int .i64 c0, .int .i64 d0]) ∧ Below w.heap.size w w') := fun w => by have k := Check_any f w; rw [h0] at k; exact k
  have HCg : Hid (∀ w, Calls Try.prog 31 #[g.v] w fun e w' => e = .returned (.agg #[.int .i64 c1, .int .i64 d1]) ∧ Below w.heap.size w w') := fun w => by have k := Check_any g w; rw [h1] at k; exact k
  clear h0 h1
  unfold Qf.v at HCf HCg ⊢
  unfold ffv
  go_enter Try.func13, Try.ntmps13
  go_wp2
  obtain ⟨W1, hW1⟩ : ∃ W1, W1 = ((((w.alloc (.cells #[.int .i64 f.a, .int .i64 f.b, .int .i64 f.c] 32)).alloc (.cells #[.int .i64 g.a, .int .i64 g.b, .int .i64 g.c] 32)).alloc (.cells #[.int .i64 0, .int .i64 0, .int .i64 0] 32)).alloc (.cells #[.int .i64 0, .int .i64 0] 24)).alloc (.cells #[.int .i64 f.a, .int .i64 f.b, .int .i64 f.c, .int .i64 g.a, .int .i64 g.b, .int .i64 g.c] 32) := ⟨_, rfl⟩
  have HK1 : Hid (Kp w.heap.size f g w W1) := by
    show Kp _ _ _ _ _
    rw [hW1]
    exact ⟨((((Cl.new f.l _ w).alloc _).alloc _).alloc _).alloc _, (((cl_new0 _ g.l _ _ (by simp)).alloc _).alloc _).alloc _, ((cl_new0 _ [.int .i64 0, .int .i64 0, .int .i64 0] _ _ (by simp)).alloc _).alloc _, sv_al (sv_new0 _ _ _ (by simp) _ _) _, cl_new0 _ _ _ _ (by simp),
      Below.alloc (Below.alloc (Below.alloc (Below.alloc (Below.alloc (Below.refl _ _) (Nat.le_refl _) _) (by simp) _) (by simp; omega) _) (by simp; omega) _) (by simp; omega) _⟩
  rw [← hW1]
  clear hW1
  go_loopw [13] (fun iv wx => ∃ i : Nat, i ≤ 2 ∧ iv = .int .i64 i ∧ Hid ((0 < i → c0 = 0 ∧ d0 = 0) ∧ (1 < i → c1 = 0 ∧ d1 = 0) ∧ Kp w.heap.size f g w wx)) (fun iv _ => 2 - (intOf iv).toNat)
  case atStart => exact ⟨0, by omega, rfl, fun h => by omega, fun h => by omega, HK1.out⟩
  case round =>
    obtain ⟨i, hi, rfl, HR⟩ := hrel
    clear HK1
    have HK : Hid (Kp w.heap.size f g w wr) := HR.out.2.2
    have hi3 : i = 0 ∨ i = 1 ∨ i = 2 := by omega
    rcases hi3 with rfl | rfl | rfl
    · have l0 := HK.out.l.cell 0
      have l1 := HK.out.l.cell 1
      have l2 := HK.out.l.cell 2
      simp at l0 l1 l2
      go_wp2_with fail
      refine (HCf.out _).mono ?_
      rintro e w1 ⟨rfl, k1⟩
      have HK2 : Hid (Kp w.heap.size f g w w1) := (HK.out.below (al1 _ _)).below k1
      have z9 : w.heap.size + 1 + 1 + 1 + 1 < w1.heap.size := HK2.out.l.lt
      have HK3 : Hid (Kp w.heap.size f g w (w1.alloc (.cells #[.int .i64 c0, .int .i64 d0] 24))) := HK2.out.below (al1 _ _)
      clear k1 HK HK2 l0 l1 l2
      rcases ffault_code HF0.out with ⟨rfl, rfl⟩ | hc
      · go_wp2
        go_roundw
        case rel => exact ⟨1, by omega, rfl, fun _ => by simp, fun h => by omega, HK3.out⟩
        case measure => simp [intOf]
      · have hcb : (c0 != 0) = true := by simpa using hc
        obtain ⟨rfl, rfl⟩ : c = c0 ∧ d = d0 := by
          have h4 := HCD.out
          unfold compF at h4
          rw [if_pos (by rw [HF0.out]; intro h; exact hc (congrArg Prod.fst h)), HF0.out] at h4
          simp at h4; omega
        have HX : Hid (c ≠ 0) := hc
        clear hc
        obtain ⟨W3, hW3⟩ : ∃ W3, W3 = w1.alloc (.cells #[.int .i64 c, .int .i64 d] 24) := ⟨_, rfl⟩
        rw [← hW3] at HK3
        have CE : Sv w1.heap.size c d W3 := by rw [hW3]; exact sv_new0 _ _ _ rfl _ _
        have e0 := CE.c0
        have e1 := CE.c1
        have a0 := HK3.out.o.cell 0
        have a1 := HK3.out.o.cell 1
        have a2 := HK3.out.o.cell 2
        have a3 := HK3.out.o.frozen 0
        have a4 := HK3.out.o.frozen 1
        have a5 := HK3.out.o.frozen 2
        have a6 := HK3.out.o.lt
        have r0 := HK3.out.e.c0
        have r1 := HK3.out.e.c1
        have r2 := HK3.out.e.f0
        have r3 := HK3.out.e.f1
        have r4 := HK3.out.e.lt
        simp at a0 a1 a2
        clear CE
        rw [hW3] at e0 e1 a0 a1 a2 a3 a4 a5 a6 r0 r1 r2 r3 r4
        go_wp2_with fail
        rw [← hW3] at *
        clear hW3
        go_region
        go_wp2
        refine bodyPost_ret (v := .tuple #[Qf.v ⟨0, 0, 0⟩, .agg #[.int .i64 c, .int .i64 d]]) (by simp [Qf.v, results, Try.results13, go_sem, a0, a1, a2, a6, r0, r1, r4]) rfl ⟨⟨0, 0, 0⟩, rfl, ⟨fun _ => rfl, fun h => ?_⟩, ?_⟩
        · rw [HCD.out] at h; simp at h; exact absurd h.1 HX.out
        refine Below.drew ?_
        iterate 5 refine Below.setCell ?_ (by first | (show w.heap.size ≤ w.heap.size + 1 + 1; omega) | (show w.heap.size ≤ w.heap.size + 1 + 1 + 1; omega)) _
        exact HK3.out.k
    · have l0 := HK.out.l.cell 3
      have l1 := HK.out.l.cell 4
      have l2 := HK.out.l.cell 5
      simp at l0 l1 l2
      obtain ⟨rfl, rfl⟩ := HR.out.1 (by omega)
      go_wp2_with fail
      refine (HCg.out _).mono ?_
      rintro e w1 ⟨rfl, k1⟩
      have HK2 : Hid (Kp w.heap.size f g w w1) := (HK.out.below (al1 _ _)).below k1
      have z9 : w.heap.size + 1 + 1 + 1 + 1 < w1.heap.size := HK2.out.l.lt
      have HK3 : Hid (Kp w.heap.size f g w (w1.alloc (.cells #[.int .i64 c1, .int .i64 d1] 24))) := HK2.out.below (al1 _ _)
      clear k1 HK HK2 l0 l1 l2
      rcases ffault_code HF1.out with ⟨rfl, rfl⟩ | hc
      · go_wp2
        go_roundw
        case rel => exact ⟨2, by omega, rfl, fun _ => by simp, fun _ => by simp, HK3.out⟩
        case measure => simp [intOf]
      · have hcb : (c1 != 0) = true := by simpa using hc
        obtain ⟨rfl, rfl⟩ : c = c1 ∧ d = d1 := by
          have h4 := HCD.out
          unfold compF at h4
          rw [if_neg (by rw [HF0.out]; simp), if_pos (by rw [HF1.out]; intro h; exact hc (congrArg Prod.fst h)), HF1.out] at h4
          simp at h4; omega
        have HX : Hid (c ≠ 0) := hc
        clear hc
        obtain ⟨W3, hW3⟩ : ∃ W3, W3 = w1.alloc (.cells #[.int .i64 c, .int .i64 d] 24) := ⟨_, rfl⟩
        rw [← hW3] at HK3
        have CE : Sv w1.heap.size c d W3 := by rw [hW3]; exact sv_new0 _ _ _ rfl _ _
        have e0 := CE.c0
        have e1 := CE.c1
        have a0 := HK3.out.o.cell 0
        have a1 := HK3.out.o.cell 1
        have a2 := HK3.out.o.cell 2
        have a3 := HK3.out.o.frozen 0
        have a4 := HK3.out.o.frozen 1
        have a5 := HK3.out.o.frozen 2
        have a6 := HK3.out.o.lt
        have r0 := HK3.out.e.c0
        have r1 := HK3.out.e.c1
        have r2 := HK3.out.e.f0
        have r3 := HK3.out.e.f1
        have r4 := HK3.out.e.lt
        simp at a0 a1 a2
        clear CE
        rw [hW3] at e0 e1 a0 a1 a2 a3 a4 a5 a6 r0 r1 r2 r3 r4
        go_wp2_with fail
        rw [← hW3] at *
        clear hW3
        go_region
        go_wp2
        refine bodyPost_ret (v := .tuple #[Qf.v ⟨0, 0, 0⟩, .agg #[.int .i64 c, .int .i64 d]]) (by simp [Qf.v, results, Try.results13, go_sem, a0, a1, a2, a6, r0, r1, r4]) rfl ⟨⟨0, 0, 0⟩, rfl, ⟨fun _ => rfl, fun h => ?_⟩, ?_⟩
        · rw [HCD.out] at h; simp at h; exact absurd h.1 HX.out
        refine Below.drew ?_
        iterate 5 refine Below.setCell ?_ (by first | (show w.heap.size ≤ w.heap.size + 1 + 1; omega) | (show w.heap.size ≤ w.heap.size + 1 + 1 + 1; omega)) _
        exact HK3.out.k
    · obtain ⟨rfl, rfl⟩ := HR.out.1 (by omega)
      obtain ⟨rfl, rfl⟩ := HR.out.2.1 (by omega)
      obtain ⟨hfu, _, _, _⟩ := ffault_ok HF0.out
      obtain ⟨hgu, _, _, _⟩ := ffault_ok HF1.out
      obtain ⟨D, hD⟩ : ∃ D, D = f.disc := ⟨_, rfl⟩
      obtain ⟨D2, hD2⟩ : ∃ D, D = g.disc := ⟨_, rfl⟩
      have HDD : Hid (D = f.disc ∧ D2 = g.disc) := ⟨hD, hD2⟩
      have HDf : Hid (∀ w, Calls Try.prog 32 #[f.v] w fun e w' => e = .returned (.int .i64 D) ∧ Below w.heap.size w w') := fun w => by rw [hD]; exact discriminant_any f w hfu
      have HDg : Hid (∀ w, Calls Try.prog 32 #[g.v] w fun e w' => e = .returned (.int .i64 D2) ∧ Below w.heap.size w w') := fun w => by rw [hD2]; exact discriminant_any g w hgu
      unfold Qf.v at HDf HDg
      clear hfu hgu hD hD2
      go_wp2_with fail
      have N3 := HK.out.below ((Below.refl wr.heap.size wr).drew)
      refine wp_region_G (S6k f g w.heap.size) 4 (by kernel_rfl) (s6k_of N3) (fun hHeld => ?_)
      refine wpAnyG_take (i := 0) (v := ?v0x1) rfl (by kernel_rfl) (fun _ _ _ h => h) (Or.inl ⟨by rfl, ?y0x1⟩) hHeld ?r0x1
      case y0x1 => (intro wS hSw; obtain ⟨s1, s2, s3, s4, s5, s6⟩ := hSw; go_simp; try with_reducible rfl)
      try simp only [Act.put, List.setIfInBounds_toArray, List.set_cons_zero, List.set_cons_succ]
      refine wpAnyG_take (i := 2) (v := ?v2x2) rfl (by kernel_rfl) (fun _ _ _ h => h) (Or.inl ⟨by rfl, ?y2x2⟩) hHeld ?r2x2
      case y2x2 => (intro wS hSw; obtain ⟨s1, s2, s3, s4, s5, s6⟩ := hSw; go_simp; try with_reducible rfl)
      try simp only [Act.put, List.setIfInBounds_toArray, List.set_cons_zero, List.set_cons_succ]
      refine wpAnyG_one (i := 1) rfl (by kernel_rfl) (fun K hK => ?_)
      go_simp
      refine (HDf.out _).mono ?_
      rintro e ua ⟨rfl, ka⟩
      have N4 := N3.below ka
      refine hK.out _ _ (s6k_of N4) ?_
      clear hK K
      try simp only [Act.put, List.setIfInBounds_toArray, List.set_cons_zero, List.set_cons_succ]
      refine wpAnyG_one (i := 3) rfl (by kernel_rfl) (fun K hK => ?_)
      go_simp
      refine (HDg.out _).mono ?_
      rintro e ub ⟨rfl, kb⟩
      have N5 := N4.below kb
      refine hK.out _ _ (s6k_of N5) ?_
      clear hK K
      try simp only [Act.put, List.setIfInBounds_toArray, List.set_cons_zero, List.set_cons_succ]
      clear hHeld
      have hHeld : S6k f g w.heap.size ub := s6k_of N5
      have HK5 : Hid (Kp w.heap.size f g w ub) := N5
      have a0 := HK5.out.o.cell 0
      have a1 := HK5.out.o.cell 1
      have a2 := HK5.out.o.cell 2
      have a3 := HK5.out.o.frozen 0
      have a4 := HK5.out.o.frozen 1
      have a5 := HK5.out.o.frozen 2
      have a6 := HK5.out.o.lt
      have r0 := HK5.out.e.c0
      have r1 := HK5.out.e.c1
      have r2 := HK5.out.e.f0
      have r3 := HK5.out.e.f1
      have r4 := HK5.out.e.lt
      simp at a0 a1 a2
      by_cases hDE : D = D2
      · have hne : (D != D2) = false := by simpa using hDE
        have hdd : f.disc = g.disc := by rw [← HDD.out.1, ← HDD.out.2]; exact hDE
        obtain ⟨rfl, rfl⟩ : c = 0 ∧ d = 0 := by
          have h4 := HCD.out
          rw [compF_ok HF0.out HF1.out hdd] at h4
          simp at h4; omega
        have HCm : Hid (∀ w, Calls Try.prog 34 #[f.v, g.v] w fun e w' => ∃ h, e = .returned h.v ∧ Cmp f g h ∧ Below w.heap.size w w') := fun w => compose_any f g w HF0.out HF1.out hdd
        have HRm : Hid (∀ h, Cmp f g h → ∀ w, Calls Try.prog 33 #[h.v] w fun e w' => (∃ (r : Qf) (m : Mt), e = .returned (Tv r m) ∧ MQ.Cz f g r ∧ Int.gcd (Int.gcd r.a r.b) r.c = 1) ∧ Below w.heap.size w w') := fun h c w => cmp_red HF0.out HF1.out hdd c w
        unfold Qf.v at HCm HRm
        unfold Tv at HRm
        clear hDE hdd
        refine wpAnyG_last (i := 4) rfl (by kernel_rfl) (by kernel_rfl) (fun K hK => ?_)
        go_simp
        refine hK.out _ _ ?_
        clear hK K
        try simp only [Act.put, List.setIfInBounds_toArray, List.set_cons_zero, List.set_cons_succ]
        refine wpAnyG_done (by kernel_rfl) ?_ _
        have q0 := HK5.out.cf.cell 0
        have q1 := HK5.out.cf.cell 1
        have q2 := HK5.out.cf.cell 2
        have q3 := HK5.out.cg.cell 0
        have q4 := HK5.out.cg.cell 1
        have q5 := HK5.out.cg.cell 2
        simp at q0 q1 q2 q3 q4 q5
        clear hHeld N3 N4 N5 ka kb HK HDf HDg a0 a1 a2 a3 a4 a5 a6 r0 r1 r2 r3 r4
        go_wp2_with fail
        refine (HCm.out _).mono ?_
        rintro e w5 ⟨h, rfl, hcm, k5⟩
        have HK6 : Hid (Kp w.heap.size f g w w5) := HK5.out.below k5
        have HRh : Hid (∀ w, Calls Try.prog 33 #[.agg #[.int .i64 h.a, .int .i64 h.b, .int .i64 h.c]] w fun e w' => (∃ (r : Qf) (m : Mt), e = .returned (.agg #[.int .i64 r.a, .int .i64 r.b, .int .i64 r.c, .int .i64 m.p, .int .i64 m.q, .int .i64 m.r, .int .i64 m.s]) ∧ MQ.Cz f g r ∧ Int.gcd (Int.gcd r.a r.b) r.c = 1) ∧ Below w.heap.size w w') := HRm.out h hcm
        clear hcm k5 HK5 HCm HRm q0 q1 q2 q3 q4 q5
        go_wp2_with fail
        refine (HRh.out _).mono ?_
        rintro e w6 ⟨⟨r, m, rfl, hcz⟩, k6⟩
        have HK7 : Hid (Kp w.heap.size f g w w6) := HK6.out.below k6
        have HCz : Hid (MQ.Cz f g r ∧ Int.gcd (Int.gcd r.a r.b) r.c = 1) := hcz
        have hfld := fun w : World => field_turned w r.a r.b r.c m.p m.q m.r m.s
        have a0 := HK7.out.o.cell 0
        have a1 := HK7.out.o.cell 1
        have a2 := HK7.out.o.cell 2
        have a3 := HK7.out.o.frozen 0
        have a4 := HK7.out.o.frozen 1
        have a5 := HK7.out.o.frozen 2
        have a6 := HK7.out.o.lt
        have r0 := HK7.out.e.c0
        have r1 := HK7.out.e.c1
        have r2 := HK7.out.e.f0
        have r3 := HK7.out.e.f1
        have r4 := HK7.out.e.lt
        simp at a0 a1 a2
        clear hcz k6 HK6 HRh
        go_wp2
        refine bodyPost_ret (v := .tuple #[r.v, .agg #[.int .i64 0, .int .i64 0]]) (by simp [Qf.v, results, Try.results13, go_sem, a0, a1, a2, a6, r0, r1, r4]) rfl ⟨r, rfl, ⟨fun h => absurd HCD.out h, fun _ => HCz.out⟩, ?_⟩
        iterate 5 refine Below.setCell ?_ (by first | (show w.heap.size ≤ w.heap.size + 1 + 1; omega) | (show w.heap.size ≤ w.heap.size + 1 + 1 + 1; omega)) _
        exact HK7.out.k
      · have hne : (D != D2) = true := by simpa using hDE
        obtain ⟨rfl, rfl⟩ : c = 8 ∧ d = 1 := by
          have h4 := HCD.out
          unfold compF at h4
          rw [if_neg (by rw [HF0.out]; simp), if_neg (by rw [HF1.out]; simp), if_pos (by rw [← HDD.out.1, ← HDD.out.2]; exact hDE)] at h4
          simp at h4; omega
        clear hDE
        refine wpAnyG_last (i := 4) rfl (by kernel_rfl) (by kernel_rfl) (fun K hK => ?_)
        go_simp
        refine hK.out _ _ ?_
        clear hK K
        try simp only [Act.put, List.setIfInBounds_toArray, List.set_cons_zero, List.set_cons_succ]
        refine wpAnyG_done (by kernel_rfl) ?_ _
        clear hHeld N3 N4 N5 ka kb HK HDf HDg
        go_wp2
        refine bodyPost_ret (v := .tuple #[Qf.v ⟨0, 0, 0⟩, .agg #[.int .i64 8, .int .i64 1]]) (by simp [Qf.v, results, Try.results13, go_sem, a0, a1, a2, a6, r0, r1, r4]) rfl ⟨⟨0, 0, 0⟩, rfl, ⟨fun _ => rfl, fun h => ?_⟩, ?_⟩
        · rw [HCD.out] at h; simp at h
        iterate 5 refine Below.setCell ?_ (by first | (show w.heap.size ≤ w.heap.size + 1 + 1; omega) | (show w.heap.size ≤ w.heap.size + 1 + 1 + 1; omega)) _
        exact HK5.out.k

end Go.Proofs.Ytijkanilpblogae
end

section
/- The reference's Left. -/
set_option linter.unusedSimpArgs false
set_option linter.unusedVariables false
set_option maxRecDepth 100000
namespace Go.Proofs.Ytijkanilpblogae
open Go.RowKit

theorem refLeft_any (a : Int) (m : Nat) (w : World) (ha : a.natAbs ≤ 4000000000000000000) (h0 : 0 < m) (hm : (m : Int) ≤ 1000000000000000000) :
    Calls Try.prog 11 #[.int .i64 a, .int .i64 m] w fun e w' => e = .returned (.int .i64 (a % (m : Int))) ∧ w' = w := by
  have hb : (a.tmod (m : Int)).natAbs < m := by rw [Int.natAbs_tmod]; exact Nat.mod_lt _ h0
  have t1 : ((m : Int) == 0) = false := beq_eq_false_iff_ne.2 (by omega)
  by_cases h : 0 ≤ a
  · have e : a.tmod (m : Int) = a % (m : Int) := Int.tmod_eq_emod_of_nonneg h
    have h1 : 0 ≤ a % (m : Int) := Int.emod_nonneg _ (by omega)
    have h2 : a % (m : Int) < (m : Int) := Int.emod_lt_of_pos _ (by omega)
    clear hb e
    go_enter Try.func11, Try.ntmps11
    go_wp2
    go_ret
    exact ⟨rfl, rfl⟩
  · by_cases hz : a.tmod (m : Int) < 0
    · have HE : Hid (a.tmod (m : Int) + (m : Int) = a % (m : Int)) := by
        show _ = _
        have e1 := Int.tmod_eq_emod (a := a) (b := (m : Int))
        rw [e1] at hz ⊢
        split at hz
        · have := Int.emod_nonneg a (show (m : Int) ≠ 0 by omega); omega
        · rename_i hc; rw [if_neg hc]; simp
      go_enter Try.func11, Try.ntmps11
      go_wp2
      go_ret
      exact ⟨ret_int HE.out, rfl⟩
    · have HE : Hid (a.tmod (m : Int) = a % (m : Int)) := by
        show _ = _
        have e1 := Int.tmod_eq_emod (a := a) (b := (m : Int))
        rw [e1] at hz ⊢
        split at hz
        · rename_i hc; rw [if_pos hc]; omega
        · have := Int.emod_lt_of_pos a (show 0 < (m : Int) by omega); simp at hz; omega
      go_enter Try.func11, Try.ntmps11
      go_wp2
      go_ret
      exact ⟨ret_int HE.out, rfl⟩

end Go.Proofs.Ytijkanilpblogae
end

section
/- FormClasses, the law's own walk: out of what is asked of the example and of Classes. -/
set_option linter.unusedSimpArgs false
set_option linter.unusedVariables false
set_option maxRecDepth 100000
namespace Go.Proofs.Ytijkanilpblogae
open Go.RowKit

/-- The fault of Classes. -/
def cfault (d : Int) : Int × Int := if 0 ≤ d ∨ d < -200000 then (3, 0) else if 1 < d % 4 then (7, 0) else (0, 0)
theorem qcells_cons (f : Qf) (l : List Qf) : qcells (f :: l) = f.l ++ qcells l := by simp [qcells]
theorem qcells_at : ∀ (l : List Qf) (i : Nat) (f : Qf), l[i]? = some f → (qcells l)[i * 3]? = some (.int .i64 f.a) ∧ (qcells l)[i * 3 + 1]? = some (.int .i64 f.b) ∧ (qcells l)[i * 3 + 2]? = some (.int .i64 f.c)
  | [], i, f, h => by simp at h
  | g :: l, 0, f, h => by
    simp at h; subst h
    rw [qcells_cons]; simp
  | g :: l, i + 1, f, h => by
    have ih := qcells_at l i f (by simpa using h)
    rw [qcells_cons]
    have e : ∀ k, (Qf.l g ++ qcells l)[(i + 1) * 3 + k]? = (qcells l)[i * 3 + k]? := fun k => by
      rw [List.getElem?_append_right (by simp; omega)]
      congr 1
      simp; omega
    exact ⟨(e 0).trans ih.1, (e 1).trans ih.2.1, (e 2).trans ih.2.2⟩
theorem qcells_len (l : List Qf) : (qcells l).length = l.length * 3 := by
  induction l with
  | nil => rfl
  | cons f l ih => rw [qcells_cons, List.length_append, ih]; simp; omega
theorem top_one {d : Int} {n m : Nat} (h1 : 3 * (n : Int) * n ≤ -d) (h2 : -d < 3 * ((n : Int) + 1) * ((n : Int) + 1)) (k1 : 3 * (m : Int) * m ≤ -d) (k2 : -d < 3 * ((m : Int) + 1) * ((m : Int) + 1)) : n = m := by
  have key : ∀ x y : Nat, x < y → 3 * ((x : Int) + 1) * ((x : Int) + 1) ≤ 3 * (y : Int) * y := fun x y h => by
    have h3 : ((x : Int) + 1) * ((x : Int) + 1) ≤ (y : Int) * y := Int.mul_le_mul (by omega) (by omega) (by omega) (by omega)
    rw [Int.mul_assoc, Int.mul_assoc]
    omega
  rcases Nat.lt_trichotomy n m with h | h | h
  · have := key n m h; omega
  · exact h
  · have := key m n h; omega

/-- What Classes answers. -/
def ClassesOut (d : Int) (w : World) (e : Ending) (w' : World) : Prop :=
  ∃ (a : Option Addr) (c : Nat) (l : List Qf), e = .returned (.tuple #[.slice a l.length c, ffv (cfault d)]) ∧ (cfault d ≠ (0, 0) → l = []) ∧
    (cfault d = (0, 0) → ∃ n : Nat, (3 * (n : Int) * n ≤ -d ∧ -d < 3 * ((n : Int) + 1) * ((n : Int) + 1)) ∧ l = classesTo d n) ∧
    (l ≠ [] → ∃ b : Nat, a = some ⟨b, 0, none⟩ ∧ b < w'.heap.size ∧ ∀ j u, (qcells l)[j]? = some u → w'.cell? ⟨b, j, none⟩ = some u) ∧ Below w.heap.size w w'

/-- What is asked of the example and of Classes. -/
structure ClassesIs (Bg : World → Prop) : Prop where
  keep : ∀ w w' : World, Bg w → Below w.heap.size w w' → Bg w'
  begun : ∀ w : World, Bg w → Calls Try.prog 9 #[] w fun e w' => e = .returned (.bool true) ∧ Below w.heap.size w w'
  classes : ∀ (d : Int) (w : World), Calls Try.prog 8 #[.int .i64 d] w (ClassesOut d w)

set_option maxHeartbeats 4000000 in
theorem fc_start (Bg : World → Prop) (G : ClassesIs Bg) (d : Int) (w : World) (hbg : Bg w) :
    Calls Try.prog 3 #[.int .i64 d] w fun e w' => e = .returned (.bool true) ∧ Below w.heap.size w w' := by
  have HG : Hid (ClassesIs Bg) := G
  have HBG : Hid (Bg w) := hbg
  clear G hbg
  obtain ⟨fc, fd, hcf⟩ : ∃ fc fd, cfault d = (fc, fd) := ⟨_, _, rfl⟩
  have HCF : Hid (cfault d = (fc, fd)) := hcf
  have HC : Hid (∀ w, Calls Try.prog 8 #[.int .i64 d] w fun e w' => ∃ (a : Option Addr) (c : Nat) (l : List Qf), e = .returned (.tuple #[.slice a l.length c, .agg #[.int .i64 fc, .int .i64 fd]]) ∧ (cfault d ≠ (0, 0) → l = []) ∧
    (cfault d = (0, 0) → ∃ n : Nat, (3 * (n : Int) * n ≤ -d ∧ -d < 3 * ((n : Int) + 1) * ((n : Int) + 1)) ∧ l = classesTo d n) ∧
    (l ≠ [] → ∃ b : Nat, a = some ⟨b, 0, none⟩ ∧ b < w'.heap.size ∧ ∀ j u, (qcells l)[j]? = some u → w'.cell? ⟨b, j, none⟩ = some u) ∧ Below w.heap.size w w') := fun w => by
    have h := HG.out.classes d w
    unfold ClassesOut at h
    rw [hcf] at h
    rw [hcf]
    exact h
  clear hcf
  go_enter Try.func3, Try.ntmps3
  go_wp2_with fail
  refine (HC.out _).mono ?_
  rintro e w1 ⟨a, c, l, rfl, hz, hl, hcells, k1⟩
  have HZ : Hid ((cfault d ≠ (0, 0) → l = []) ∧ (cfault d = (0, 0) → ∃ n : Nat, (3 * (n : Int) * n ≤ -d ∧ -d < 3 * ((n : Int) + 1) * ((n : Int) + 1)) ∧ l = classesTo d n)) := ⟨hz, hl⟩
  have HK1 : Hid (Below w.heap.size w (w1.alloc (.cells #[.int .i64 fc, .int .i64 fd] 24))) := k1.trans ((al1 w1 _).mono k1.size)
  have HF1 : Hid (Sv w1.heap.size fc fd (w1.alloc (.cells #[.int .i64 fc, .int .i64 fd] 24))) := sv_new0 w1 _ _ rfl _ _
  have HL1 : Hid (l ≠ [] → ∃ b : Nat, a = some ⟨b, 0, none⟩ ∧ b < w1.heap.size ∧ ∀ j u, (qcells l)[j]? = some u → w1.cell? ⟨b, j, none⟩ = some u) := hcells
  clear hz hl hcells k1 HC
  go_wp2_with fail
  refine (HG.out.begun _ (HG.out.keep _ _ HBG.out HK1.out)).mono ?_
  rintro e w2 ⟨rfl, k2⟩
  have HK2 : Hid (Below w.heap.size w w2) := HK1.out.trans (k2.mono HK1.out.size)
  have F2 := HF1.out.below k2
  have HF2 : Hid (Sv w1.heap.size fc fd w2) := F2
  have k12 : Below w1.heap.size w1 w2 := (al1 w1 _).trans (k2.mono (by simp))
  have HL2 : Hid (l ≠ [] → ∃ b : Nat, a = some ⟨b, 0, none⟩ ∧ b < w2.heap.size ∧ ∀ j u, (qcells l)[j]? = some u → w2.cell? ⟨b, j, none⟩ = some u) := fun h => by
    obtain ⟨b, h1, h2, h3⟩ := HL1.out h
    exact ⟨b, h1, Nat.lt_of_lt_of_le h2 k12.size, fun j u hu => (k12.cell (p := ⟨b, j, none⟩) h2).trans (h3 j u hu)⟩
  have f0 := F2.c0
  have f1 := F2.c1
  have hz2 := F2.lt
  clear k2 HK1 HF1 HL1 F2 k12
  by_cases hr : 0 ≤ d ∨ d < -200000
  · obtain ⟨rfl, rfl⟩ : fc = 3 ∧ fd = 0 := by have := HCF.out; unfold cfault at this; rw [if_pos hr] at this; simp at this; omega
    obtain rfl : l = [] := HZ.out.1 (by rw [HCF.out]; simp)
    rcases hr with hr | hr
    · have hb1 : decide (0 ≤ d) = true := decide_eq_true hr
      go_wp2_with fail
      refine wp_region_G (fun W => W.cell? ⟨w1.heap.size, 0, none⟩ = some (.int .i64 3) ∧ W.cell? ⟨w1.heap.size, 1, none⟩ = some (.int .i64 0)) 8 (by kernel_rfl) ⟨f0, f1⟩ (fun hHeld => ?_)
      refine wpAnyG_take (i := 0) (v := ?v0x1) rfl (by kernel_rfl) (fun _ _ _ h => h) (Or.inl ⟨by rfl, ?y0x1⟩) hHeld ?r0x1
      case y0x1 => (intro wS hSw; obtain ⟨s1, s2⟩ := hSw; go_simp; try with_reducible rfl)
      try simp only [Act.put, List.setIfInBounds_toArray, List.set_cons_zero, List.set_cons_succ]
      refine wpAnyG_one (i := 1) rfl (by kernel_rfl) (fun K hK => ?_)
      go_simp
      refine (F_any 3 0 _).mono ?_
      rintro e w3 ⟨rfl, k3⟩
      replace k3 := ((Below.refl _ _).drew).trans k3
      have F3 := HF2.out.below k3
      have HK3 : Hid (Below w.heap.size w w3) := HK2.out.trans (k3.mono HK2.out.size)
      refine hK.out _ _ ⟨F3.c0, F3.c1⟩ ?_
      clear hK K
      try simp only [Act.put, List.setIfInBounds_toArray, List.set_cons_zero, List.set_cons_succ]
      clear hHeld
      have hHeld : (fun W : World => W.cell? ⟨w1.heap.size, 0, none⟩ = some (.int .i64 3) ∧ W.cell? ⟨w1.heap.size, 1, none⟩ = some (.int .i64 0)) w3 := ⟨F3.c0, F3.c1⟩
      refine wpAnyG_take (i := 2) (v := .bool true) rfl (by kernel_rfl) (fun _ _ _ h => h) (Or.inl ⟨by kernel_rfl, ?y2x2⟩) hHeld ?r2x2
      case y2x2 => (intro wS hSw; (go_simp; try rfl))
      try simp only [Act.put, List.setIfInBounds_toArray, List.set_cons_zero, List.set_cons_succ]
      refine wpAnyG_take (i := 3) (v := .bool true) rfl (by kernel_rfl) (fun _ _ _ h => h) (Or.inl ⟨by kernel_rfl, ?y3x3⟩) hHeld ?r3x3
      case y3x3 => (intro wS hSw; (go_simp; try rfl))
      try simp only [Act.put, List.setIfInBounds_toArray, List.set_cons_zero, List.set_cons_succ]
      refine wpAnyG_take (i := 4) (v := ?v4x4) rfl (by kernel_rfl) (fun _ _ _ h => h) (Or.inl ⟨by kernel_rfl, ?y4x4⟩) hHeld ?r4x4
      case y4x4 => (intro wS hSw; have s1 := hSw; go_simp; try with_reducible rfl)
      try simp only [Act.put, List.setIfInBounds_toArray, List.set_cons_zero, List.set_cons_succ]
      refine wpAnyG_take (i := 5) (v := .int .i64 0) rfl (by kernel_rfl) (fun _ _ _ h => h) (Or.inl ⟨by kernel_rfl, ?y5x5⟩) hHeld ?r5x5
      case y5x5 => (intro wS hSw; (go_simp; try rfl))
      try simp only [Act.put, List.setIfInBounds_toArray, List.set_cons_zero, List.set_cons_succ]
      refine wpAnyG_take (i := 6) (v := .bool true) rfl (by kernel_rfl) (fun _ _ _ h => h) (Or.inl ⟨by kernel_rfl, ?y6x6⟩) hHeld ?r6x6
      case y6x6 => (intro wS hSw; (go_simp; try rfl))
      try simp only [Act.put, List.setIfInBounds_toArray, List.set_cons_zero, List.set_cons_succ]
      refine wpAnyG_take (i := 7) (v := .bool true) rfl (by kernel_rfl) (fun _ _ _ h => h) (Or.inl ⟨by kernel_rfl, ?y7x7⟩) hHeld ?r7x7
      case y7x7 => (intro wS hSw; (go_simp; try rfl))
      try simp only [Act.put, List.setIfInBounds_toArray, List.set_cons_zero, List.set_cons_succ]
      refine wpAnyG_last (i := 8) rfl (by kernel_rfl) (by kernel_rfl) (fun K hK => ?_)
      go_simp
      refine hK.out _ _ ?_
      clear hK K
      try simp only [Act.put, List.setIfInBounds_toArray, List.set_cons_zero, List.set_cons_succ]
      refine wpAnyG_done (by kernel_rfl) ?_ _
      clear hHeld F3 k3
      go_wp2_with fail
      go_ret
      exact ⟨rfl, HK3.out⟩
    · have hb1 : decide (0 ≤ d) = false := decide_eq_false (by omega)
      have hb2 : decide (d < -200000) = true := decide_eq_true hr
      go_wp2_with fail
      refine wp_region_G (fun W => W.cell? ⟨w1.heap.size, 0, none⟩ = some (.int .i64 3) ∧ W.cell? ⟨w1.heap.size, 1, none⟩ = some (.int .i64 0)) 8 (by kernel_rfl) ⟨f0, f1⟩ (fun hHeld => ?_)
      refine wpAnyG_take (i := 0) (v := ?v0x8) rfl (by kernel_rfl) (fun _ _ _ h => h) (Or.inl ⟨by rfl, ?y0x8⟩) hHeld ?r0x8
      case y0x8 => (intro wS hSw; obtain ⟨s1, s2⟩ := hSw; go_simp; try with_reducible rfl)
      try simp only [Act.put, List.setIfInBounds_toArray, List.set_cons_zero, List.set_cons_succ]
      refine wpAnyG_one (i := 1) rfl (by kernel_rfl) (fun K hK => ?_)
      go_simp
      refine (F_any 3 0 _).mono ?_
      rintro e w3 ⟨rfl, k3⟩
      replace k3 := ((Below.refl _ _).drew).trans k3
      have F3 := HF2.out.below k3
      have HK3 : Hid (Below w.heap.size w w3) := HK2.out.trans (k3.mono HK2.out.size)
      refine hK.out _ _ ⟨F3.c0, F3.c1⟩ ?_
      clear hK K
      try simp only [Act.put, List.setIfInBounds_toArray, List.set_cons_zero, List.set_cons_succ]
      clear hHeld
      have hHeld : (fun W : World => W.cell? ⟨w1.heap.size, 0, none⟩ = some (.int .i64 3) ∧ W.cell? ⟨w1.heap.size, 1, none⟩ = some (.int .i64 0)) w3 := ⟨F3.c0, F3.c1⟩
      refine wpAnyG_take (i := 2) (v := .bool true) rfl (by kernel_rfl) (fun _ _ _ h => h) (Or.inl ⟨by kernel_rfl, ?y2x9⟩) hHeld ?r2x9
      case y2x9 => (intro wS hSw; (go_simp; try rfl))
      try simp only [Act.put, List.setIfInBounds_toArray, List.set_cons_zero, List.set_cons_succ]
      refine wpAnyG_take (i := 3) (v := .bool true) rfl (by kernel_rfl) (fun _ _ _ h => h) (Or.inl ⟨by kernel_rfl, ?y3x10⟩) hHeld ?r3x10
      case y3x10 => (intro wS hSw; (go_simp; try rfl))
      try simp only [Act.put, List.setIfInBounds_toArray, List.set_cons_zero, List.set_cons_succ]
      refine wpAnyG_take (i := 4) (v := ?v4x11) rfl (by kernel_rfl) (fun _ _ _ h => h) (Or.inl ⟨by kernel_rfl, ?y4x11⟩) hHeld ?r4x11
      case y4x11 => (intro wS hSw; have s1 := hSw; go_simp; try with_reducible rfl)
      try simp only [Act.put, List.setIfInBounds_toArray, List.set_cons_zero, List.set_cons_succ]
      refine wpAnyG_take (i := 5) (v := .int .i64 0) rfl (by kernel_rfl) (fun _ _ _ h => h) (Or.inl ⟨by kernel_rfl, ?y5x12⟩) hHeld ?r5x12
      case y5x12 => (intro wS hSw; (go_simp; try rfl))
      try simp only [Act.put, List.setIfInBounds_toArray, List.set_cons_zero, List.set_cons_succ]
      refine wpAnyG_take (i := 6) (v := .bool true) rfl (by kernel_rfl) (fun _ _ _ h => h) (Or.inl ⟨by kernel_rfl, ?y6x13⟩) hHeld ?r6x13
      case y6x13 => (intro wS hSw; (go_simp; try rfl))
      try simp only [Act.put, List.setIfInBounds_toArray, List.set_cons_zero, List.set_cons_succ]
      refine wpAnyG_take (i := 7) (v := .bool true) rfl (by kernel_rfl) (fun _ _ _ h => h) (Or.inl ⟨by kernel_rfl, ?y7x14⟩) hHeld ?r7x14
      case y7x14 => (intro wS hSw; (go_simp; try rfl))
      try simp only [Act.put, List.setIfInBounds_toArray, List.set_cons_zero, List.set_cons_succ]
      refine wpAnyG_last (i := 8) rfl (by kernel_rfl) (by kernel_rfl) (fun K hK => ?_)
      go_simp
      refine hK.out _ _ ?_
      clear hK K
      try simp only [Act.put, List.setIfInBounds_toArray, List.set_cons_zero, List.set_cons_succ]
      refine wpAnyG_done (by kernel_rfl) ?_ _
      clear hHeld F3 k3
      go_wp2_with fail
      go_ret
      exact ⟨rfl, HK3.out⟩
  · have hb1 : decide (0 ≤ d) = false := decide_eq_false (by omega)
    have hb2 : decide (d < -200000) = false := decide_eq_false (by omega)
    have hdr : -200000 ≤ d ∧ d < 0 := by omega
    have HLf : Hid (∀ w, Calls Try.prog 11 #[.int .i64 d, .int .i64 4] w fun e w' => e = .returned (.int .i64 (d % 4)) ∧ w' = w) := fun w => refLeft_any d 4 w (by omega) (by omega) (by omega)
    clear hr
    by_cases hk : 1 < d % 4
    · obtain ⟨rfl, rfl⟩ : fc = 7 ∧ fd = 0 := by have := HCF.out; unfold cfault at this; rw [if_neg (by omega), if_pos hk] at this; simp at this; omega
      obtain rfl : l = [] := HZ.out.1 (by rw [HCF.out]; simp)
      have hkb : decide (1 < d % 4) = true := decide_eq_true hk
      obtain ⟨r, hrr⟩ : ∃ r, r = d % 4 := ⟨_, rfl⟩
      rw [← hrr] at HLf hkb
      clear hk hrr
      go_wp2_with fail
      refine (HLf.out _).mono ?_
      rintro e w3 ⟨rfl, h3⟩
      rw [h3]
      clear h3 w3
      go_wp2_with fail
      refine wp_region_G (fun W => W.cell? ⟨w1.heap.size, 0, none⟩ = some (.int .i64 7) ∧ W.cell? ⟨w1.heap.size, 1, none⟩ = some (.int .i64 0)) 8 (by kernel_rfl) ⟨f0, f1⟩ (fun hHeld => ?_)
      refine wpAnyG_take (i := 0) (v := ?v0x15) rfl (by kernel_rfl) (fun _ _ _ h => h) (Or.inl ⟨by rfl, ?y0x15⟩) hHeld ?r0x15
      case y0x15 => (intro wS hSw; obtain ⟨s1, s2⟩ := hSw; go_simp; try with_reducible rfl)
      try simp only [Act.put, List.setIfInBounds_toArray, List.set_cons_zero, List.set_cons_succ]
      refine wpAnyG_one (i := 1) rfl (by kernel_rfl) (fun K hK => ?_)
      go_simp
      refine (F_any 7 0 _).mono ?_
      rintro e w3 ⟨rfl, k3⟩
      replace k3 := ((Below.refl _ _).drew).trans k3
      have F3 := HF2.out.below k3
      have HK3 : Hid (Below w.heap.size w w3) := HK2.out.trans (k3.mono HK2.out.size)
      refine hK.out _ _ ⟨F3.c0, F3.c1⟩ ?_
      clear hK K
      try simp only [Act.put, List.setIfInBounds_toArray, List.set_cons_zero, List.set_cons_succ]
      clear hHeld
      have hHeld : (fun W : World => W.cell? ⟨w1.heap.size, 0, none⟩ = some (.int .i64 7) ∧ W.cell? ⟨w1.heap.size, 1, none⟩ = some (.int .i64 0)) w3 := ⟨F3.c0, F3.c1⟩
      refine wpAnyG_take (i := 2) (v := .bool true) rfl (by kernel_rfl) (fun _ _ _ h => h) (Or.inl ⟨by kernel_rfl, ?y2x16⟩) hHeld ?r2x16
      case y2x16 => (intro wS hSw; (go_simp; try rfl))
      try simp only [Act.put, List.setIfInBounds_toArray, List.set_cons_zero, List.set_cons_succ]
      refine wpAnyG_take (i := 3) (v := .bool true) rfl (by kernel_rfl) (fun _ _ _ h => h) (Or.inl ⟨by kernel_rfl, ?y3x17⟩) hHeld ?r3x17
      case y3x17 => (intro wS hSw; (go_simp; try rfl))
      try simp only [Act.put, List.setIfInBounds_toArray, List.set_cons_zero, List.set_cons_succ]
      refine wpAnyG_take (i := 4) (v := ?v4x18) rfl (by kernel_rfl) (fun _ _ _ h => h) (Or.inl ⟨by kernel_rfl, ?y4x18⟩) hHeld ?r4x18
      case y4x18 => (intro wS hSw; have s1 := hSw; go_simp; try with_reducible rfl)
      try simp only [Act.put, List.setIfInBounds_toArray, List.set_cons_zero, List.set_cons_succ]
      refine wpAnyG_take (i := 5) (v := .int .i64 0) rfl (by kernel_rfl) (fun _ _ _ h => h) (Or.inl ⟨by kernel_rfl, ?y5x19⟩) hHeld ?r5x19
      case y5x19 => (intro wS hSw; (go_simp; try rfl))
      try simp only [Act.put, List.setIfInBounds_toArray, List.set_cons_zero, List.set_cons_succ]
      refine wpAnyG_take (i := 6) (v := .bool true) rfl (by kernel_rfl) (fun _ _ _ h => h) (Or.inl ⟨by kernel_rfl, ?y6x20⟩) hHeld ?r6x20
      case y6x20 => (intro wS hSw; (go_simp; try rfl))
      try simp only [Act.put, List.setIfInBounds_toArray, List.set_cons_zero, List.set_cons_succ]
      refine wpAnyG_take (i := 7) (v := .bool true) rfl (by kernel_rfl) (fun _ _ _ h => h) (Or.inl ⟨by kernel_rfl, ?y7x21⟩) hHeld ?r7x21
      case y7x21 => (intro wS hSw; (go_simp; try rfl))
      try simp only [Act.put, List.setIfInBounds_toArray, List.set_cons_zero, List.set_cons_succ]
      refine wpAnyG_last (i := 8) rfl (by kernel_rfl) (by kernel_rfl) (fun K hK => ?_)
      go_simp
      refine hK.out _ _ ?_
      clear hK K
      try simp only [Act.put, List.setIfInBounds_toArray, List.set_cons_zero, List.set_cons_succ]
      refine wpAnyG_done (by kernel_rfl) ?_ _
      clear hHeld F3 k3
      go_wp2_with fail
      go_ret
      exact ⟨rfl, HK3.out⟩
    · obtain ⟨rfl, rfl⟩ : fc = 0 ∧ fd = 0 := by have := HCF.out; unfold cfault at this; rw [if_neg (by omega), if_neg hk] at this; simp at this; omega
      obtain ⟨n, hn, hln⟩ := HZ.out.2 HCF.out
      have hkb : decide (1 < d % 4) = false := decide_eq_false hk
      obtain ⟨r, hrr⟩ : ∃ r, r = d % 4 := ⟨_, rfl⟩
      rw [← hrr] at HLf hkb
      have HN : Hid ((3 * (n : Int) * n ≤ -d ∧ -d < 3 * ((n : Int) + 1) * ((n : Int) + 1)) ∧ l = classesTo d n) := ⟨hn, hln⟩
      clear hk hrr hn hln
      go_wp2_with fail
      refine (HLf.out _).mono ?_
      rintro e w3 ⟨rfl, h3⟩
      rw [h3]
      clear h3 w3
      go_wp2_with fail
      refine (ClassesOf_any d w2 hdr).mono ?_
      rintro e w3 ⟨m, a2, c2, rfl, hm, hL⟩
      obtain rfl : n = m := top_one HN.out.1.1 HN.out.1.2 hm.1 hm.2
      have hl2 : l = classesTo d n := HN.out.2
      rw [← hl2] at hL ⊢
      have HL3 : Hid (Lw w2.heap.size l a2 c2 w2 w3) := hL
      have HK3 : Hid (Below w.heap.size w w3) := HK2.out.trans (hL.k.mono HK2.out.size)
      have F3 := HF2.out.below hL.k
      have f3 := F3.c0
      have k23 := hL.k
      have HL2' : Hid (l ≠ [] → ∃ b : Nat, a = some ⟨b, 0, none⟩ ∧ b < w3.heap.size ∧ ∀ j u, (qcells l)[j]? = some u → w3.cell? ⟨b, j, none⟩ = some u) := fun h => by
        obtain ⟨b, h1, h2, h3⟩ := HL2.out h
        exact ⟨b, h1, Nat.lt_of_lt_of_le h2 k23.size, fun j u hu => (k23.cell (p := ⟨b, j, none⟩) h2).trans (h3 j u hu)⟩
      have hlen : l.length ≤ 200000 := by
        have h1 := classesTo_len d n (by
          rcases Nat.lt_or_ge 300 n with h | h
          · exfalso
            have h2 : (300 : Int) * 300 ≤ (n : Int) * n := Int.mul_le_mul (by omega) (by omega) (by omega) (by omega)
            have h3 := hm.1
            rw [Int.mul_assoc] at h3
            omega
          · exact h)
        have h4 : n ≤ 300 := by
          rcases Nat.lt_or_ge 300 n with h | h
          · exfalso
            have h2 : (300 : Int) * 300 ≤ (n : Int) * n := Int.mul_le_mul (by omega) (by omega) (by omega) (by omega)
            have h3 := hm.1
            rw [Int.mul_assoc] at h3
            omega
          · exact h
        rw [hl2]; omega
      clear hl2 hm hL f0 f1 F3 HN HZ k23 HL2
      go_wp2
      go_loopw [6] (fun iv wx => ∃ i : Nat, i ≤ l.length ∧ iv = .int .i64 i ∧ Hid (Below w3.heap.size w3 wx)) (fun iv _ => l.length - (intOf iv).toNat)
      case atStart => exact ⟨0, Nat.zero_le _, rfl, Below.refl _ _⟩
      case round =>
        obtain ⟨i, hi, rfl, HB⟩ := hrel
        clear f3
        by_cases hlt : i < l.length
        · have hne : l ≠ [] := by intro h; rw [h] at hlt; simp at hlt
          obtain ⟨b, rfl, hb, hcb⟩ := HL2'.out hne
          obtain ⟨g, rfl⟩ : ∃ g, a2 = some ⟨g, 0, none⟩ := by
            rcases HL3.out.row.2 with ⟨_, h⟩ | ⟨g, _, _, h, _⟩
            · omega
            · simp only [Value.slice.injEq] at h; exact ⟨g, h.1⟩
          have hg := (HL3.out.row.lt g rfl).2
          obtain ⟨f, hf⟩ : ∃ f, l[i]? = some f := ⟨l[i], List.getElem?_eq_getElem hlt⟩
          obtain ⟨q0, q1, q2⟩ := qcells_at l i f hf
          have hql : (qcells l).length = l.length * 3 := qcells_len l
          have x0 := (HB.out.cell (p := ⟨b, i * 3, none⟩) hb).trans (hcb _ _ q0)
          have x1 := (HB.out.cell (p := ⟨b, i * 3 + 1, none⟩) hb).trans (hcb _ _ q1)
          have x2 := (HB.out.cell (p := ⟨b, i * 3 + 2, none⟩) hb).trans (hcb _ _ q2)
          have y0 := (HB.out.cell (p := ⟨g, i * 3, none⟩) hg).trans ((HL3.out.row.cellAt (i * 3) (by omega)).trans q0)
          have y1 := (HB.out.cell (p := ⟨g, i * 3 + 1, none⟩) hg).trans ((HL3.out.row.cellAt (i * 3 + 1) (by omega)).trans q1)
          have y2 := (HB.out.cell (p := ⟨g, i * 3 + 2, none⟩) hg).trans ((HL3.out.row.cellAt (i * 3 + 2) (by omega)).trans q2)
          clear hcb q0 q1 q2 hf hql hne
          have hi0 : (0 : Int) ≤ (i : Int) := by omega
          have hi1 : (i : Int) < (l.length : Int) := by omega
          go_wp2_with fail
          refine wp_region_G (fun W => (W.cell? ⟨b, i * 3, none⟩ = some (.int .i64 f.a) ∧ W.cell? ⟨b, i * 3 + 1, none⟩ = some (.int .i64 f.b) ∧ W.cell? ⟨b, i * 3 + 2, none⟩ = some (.int .i64 f.c)) ∧ W.cell? ⟨g, i * 3, none⟩ = some (.int .i64 f.a) ∧ W.cell? ⟨g, i * 3 + 1, none⟩ = some (.int .i64 f.b) ∧ W.cell? ⟨g, i * 3 + 2, none⟩ = some (.int .i64 f.c)) 8 (by kernel_rfl) ⟨⟨x0, x1, x2⟩, y0, y1, y2⟩ (fun hHeld => ?_)
          refine wpAnyG_take (i := 0) (v := ?v0x22) rfl (by kernel_rfl) (fun _ _ _ h => h) (Or.inl ⟨by rfl, ?y0x22⟩) hHeld ?r0x22
          case y0x22 => (intro wS hSw; obtain ⟨⟨s1, s2, s3⟩, s4, s5, s6⟩ := hSw; go_simp; try with_reducible rfl)
          try simp only [Act.put, List.setIfInBounds_toArray, List.set_cons_zero, List.set_cons_succ]
          refine wpAnyG_take (i := 1) (v := ?v1x23) rfl (by kernel_rfl) (fun _ _ _ h => h) (Or.inl ⟨by rfl, ?y1x23⟩) hHeld ?r1x23
          case y1x23 => (intro wS hSw; obtain ⟨⟨s1, s2, s3⟩, s4, s5, s6⟩ := hSw; go_simp; try with_reducible rfl)
          try simp only [Act.put, List.setIfInBounds_toArray, List.set_cons_zero, List.set_cons_succ]
          refine wpAnyG_take (i := 2) (v := ?v2x24) rfl (by kernel_rfl) (fun _ _ _ h => h) (Or.inl ⟨by rfl, ?y2x24⟩) hHeld ?r2x24
          case y2x24 => (intro wS hSw; obtain ⟨⟨s1, s2, s3⟩, s4, s5, s6⟩ := hSw; go_simp; try with_reducible rfl)
          try simp only [Act.put, List.setIfInBounds_toArray, List.set_cons_zero, List.set_cons_succ]
          refine wpAnyG_take (i := 3) (v := ?v3x25) rfl (by kernel_rfl) (fun _ _ _ h => h) (Or.inl ⟨by rfl, ?y3x25⟩) hHeld ?r3x25
          case y3x25 => (intro wS hSw; obtain ⟨⟨s1, s2, s3⟩, s4, s5, s6⟩ := hSw; go_simp; try with_reducible rfl)
          try simp only [Act.put, List.setIfInBounds_toArray, List.set_cons_zero, List.set_cons_succ]
          refine wpAnyG_take (i := 4) (v := ?v4x26) rfl (by kernel_rfl) (fun _ _ _ h => h) (Or.inl ⟨by rfl, ?y4x26⟩) hHeld ?r4x26
          case y4x26 => (intro wS hSw; obtain ⟨⟨s1, s2, s3⟩, s4, s5, s6⟩ := hSw; go_simp; try with_reducible rfl)
          try simp only [Act.put, List.setIfInBounds_toArray, List.set_cons_zero, List.set_cons_succ]
          refine wpAnyG_take (i := 5) (v := ?v5x27) rfl (by kernel_rfl) (fun _ _ _ h => h) (Or.inl ⟨by rfl, ?y5x27⟩) hHeld ?r5x27
          case y5x27 => (intro wS hSw; obtain ⟨⟨s1, s2, s3⟩, s4, s5, s6⟩ := hSw; go_simp; try with_reducible rfl)
          try simp only [Act.put, List.setIfInBounds_toArray, List.set_cons_zero, List.set_cons_succ]
          refine wpAnyG_take (i := 6) (v := ?v6x28) rfl (by kernel_rfl) (fun _ _ _ h => h) (Or.inl ⟨by rfl, ?y6x28⟩) hHeld ?r6x28
          case y6x28 => (intro wS hSw; obtain ⟨⟨s1, s2, s3⟩, s4, s5, s6⟩ := hSw; go_simp; try with_reducible rfl)
          try simp only [Act.put, List.setIfInBounds_toArray, List.set_cons_zero, List.set_cons_succ]
          refine wpAnyG_take (i := 7) (v := ?v7x29) rfl (by kernel_rfl) (fun _ _ _ h => h) (Or.inl ⟨by rfl, ?y7x29⟩) hHeld ?r7x29
          case y7x29 => (intro wS hSw; obtain ⟨⟨s1, s2, s3⟩, s4, s5, s6⟩ := hSw; go_simp; try with_reducible rfl)
          try simp only [Act.put, List.setIfInBounds_toArray, List.set_cons_zero, List.set_cons_succ]
          refine wpAnyG_last (i := 8) rfl (by kernel_rfl) (by kernel_rfl) (fun K hK => ?_)
          go_simp
          refine hK.out _ _ ?_
          clear hK K
          try simp only [Act.put, List.setIfInBounds_toArray, List.set_cons_zero, List.set_cons_succ]
          refine wpAnyG_done (by kernel_rfl) ?_ _
          have HB2 : Hid (Below w3.heap.size w3 wr.drew) := HB.out.drew
          clear hHeld x0 x1 x2 y0 y1 y2 HB
          go_wp2
          go_roundw
          case rel => exact ⟨i + 1, by omega, by go_num, HB2.out⟩
          case measure => simp [intOf]; omega
        · have HK4 : Hid (Below w.heap.size w wr) := HK3.out.trans (HB.out.mono HK3.out.size)
          go_wp2
          go_ret
          exact ⟨rfl, HK4.out⟩

end Go.Proofs.Ytijkanilpblogae
end

section
/- The program: quad.classes and Classes. -/
set_option linter.unusedSimpArgs false
set_option linter.unusedVariables false
set_option maxRecDepth 100000
namespace Go.Proofs.Ytijkanilpblogae
open Go.RowKit

/-- What the program tests, is what the reference tests. -/
theorem clsB_code {d A b C : Int} (hd : d < 0) (hA : 1 ≤ A) (hC : (b * b - d).tdiv (4 * A) = C) (hU : Qf.upto 1000000 ⟨A, b, C⟩) :
    clsB d A b = (((⟨A, b, C⟩ : Qf).disc == d) && ((⟨A, b, C⟩ : Qf).redB && ((Int.gcd (Int.gcd A b) C : Int) == 1))) := by
  have hF : formOf d A b = ⟨A, b, C⟩ := by unfold formOf; rw [hC]
  have h1 := Int.mul_tdiv_add_tmod (b * b - d) (4 * A)
  rw [hC] at h1
  have h2 : (⟨A, b, C⟩ : Qf).disc = d + (b * b - d).tmod (4 * A) := by
    unfold Qf.disc; simp only []; omega
  unfold clsB
  rw [hF]
  by_cases h3 : (b * b - d).tmod (4 * A) = 0
  · rw [h3] at h2 ⊢
    have h4 : (⟨A, b, C⟩ : Qf).disc = d := by omega
    rw [h4]
    have h5 : ((ffault ⟨A, b, C⟩).1 == 0) = ((Int.gcd (Int.gcd A b) C : Int) == 1) := by
      have o : ∀ x : Int, -1000000 ≤ x → x ≤ 1000000 → okc x = true := fun x h1 h2 => by unfold okc; simp; omega
      obtain ⟨u1, u2, u3, u4, u5, u6⟩ := hU
      unfold ffault
      simp only [] at u1 u2 u3 u4 u5 u6 ⊢
      rw [if_neg (by rw [o A u1 u2]; simp), if_neg (by rw [o b u3 u4]; simp), if_neg (by rw [o C u5 u6]; simp), if_neg (by rw [h4]; omega)]
      by_cases h6 : Int.gcd (Int.gcd A b) C = 1
      · rw [if_neg (by simpa using h6), h6]; rfl
      · rw [if_pos h6]
        have : ((Int.gcd (Int.gcd A b) C : Int) == 1) = false := beq_eq_false_iff_ne.2 (by omega)
        rw [this]; rfl
    rw [h5]
    simp
  · have h4 : ((⟨A, b, C⟩ : Qf).disc == d) = false := beq_eq_false_iff_ne.2 (by omega)
    rw [h4, beq_eq_false_iff_ne.2 h3]
    rfl

set_option maxHeartbeats 8000000 in
theorem classes_any (d : Int) (w : World) (hd : -200000 ≤ d ∧ d < 0) :
    Calls Try.prog 30 #[.int .i64 d] w fun e w' => ∃ (n : Nat) (a : Option Addr) (c : Nat), e = .returned (.slice a (classesTo d n).length c) ∧ (3 * (n : Int) * n ≤ -d ∧ -d < 3 * ((n : Int) + 1) * ((n : Int) + 1)) ∧ Lw w.heap.size (classesTo d n) a c w w' := by
  obtain ⟨i0, hi, hz0, hz1, hz2⟩ := info_parts Try.infoForm
  have HI : Hid (Try.prog.info? 32 = some i0 ∧ i0.zero = some (.agg #[.int .i64 0, .int .i64 0, .int .i64 0]) ∧ i0.size = 3 ∧ i0.bytes = 24) := ⟨hi, hz0, hz1, hz2⟩
  clear hi hz0 hz1 hz2
  obtain ⟨hd1, hd2⟩ := hd
  go_enter Try.func30, Try.ntmps30
  go_wp2
  go_loopw [3, 4] (fun ov av wx => ∃ (n : Nat) (A : Int) (a : Option Addr) (c : Nat), ov = .slice a (classesTo d n).length c ∧ av = .int .i64 A ∧ Hid (A = (n : Int) + 1 ∧ 3 * (n : Int) * n ≤ -d ∧ n ≤ 258 ∧ Lw w.heap.size (classesTo d n) a c w wx)) (fun _ av _ => 300 - (intOf av).toNat)
  case atStart => exact ⟨0, 1, none, 0, rfl, rfl, rfl, by omega, by omega, World.ownsRow_nil _ _ _ _, Below.refl _ _⟩
  case round =>
    obtain ⟨n, A, a, c, rfl, rfl, HR⟩ := hrel
    obtain ⟨hA, hn, hn2, hL⟩ := HR.out
    have hA1 : 1 ≤ A ∧ A ≤ 259 := by omega
    obtain ⟨Q, hQ⟩ : ∃ Q, Q = 3 * A * A := ⟨_, rfl⟩
    have hQb : 0 ≤ Q ∧ Q ≤ 300000 := by
      have h1 : A * A ≤ 259 * 259 := Int.mul_le_mul hA1.2 hA1.2 (by omega) (by omega)
      have h2 := sq_nn A
      have h3 : 3 * A * A = 3 * (A * A) := Int.mul_assoc ..
      omega
    have hQ2 : 3 * A * A = Q := hQ.symm
    have HQ : Hid (Q = 3 * A * A) := hQ
    clear hQ hA hn hn2 hL
    by_cases hle : Q ≤ -d
    · have hlb : decide (Q ≤ -d) = true := decide_eq_true hle
      have hAn := HR.out.1
      have HL0 : Hid (Lw w.heap.size (classesTo d n) a c w wr) := HR.out.2.2.2
      have HN : Hid (A = (n : Int) + 1 ∧ n ≤ 258) := ⟨HR.out.1, HR.out.2.2.1⟩
      have hclen : (classesTo d n).length ≤ 160000 := by have := classesTo_len d n (by have := HN.out.2; omega); have := HN.out.2; omega
      obtain ⟨L0, hL0⟩ : ∃ L0, L0 = classesTo d n := ⟨_, rfl⟩
      rw [← hL0] at HL0 hclen ⊢
      have HL00 : Hid (L0 = classesTo d n) := hL0
      have HQle : Hid (3 * ((n : Int) + 1) * ((n : Int) + 1) ≤ -d) := by
        have := HQ.out
        rw [HN.out.1] at this
        show _ ≤ _
        omega
      clear hL0 HR hAn
      go_wp2
      go_loopw [3, 5] (fun ov bv wx => ∃ (i : Nat) (b : Int) (a' : Option Addr) (c' : Nat), ov = .slice a' (L0 ++ rowTo d A i).length c' ∧ bv = .int .i64 b ∧ Hid (b = (i : Int) - A ∧ (i : Int) ≤ 2 * A + 1 ∧ Lw w.heap.size (L0 ++ rowTo d A i) a' c' w wx)) (fun _ bv _ => (A + 1 - intOf bv).toNat)
      case atStart => exact ⟨0, -A, a, c, by simp [rowTo], rfl, by omega, by omega, by simpa [rowTo] using HL0.out⟩
      case round =>
        clear HL0 hlb hle hQ2 hQb
        obtain ⟨i, b, a', c', rfl, rfl, HR⟩ := hrel
        obtain ⟨hb, hi2, hLw⟩ := HR.out
        have hb1 : -A ≤ b ∧ b ≤ A + 1 := by omega
        have HB : Hid (b = (i : Int) - A) := hb
        have hilen : (rowTo d A i).length ≤ 600 := by have := rowTo_len d A i; omega
        obtain ⟨L, hL⟩ : ∃ L, L = L0 ++ rowTo d A i := ⟨_, rfl⟩
        have hLlen : L.length ≤ 200000 := by rw [hL, List.length_append]; omega
        rw [← hL] at hLw ⊢
        have HLw : Hid (Lw w.heap.size L a' c' w wr) := hLw
        have HL : Hid (L = L0 ++ rowTo d A i) := hL
        have hwz := hLw.k.size
        clear HR hb hi2 hLw hL hilen
        by_cases hbA : b ≤ A
        · have hbb : decide (b ≤ A) = true := decide_eq_true hbA
          obtain ⟨P, hP⟩ : ∃ P, P = b * b := ⟨_, rfl⟩
          have hPb : 0 ≤ P ∧ P ≤ 70000 := by
            have h1 := sq_bd (show -259 ≤ b by omega) (show b ≤ 259 by omega) (show -259 ≤ b by omega) (show b ≤ 259 by omega)
            have h2 := sq_nn b
            omega
          have hP2 : b * b = P := hP.symm
          have hz4 : (4 * A == 0) = false := beq_eq_false_iff_ne.2 (by omega)
          obtain ⟨C, hC⟩ : ∃ C, (P - d).tdiv (4 * A) = C := ⟨_, rfl⟩
          have hCb : 0 ≤ C ∧ C ≤ 300000 := by
            have h1 := Int.tdiv_nonneg (show 0 ≤ P - d by omega) (show 0 ≤ 4 * A by omega)
            have h2 := Int.natAbs_tdiv (P - d) (4 * A)
            have h3 : (P - d).natAbs.div (4 * A).natAbs ≤ (P - d).natAbs := Nat.div_le_self _ _
            rw [hC] at h1 h2
            omega
          have hF : formOf d A b = ⟨A, b, C⟩ := by unfold formOf; rw [hP2, hC]
          have hU : Qf.upto 1000000 ⟨A, b, C⟩ := ⟨by show -1000000 ≤ A; omega, by show A ≤ 1000000; omega, by show -1000000 ≤ b; omega, by show b ≤ 1000000; omega, by show -1000000 ≤ C; omega, by show C ≤ 1000000; omega⟩
          have HS : Hid (rowTo d A (i + 1) = rowTo d A i ++ cls d A b) := by have := rowTo_succ d A i; rw [← HB.out] at this; exact this
          have hCl := clsB_code (d := d) (A := A) (b := b) (C := C) hd2 hA1.1 (by rw [hP2]; exact hC) hU
          have HF : Hid (formOf d A b = ⟨A, b, C⟩) := hF
          have hskip : clsB d A b = false → (L0 ++ rowTo d A (i + 1)) = L := fun h => by
            rw [HS.out, cls, h, HL.out]; simp
          have HSk : Hid (clsB d A b = false → (L0 ++ rowTo d A (i + 1)) = L) := hskip
          have HDi : Hid (∀ w, Calls Try.prog 32 #[(⟨A, b, C⟩ : Qf).v] w fun e w' => e = .returned (.int .i64 (⟨A, b, C⟩ : Qf).disc) ∧ Below w.heap.size w w') := fun w => discriminant_any ⟨A, b, C⟩ w hU
          have HRed : Hid (∀ w, Calls Try.prog 45 #[(⟨A, b, C⟩ : Qf).v] w fun e w' => e = .returned (.bool (⟨A, b, C⟩ : Qf).redB) ∧ Below w.heap.size w w') := fun w => isReduced_any ⟨A, b, C⟩ w (up_up hU)
          have HGc : Hid (∀ w, Calls Try.prog 46 #[(⟨A, b, C⟩ : Qf).v] w fun e w' => e = .returned (.int .i64 (Int.gcd (Int.gcd A b) C : Int)) ∧ Below w.heap.size w w') := fun w => commonDivisor_any ⟨A, b, C⟩ w hU
          unfold Qf.v at HDi HRed HGc
          simp only [] at HDi HRed HGc
          obtain ⟨D, hD⟩ : ∃ D, (⟨A, b, C⟩ : Qf).disc = D := ⟨_, rfl⟩
          obtain ⟨rb, hrb⟩ : ∃ rb, (⟨A, b, C⟩ : Qf).redB = rb := ⟨_, rfl⟩
          obtain ⟨G, hG⟩ : ∃ G : Nat, Int.gcd (Int.gcd A b) C = G := ⟨_, rfl⟩
          rw [hD] at HDi
          rw [hrb] at HRed
          rw [hG] at HGc
          rw [hD, hrb, hG] at hCl
          have HCl : Hid (clsB d A b = ((D == d) && (rb && ((G : Int) == 1)))) := hCl
          clear hP hF hskip hU hD hrb hG hCl
          cases hT0 : (D == d)
          · skip
            go_wp2_with fail
            refine (HDi.out _).mono ?_
            rintro e w1 ⟨rfl, k1⟩
            have HLw1 : Hid (Lw w.heap.size L a' c' w w1) := (HLw.out.below hwz (al1 wr _)).below (by simp; omega) k1
            have P1 := (Cl.new [.int .i64 A, .int .i64 b, .int .i64 C] 32 wr).below k1
            have HP1 : Hid (Cl wr.heap.size [.int .i64 A, .int .i64 b, .int .i64 C] 32 w1) := P1
            have hz1 : w.heap.size ≤ w1.heap.size := by have := k1.size; simp at this; omega
            have p0 := P1.cell 0
            have p1 := P1.cell 1
            have p2 := P1.cell 2
            simp at p0 p1 p2
            clear k1 P1
            have hlen := HSk.out (by rw [HCl.out, hT0]; simp)
            have HLen : Hid ((L0 ++ rowTo d A (i + 1)) = L) := hlen
            clear hlen
            go_wp2
            go_roundw
            case rel => exact ⟨i + 1, b + 1, a', c', by rw [HLen.out], by go_num, by have := HB.out; omega, by have := HB.out; omega, by rw [HLen.out]; exact HLw1.out⟩
            case measure => simp [intOf]; omega
          · cases rb
            · skip
              go_wp2_with fail
              refine (HDi.out _).mono ?_
              rintro e w1 ⟨rfl, k1⟩
              have HLw1 : Hid (Lw w.heap.size L a' c' w w1) := (HLw.out.below hwz (al1 wr _)).below (by simp; omega) k1
              have P1 := (Cl.new [.int .i64 A, .int .i64 b, .int .i64 C] 32 wr).below k1
              have HP1 : Hid (Cl wr.heap.size [.int .i64 A, .int .i64 b, .int .i64 C] 32 w1) := P1
              have hz1 : w.heap.size ≤ w1.heap.size := by have := k1.size; simp at this; omega
              have p0 := P1.cell 0
              have p1 := P1.cell 1
              have p2 := P1.cell 2
              simp at p0 p1 p2
              clear k1 P1
              go_wp2_with fail
              refine (HRed.out _).mono ?_
              rintro e w2 ⟨rfl, k1⟩
              have HLw2 : Hid (Lw w.heap.size L a' c' w w2) := HLw1.out.below hz1 k1
              have P1 := HP1.out.below k1
              have HP2 : Hid (Cl wr.heap.size [.int .i64 A, .int .i64 b, .int .i64 C] 32 w2) := P1
              have hz2 : w.heap.size ≤ w2.heap.size := by have := k1.size; omega
              clear p0 p1 p2
              have p0 := P1.cell 0
              have p1 := P1.cell 1
              have p2 := P1.cell 2
              simp at p0 p1 p2
              clear k1 P1
              have hlen := HSk.out (by rw [HCl.out, hT0]; simp)
              have HLen : Hid ((L0 ++ rowTo d A (i + 1)) = L) := hlen
              clear hlen
              go_wp2
              go_roundw
              case rel => exact ⟨i + 1, b + 1, a', c', by rw [HLen.out], by go_num, by have := HB.out; omega, by have := HB.out; omega, by rw [HLen.out]; exact HLw2.out⟩
              case measure => simp [intOf]; omega
            · cases hf1 : ((G : Int) == 1)
              · skip
                go_wp2_with fail
                refine (HDi.out _).mono ?_
                rintro e w1 ⟨rfl, k1⟩
                have HLw1 : Hid (Lw w.heap.size L a' c' w w1) := (HLw.out.below hwz (al1 wr _)).below (by simp; omega) k1
                have P1 := (Cl.new [.int .i64 A, .int .i64 b, .int .i64 C] 32 wr).below k1
                have HP1 : Hid (Cl wr.heap.size [.int .i64 A, .int .i64 b, .int .i64 C] 32 w1) := P1
                have hz1 : w.heap.size ≤ w1.heap.size := by have := k1.size; simp at this; omega
                have p0 := P1.cell 0
                have p1 := P1.cell 1
                have p2 := P1.cell 2
                simp at p0 p1 p2
                clear k1 P1
                go_wp2_with fail
                refine (HRed.out _).mono ?_
                rintro e w2 ⟨rfl, k1⟩
                have HLw2 : Hid (Lw w.heap.size L a' c' w w2) := HLw1.out.below hz1 k1
                have P1 := HP1.out.below k1
                have HP2 : Hid (Cl wr.heap.size [.int .i64 A, .int .i64 b, .int .i64 C] 32 w2) := P1
                have hz2 : w.heap.size ≤ w2.heap.size := by have := k1.size; omega
                clear p0 p1 p2
                have p0 := P1.cell 0
                have p1 := P1.cell 1
                have p2 := P1.cell 2
                simp at p0 p1 p2
                clear k1 P1
                go_wp2_with fail
                refine (HGc.out _).mono ?_
                rintro e w3 ⟨rfl, k1⟩
                have HLw3 : Hid (Lw w.heap.size L a' c' w w3) := HLw2.out.below hz2 k1
                have P1 := HP2.out.below k1
                have HP3 : Hid (Cl wr.heap.size [.int .i64 A, .int .i64 b, .int .i64 C] 32 w3) := P1
                have hz3 : w.heap.size ≤ w3.heap.size := by have := k1.size; omega
                clear p0 p1 p2
                have p0 := P1.cell 0
                have p1 := P1.cell 1
                have p2 := P1.cell 2
                simp at p0 p1 p2
                clear k1 P1
                have hlen := HSk.out (by rw [HCl.out, hT0,hf1]; simp)
                have HLen : Hid ((L0 ++ rowTo d A (i + 1)) = L) := hlen
                clear hlen
                go_wp2
                go_roundw
                case rel => exact ⟨i + 1, b + 1, a', c', by rw [HLen.out], by go_num, by have := HB.out; omega, by have := HB.out; omega, by rw [HLen.out]; exact HLw3.out⟩
                case measure => simp [intOf]; omega
              · skip
                go_wp2_with fail
                refine (HDi.out _).mono ?_
                rintro e w1 ⟨rfl, k1⟩
                have HLw1 : Hid (Lw w.heap.size L a' c' w w1) := (HLw.out.below hwz (al1 wr _)).below (by simp; omega) k1
                have P1 := (Cl.new [.int .i64 A, .int .i64 b, .int .i64 C] 32 wr).below k1
                have HP1 : Hid (Cl wr.heap.size [.int .i64 A, .int .i64 b, .int .i64 C] 32 w1) := P1
                have hz1 : w.heap.size ≤ w1.heap.size := by have := k1.size; simp at this; omega
                have p0 := P1.cell 0
                have p1 := P1.cell 1
                have p2 := P1.cell 2
                simp at p0 p1 p2
                clear k1 P1
                go_wp2_with fail
                refine (HRed.out _).mono ?_
                rintro e w2 ⟨rfl, k1⟩
                have HLw2 : Hid (Lw w.heap.size L a' c' w w2) := HLw1.out.below hz1 k1
                have P1 := HP1.out.below k1
                have HP2 : Hid (Cl wr.heap.size [.int .i64 A, .int .i64 b, .int .i64 C] 32 w2) := P1
                have hz2 : w.heap.size ≤ w2.heap.size := by have := k1.size; omega
                clear p0 p1 p2
                have p0 := P1.cell 0
                have p1 := P1.cell 1
                have p2 := P1.cell 2
                simp at p0 p1 p2
                clear k1 P1
                go_wp2_with fail
                refine (HGc.out _).mono ?_
                rintro e w3 ⟨rfl, k1⟩
                have HLw3 : Hid (Lw w.heap.size L a' c' w w3) := HLw2.out.below hz2 k1
                have P1 := HP2.out.below k1
                have HP3 : Hid (Cl wr.heap.size [.int .i64 A, .int .i64 b, .int .i64 C] 32 w3) := P1
                have hz3 : w.heap.size ≤ w3.heap.size := by have := k1.size; omega
                clear p0 p1 p2
                have p0 := P1.cell 0
                have p1 := P1.cell 1
                have p2 := P1.cell 2
                simp at p0 p1 p2
                clear k1 P1
                go_wp2_with (at_builtin; refine wpList_append_own _ rfl _ _ 22 rfl w.heap.size 32 i0 (.agg #[.int .i64 0, .int .i64 0, .int .i64 0]) 3 24 Try.underlying22 HI.out.1 HI.out.2.1 HI.out.2.2.1 HI.out.2.2.2 rfl (by decide) (.slice a' L.length c') L.length (qcells L) rfl (HLw3.out.row.alloc _) ⟨w3.heap.size, 0, none⟩ 1 1 [.int .i64 A, .int .i64 b, .int .i64 C] rfl rfl (Cl.new [.int .i64 A, .int .i64 b, .int .i64 C] 32 w3).news (by simp [Value.oneCell']) (by simp only [maxLen]; omega) (by omega) (by simp; omega) ?_; intro v' w6 hown' hgrow _; obtain ⟨g', cap', rfl⟩ := ownsRow_succ hown')
                have HN6 : Hid (Lw w.heap.size (L ++ [⟨A, b, C⟩]) (some ⟨g', 0, none⟩) cap' w w6) :=
                  ⟨by rw [List.length_append, qcells_one]; exact hown', (HLw3.out.k.alloc hz3 _).grown hgrow (by simp; omega) (fun k e => (HLw3.out.row.lt k e).1)⟩
                clear hown' hgrow
                go_roundw
                case rel =>
                  have hc1 : clsB d A b = true := by rw [HCl.out, hT0, hf1]; rfl
                  have hLL : L0 ++ rowTo d A (i + 1) = L ++ [⟨A, b, C⟩] := by
                    rw [HS.out, cls, hc1, HF.out, HL.out, List.append_assoc]; rfl
                  exact ⟨i + 1, b + 1, some ⟨g', 0, none⟩, cap', by rw [hLL, List.length_append]; rfl, by go_num, by have := HB.out; omega, by have := HB.out; omega, by rw [hLL]; exact HN6.out⟩
                case measure => simp [intOf]; omega
        · have hbb : decide (b ≤ A) = false := decide_eq_false hbA
          go_wp2
          go_roundw
          case rel =>
            have hiA : i = 2 * (n + 1) + 1 := by have := HB.out; have := HN.out.1; omega
            have hLn : L = classesTo d (n + 1) := by
              rw [classesTo_succ, HL.out, HL00.out, hiA, HN.out.1]
            have hn258 : n + 1 ≤ 258 := by
              rcases Nat.lt_or_ge 258 (n + 1) with h | h
              · exfalso
                have h2 : (259 : Int) * 259 ≤ ((n : Int) + 1) * ((n : Int) + 1) := Int.mul_le_mul (by omega) (by omega) (by omega) (by omega)
                have h3 := HQle.out
                rw [Int.mul_assoc] at h3
                omega
              · exact h
            refine ⟨n + 1, A + 1, a', c', by rw [hLn], by go_num, by have := HN.out.1; omega, ?_, hn258, by rw [← hLn]; exact HLw.out⟩
            have := HQle.out
            push_cast
            exact this
          case measure => simp [intOf]; omega
    · have hlb : decide (Q ≤ -d) = false := decide_eq_false hle
      go_wp2
      go_ret
      obtain ⟨hA, hn, hn2, hL⟩ := HR.out
      refine ⟨n, a, c, rfl, ⟨hn, ?_⟩, hL⟩
      have := HQ.out
      rw [hA] at this
      omega

end Go.Proofs.Ytijkanilpblogae
end

section
/- The program: Classes. -/
set_option linter.unusedSimpArgs false
set_option linter.unusedVariables false
set_option maxRecDepth 100000
namespace Go.Proofs.Ytijkanilpblogae
open Go.RowKit

theorem row_cells {B n : Nat} {a : Option Addr} {c : Nat} {t : TypeId} {W : World} {l : List Qf} (h : W.ownsRow B t 3 (.slice a l.length c) l.length (qcells l)) (hl : l ≠ []) :
    ∃ b : Nat, a = some ⟨b, 0, none⟩ ∧ b < W.heap.size ∧ ∀ j u, (qcells l)[j]? = some u → W.cell? ⟨b, j, none⟩ = some u := by
  rcases h.2 with ⟨_, h1⟩ | ⟨g, _, _, h1, _⟩
  · exact absurd (List.length_eq_zero_iff.1 h1) hl
  · have e1 : a = some ⟨g, 0, none⟩ := by simp at h1; exact h1.1
    subst e1
    refine ⟨g, rfl, (h.lt g rfl).2, fun j u hu => ?_⟩
    obtain ⟨hj, _⟩ := List.getElem?_eq_some_iff.1 hu
    rw [h.cellAt j (by rw [qcells_len] at hj; exact hj), hu]

set_option maxHeartbeats 4000000 in
theorem Classes_any (d : Int) (w : World) : Calls Try.prog 8 #[.int .i64 d] w (ClassesOut d w) := by
  unfold ClassesOut ffv
  have HL : Hid (-200000 ≤ d → d < 0 → ∀ w, Calls Try.prog 29 #[.int .i64 d, .int .i64 4] w fun e w' => e = .returned (.int .i64 (d % 4)) ∧ w' = w) := fun h1 h2 w => modLeft_int d 4 w (by omega) (by decide) (by decide)
  have HC : Hid (-200000 ≤ d → d < 0 → ∀ w, Calls Try.prog 30 #[.int .i64 d] w fun e w' => ∃ (n : Nat) (a : Option Addr) (c : Nat), e = .returned (.slice a (classesTo d n).length c) ∧ (3 * (n : Int) * n ≤ -d ∧ -d < 3 * ((n : Int) + 1) * ((n : Int) + 1)) ∧ Lw w.heap.size (classesTo d n) a c w w') := fun h1 h2 w => classes_any d w ⟨h1, h2⟩
  have HS : Hid (Sv w.heap.size 0 0 (w.alloc (.cells #[.int .i64 0, .int .i64 0] 24)) ∧ Below w.heap.size w (w.alloc (.cells #[.int .i64 0, .int .i64 0] 24))) := ⟨sv_new0 _ _ _ rfl _ _, al1 _ _⟩
  by_cases h1 : 0 ≤ d
  · have HCF : Hid (cfault d = (3, 0)) := by show _ = _; rw [cfault, if_pos (.inl h1)]
    rw [HCF.out]
    have t1 : decide (0 ≤ d) = true := decide_eq_true h1
    clear h1
    go_enter Try.func8, Try.ntmps8
    have q0 := HS.out.1.c0
    have q1 := HS.out.1.c1
    have q2 := HS.out.1.f0
    have q3 := HS.out.1.f1
    have q4 := HS.out.1.lt
    have HKK : Hid (Below _ _ _) := HS.out.2
    clear HS
    go_wp2
    refine bodyPost_ret (v := .tuple #[.slice none 0 0, .agg #[.int .i64 3, .int .i64 0]]) (by simp [results, Try.results8, go_sem, q0, q1, q4]) rfl ⟨none, 0, [], rfl, fun _ => rfl, fun h => ?_, fun h => absurd rfl h, ?_⟩
    · simp at h
    · first | exact al1 _ _ | (iterate 2 refine Below.setCell ?_ (by show w.heap.size ≤ w.heap.size; omega) _
                               exact HKK.out)
  have t1 : decide (0 ≤ d) = false := decide_eq_false h1
  by_cases h2 : d < -200000
  · have HCF : Hid (cfault d = (3, 0)) := by show _ = _; rw [cfault, if_pos (.inr h2)]
    rw [HCF.out]
    have t2 : decide (d < -200000) = true := decide_eq_true h2
    clear h1 h2
    go_enter Try.func8, Try.ntmps8
    have q0 := HS.out.1.c0
    have q1 := HS.out.1.c1
    have q2 := HS.out.1.f0
    have q3 := HS.out.1.f1
    have q4 := HS.out.1.lt
    have HKK : Hid (Below _ _ _) := HS.out.2
    clear HS
    go_wp2
    refine bodyPost_ret (v := .tuple #[.slice none 0 0, .agg #[.int .i64 3, .int .i64 0]]) (by simp [results, Try.results8, go_sem, q0, q1, q4]) rfl ⟨none, 0, [], rfl, fun _ => rfl, fun h => ?_, fun h => absurd rfl h, ?_⟩
    · simp at h
    · first | exact al1 _ _ | (iterate 2 refine Below.setCell ?_ (by show w.heap.size ≤ w.heap.size; omega) _
                               exact HKK.out)
  have t2 : decide (d < -200000) = false := decide_eq_false h2
  obtain ⟨R, hR⟩ : ∃ R, d % 4 = R := ⟨_, rfl⟩
  have HL2 : Hid (∀ w, Calls Try.prog 29 #[.int .i64 d, .int .i64 4] w fun e w' => e = .returned (.int .i64 R) ∧ w' = w) := fun w => by rw [← hR]; exact HL.out (by omega) (by omega) w
  have HC2 : Hid (∀ w, Calls Try.prog 30 #[.int .i64 d] w fun e w' => ∃ (n : Nat) (a : Option Addr) (c : Nat), e = .returned (.slice a (classesTo d n).length c) ∧ (3 * (n : Int) * n ≤ -d ∧ -d < 3 * ((n : Int) + 1) * ((n : Int) + 1)) ∧ Lw w.heap.size (classesTo d n) a c w w') := HC.out (by omega) (by omega)
  clear HL HC
  by_cases h3 : 1 < R
  · have HCF : Hid (cfault d = (7, 0)) := by show _ = _; rw [cfault, if_neg (by omega), hR, if_pos h3]
    rw [HCF.out]
    have t3 : decide (1 < R) = true := decide_eq_true h3
    clear h1 h2 h3 hR
    go_enter Try.func8, Try.ntmps8
    go_wp2_with fail
    refine (HL2.out _).mono ?_
    rintro e w1 ⟨rfl, hw⟩
    rw [← hw] at HS
    clear hw
    have q0 := HS.out.1.c0
    have q1 := HS.out.1.c1
    have q2 := HS.out.1.f0
    have q3 := HS.out.1.f1
    have q4 := HS.out.1.lt
    have HKK : Hid (Below _ _ _) := HS.out.2
    clear HS
    go_wp2
    refine bodyPost_ret (v := .tuple #[.slice none 0 0, .agg #[.int .i64 7, .int .i64 0]]) (by simp [results, Try.results8, go_sem, q0, q1, q4]) rfl ⟨none, 0, [], rfl, fun _ => rfl, fun h => ?_, fun h => absurd rfl h, ?_⟩
    · simp at h
    · first | exact al1 _ _ | (iterate 2 refine Below.setCell ?_ (by show w.heap.size ≤ w.heap.size; omega) _
                               exact HKK.out)
  · have HCF : Hid (cfault d = (0, 0)) := by show _ = _; rw [cfault, if_neg (by omega), hR, if_neg h3]
    rw [HCF.out]
    have t3 : decide (1 < R) = false := decide_eq_false h3
    clear h1 h2 h3 hR
    go_enter Try.func8, Try.ntmps8
    go_wp2_with fail
    refine (HL2.out _).mono ?_
    rintro e w1 ⟨rfl, hw⟩
    rw [← hw] at HS
    clear hw
    go_wp2_with fail
    refine (HC2.out _).mono ?_
    rintro e w2 ⟨n, a, c, rfl, hn, hL⟩
    have k2 := hL.k
    have HL : Hid ((3 * (n : Int) * n ≤ -d ∧ -d < 3 * ((n : Int) + 1) * ((n : Int) + 1)) ∧ w2.ownsRow w1.heap.size 32 3 (.slice a (classesTo d n).length c) (classesTo d n).length (qcells (classesTo d n))) := ⟨hn, hL.row⟩
    have HS2 : Hid (Sv w.heap.size 0 0 w2 ∧ Below w.heap.size w w2 ∧ w.heap.size < w1.heap.size) := ⟨HS.out.1.below k2, HS.out.2.trans (k2.mono HS.out.2.size), HS.out.1.lt⟩
    clear k2 hL hn HS
    obtain ⟨l, hl⟩ : ∃ l, l = classesTo d n := ⟨_, rfl⟩
    rw [← hl] at HL ⊢
    have HLn : Hid (l = classesTo d n) := hl
    clear hl
    have q0 := HS2.out.1.c0
    have q1 := HS2.out.1.c1
    have q2 := HS2.out.1.f0
    have q3 := HS2.out.1.f1
    have q4 := HS2.out.1.lt
    go_wp2
    refine bodyPost_ret (v := .tuple #[.slice a l.length c, .agg #[.int .i64 0, .int .i64 0]]) (by simp [results, Try.results8, go_sem, q0, q1, q4]) rfl ⟨a, c, l, rfl, fun h => absurd rfl h, fun _ => ⟨n, HL.out.1, HLn.out⟩, fun h => ?_, ?_⟩
    · obtain ⟨b, hb, hb2, hc⟩ := row_cells (n := 0) HL.out.2 h
      have hb3 := (HL.out.2.lt b (by rw [hb]; rfl)).1
      have hne : b ≠ w.heap.size := by have := HS2.out.2.2; omega
      refine ⟨b, hb, by simpa using hb2, fun j u hu => ?_⟩
      rw [← hc j u hu]
      have e : ∀ (W : World) (k : Nat) (v : Value), (W.setCell ⟨w.heap.size, k, none⟩ v).cell? ⟨b, j, none⟩ = W.cell? ⟨b, j, none⟩ := fun W k v => World.cell?_of_block (Below.heap_setCell W ⟨w.heap.size, k, none⟩ v b hne)
      rw [e, e]
    · iterate 2 refine Below.setCell ?_ (by show w.heap.size ≤ w.heap.size; omega) _
      exact HS2.out.2.1

end Go.Proofs.Ytijkanilpblogae
end

section
/- The examples of the document: formBegun. -/
set_option linter.unusedSimpArgs false
set_option linter.unusedVariables false
set_option maxRecDepth 100000
namespace Go.Proofs.Ytijkanilpblogae
open Go.RowKit

theorem begun_cz : MQ.Cz ⟨2, 1, 3⟩ ⟨2, 1, 3⟩ ⟨2, -1, 3⟩ := by
  have pm : MQ.Pm ⟨2, 1, 3⟩ := ⟨0, 1, 0, by decide⟩
  obtain ⟨c, hc, hdc, hco⟩ := MQ.comp_all (f := ⟨2, 1, 3⟩) (g := ⟨2, 1, 3⟩) (e := 1) (A := 2) (B := 2) (S := 1) (u := 0) (v := 0) (w := 1) (d2 := 0) (L := 1) (by decide) (by decide) rfl pm (by decide) (by decide) (by decide) (by decide) (by decide) (by decide) (by decide)
  obtain rfl : c = 3 := by simp only [] at hc; omega
  refine (MQ.comp_cz (h := ⟨4, 5, 3⟩) (m := ⟨-1, 0, 1, -1⟩) (by decide) (by decide) (by decide) (by decide) (by decide) rfl (by decide) pm pm hco ⟨by decide, by decide, fun x y => ?_⟩).1
  simp only [Qf.at]; grind

theorem begun_fault : ffault ⟨2, 1, 3⟩ = (0, 0) := by decide
theorem begun_len : (classesTo (-23) 2).length = 3 := by decide +kernel

set_option maxHeartbeats 4000000 in
theorem formBegun_any (w : World) : Calls Try.prog 9 #[] w fun e w' => e = .returned (.bool true) ∧ Below w.heap.size w w' := by
  have HC : Hid (∀ w, Calls Try.prog 13 #[.agg #[.int .i64 2, .int .i64 1, .int .i64 3], .agg #[.int .i64 2, .int .i64 1, .int .i64 3]] w fun e w' => e = .returned (.tuple #[.agg #[.int .i64 2, .int .i64 (-1), .int .i64 3], .agg #[.int .i64 0, .int .i64 0]]) ∧ Below w.heap.size w w') := fun w => by
    have hc : compF ⟨2, 1, 3⟩ ⟨2, 1, 3⟩ = (0, 0) := compF_ok begun_fault begun_fault rfl
    refine (Compose_any ⟨2, 1, 3⟩ ⟨2, 1, 3⟩ w).mono ?_
    rintro e w' ⟨h, rfl, ho, k⟩
    have h1 := MQ.Cz.one (by decide) (ho.good hc).1 begun_cz
    rw [h1, hc]
    exact ⟨rfl, k⟩
  have HK : Hid (∀ w, Calls Try.prog 8 #[.int .i64 (-23)] w fun e w' => (∃ (a : Option Addr) (c : Nat), e = .returned (.tuple #[.slice a 3 c, .agg #[.int .i64 0, .int .i64 0]])) ∧ Below w.heap.size w w') := fun w => by
    refine (Classes_any (-23) w).mono ?_
    rintro e w' ⟨a, c, l, rfl, _, hl, _, k⟩
    have hcf : cfault (-23) = (0, 0) := by decide
    obtain ⟨n, hn, hl2⟩ := hl hcf
    obtain rfl : n = 2 := top_one hn.1 hn.2 (by decide) (by decide)
    refine ⟨⟨a, c, ?_⟩, k⟩
    rw [hl2, begun_len, hcf]
  go_enter Try.func9, Try.ntmps9
  go_wp2_with fail
  refine (HC.out _).mono ?_
  rintro e w1 ⟨rfl, k1⟩
  obtain ⟨W2, hW2⟩ : ∃ W2, W2 = (w1.alloc (.cells #[.int .i64 2, .int .i64 (-1), .int .i64 3] 32)).alloc (.cells #[.int .i64 0, .int .i64 0] 24) := ⟨_, rfl⟩
  have K1 : Below w.heap.size w w1 := (al1 w (.cells #[.int .i64 2, .int .i64 1, .int .i64 3] 32)).trans (k1.mono (by simp))
  have k2 : Below w1.heap.size w1 W2 := by rw [hW2]; exact (al1 w1 _).trans ((al1 _ _).mono (by simp))
  have K2 : Below w.heap.size w W2 := K1.trans (k2.mono K1.size)
  have G2 : Cl w1.heap.size [.int .i64 2, .int .i64 (-1), .int .i64 3] 32 W2 := by rw [hW2]; exact (Cl.new [.int .i64 2, .int .i64 (-1), .int .i64 3] _ w1).alloc _
  have E2 : Sv (w1.heap.size + 1) 0 0 W2 := by rw [hW2]; exact sv_new0 _ _ _ (by simp) _ _
  go_wp2_with fail
  rw [← hW2]
  clear hW2
  refine (HK.out _).mono ?_
  rintro e w3 ⟨⟨a, c, rfl⟩, k3⟩
  have k4 := k3.trans ((al1 w3 (.cells #[.int .i64 0, .int .i64 0] 24)).mono k3.size)
  have G4 := G2.below k4
  have E4 := E2.below k4
  have HK4 : Hid (Below w.heap.size w (w3.alloc (.cells #[.int .i64 0, .int .i64 0] 24))) := K2.trans (k4.mono K2.size)
  have g0 := G4.cell 0
  have g1 := G4.cell 1
  have g2 := G4.cell 2
  have e0 := E4.c0
  have e1 := E4.c1
  simp at g0 g1 g2
  clear k1 k2 k3 k4 K1 K2 G2 E2 G4 E4 HC HK
  go_wp2
  go_ret
  exact ⟨rfl, HK4.out⟩

/-- What the laws ask of the program. -/
theorem form_is : FormIs (fun _ => True) := ⟨fun _ _ _ _ => trivial, fun w _ => formBegun_any w, Check_any, Reduce_any⟩
theorem classes_is : ClassesIs (fun _ => True) := ⟨fun _ _ _ _ => trivial, fun w _ => formBegun_any w, Classes_any⟩

end Go.Proofs.Ytijkanilpblogae
end
