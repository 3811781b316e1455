/- The law PadicDigits. (Written by padicdigits.py.) -/
import Derived.Test.YtidndbdjhapfaaaDoorPaG
import Derived.Test.YtidndbdjhapfaaaDoorPwF
import Derived.Test.YtidndbdjhapfaaaDoorJoinF
set_option linter.unusedSimpArgs false
set_option linter.unusedVariables false
set_option maxRecDepth 100000
namespace Go.Proofs.YtidndbdjhapfaaaDoor
open Go.RowKit

theorem Pf.uniq {p k M c a M' c' a' : Int} (h : Pf p k M c a) (h' : Pf p k M' c' a') : M = M' ∧ c = c' ∧ a = a' := by
  rcases h with ⟨h, rfl, rfl, rfl⟩ | ⟨P, hP, h2, h3, h⟩ <;> rcases h' with ⟨h', rfl, rfl, rfl⟩ | ⟨P', hP', h2', h3', h'⟩
  · exact ⟨rfl, rfl, rfl⟩
  · exfalso; subst hP'; clear h'; omega
  · exfalso; subst hP; clear h; omega
  · obtain rfl : P = P' := by rw [hP] at hP'; omega
    rcases h with ⟨h, rfl, rfl, rfl⟩ | ⟨hp, h⟩ <;> rcases h' with ⟨h', rfl, rfl, rfl⟩ | ⟨hp', h'⟩
    · exact ⟨rfl, rfl, rfl⟩
    · exact absurd hp' h
    · exact absurd hp h'
    · rcases h with ⟨h, rfl, rfl, rfl⟩ | ⟨K, hK, h4, h5, h⟩ <;> rcases h' with ⟨h', rfl, rfl, rfl⟩ | ⟨K', hK', h4', h5', h'⟩
      · exact ⟨rfl, rfl, rfl⟩
      · exfalso; subst hK'; clear h'; omega
      · exfalso; subst hK; clear h; omega
      · obtain rfl : K = K' := by rw [hK] at hK'; omega
        rcases h with ⟨h, rfl, rfl, rfl⟩ | ⟨h, rfl, rfl, rfl⟩ <;> rcases h' with ⟨h', rfl, rfl, rfl⟩ | ⟨h', rfl, rfl, rfl⟩
        · exact ⟨rfl, rfl, rfl⟩
        · omega
        · omega
        · exact ⟨rfl, rfl, rfl⟩
theorem Pg.pf {p k M : Int} {P K : Nat} (h : Pg p k M P K) : Pf p k M 0 0 :=
  .inr ⟨P, h.p, h.p2, h.p6, .inr ⟨h.pr, .inr ⟨K, h.k, h.k1, h.k6, .inr ⟨h.m18, h.m, rfl, rfl⟩⟩⟩⟩
theorem Pg.uniq {p k M M' : Int} {P K P' K' : Nat} (h : Pg p k M P K) (h' : Pg p k M' P' K') : M = M' ∧ P = P' ∧ K = K' := by
  refine ⟨(h.pf.uniq h'.pf).1, ?_, ?_⟩
  · have := h.p; have := h'.p; omega
  · have := h.k; have := h'.k; omega

/-- The law's four faults in memory. -/
structure Bq (w1 W : World) (b1 b2 b3 b4 : Nat) (c1 a1 c2 a2 c3 a3 c4 a4 : Int) : Prop where
  s1 : Sv b1 c1 a1 W
  s2 : Sv b2 c2 a2 W
  s3 : Sv b3 c3 a3 W
  s4 : Sv b4 c4 a4 W
  n13 : b3 ≠ b1
  n14 : b4 ≠ b1
  n23 : b3 ≠ b2
  n24 : b4 ≠ b2
  n34 : b3 ≠ b4
  l3 : w1.heap.size ≤ b3
  l4 : w1.heap.size ≤ b4
  k : Below w1.heap.size w1 W
theorem Bq.below {w1 W W' : World} {b1 b2 b3 b4 : Nat} {c1 a1 c2 a2 c3 a3 c4 a4 : Int} (h : Bq w1 W b1 b2 b3 b4 c1 a1 c2 a2 c3 a3 c4 a4) (k : Below W.heap.size W W') : Bq w1 W' b1 b2 b3 b4 c1 a1 c2 a2 c3 a3 c4 a4 :=
  ⟨h.s1.below k, h.s2.below k, h.s3.below k, h.s4.below k, h.n13, h.n14, h.n23, h.n24, h.n34, h.l3, h.l4, h.k.trans (k.mono h.k.size)⟩
theorem Bq.set3 {w1 W : World} {b1 b2 b3 b4 : Nat} {c1 a1 c2 a2 c3 a3 c4 a4 : Int} (h : Bq w1 W b1 b2 b3 b4 c1 a1 c2 a2 c3 a3 c4 a4) (x y : Int) : Bq w1 ((W.setCell ⟨b3, 0, none⟩ (.int .i64 x)).setCell ⟨b3, 1, none⟩ (.int .i64 y)) b1 b2 b3 b4 c1 a1 c2 a2 x y c4 a4 :=
  ⟨h.s1.other _ _ h.n13, h.s2.other _ _ h.n23, h.s3.set x y, h.s4.other _ _ h.n34, h.n13, h.n14, h.n23, h.n24, h.n34, h.l3, h.l4, (h.k.setCell h.l3 _).setCell h.l3 _⟩
theorem Bq.set4 {w1 W : World} {b1 b2 b3 b4 : Nat} {c1 a1 c2 a2 c3 a3 c4 a4 : Int} (h : Bq w1 W b1 b2 b3 b4 c1 a1 c2 a2 c3 a3 c4 a4) (x y : Int) : Bq w1 ((W.setCell ⟨b4, 0, none⟩ (.int .i64 x)).setCell ⟨b4, 1, none⟩ (.int .i64 y)) b1 b2 b3 b4 c1 a1 c2 a2 c3 a3 x y :=
  ⟨h.s1.other _ _ h.n14, h.s2.other _ _ h.n24, h.s3.other _ _ (fun e => h.n34 e.symm), h.s4.set x y, h.n13, h.n14, h.n23, h.n24, h.n34, h.l3, h.l4, (h.k.setCell h.l4 _).setCell h.l4 _⟩

set_option maxHeartbeats 8000000 in
theorem padic_digits (p k a b : Int) (w : World) (hT : Tb w) :
    Calls Tryd.prog 3 #[.int .i64 p, .int .i64 k, .int .i64 a, .int .i64 b] w fun e w' => e = .returned (.bool true) ∧ Below w.heap.size w w' := by
  have HT : Hid (Tb w) := hT
  clear hT
  obtain ⟨M, c, at', hPf⟩ := pf_ex p k
  have HR : Hid (∀ w, Calls Tryd.prog 7 #[.int .i64 p, .int .i64 k] w fun e w' => e = .returned (.tuple #[.int .i64 M, .agg #[.int .i64 c, .int .i64 at']]) ∧ Below w.heap.size w w') := fun w => refPadicFault_any p k M c at' w hPf
  have HBg : Hid (∀ w, Tb w → Calls Tryd.prog 10 #[] w fun e w' => e = .returned (.bool true) ∧ Below w.heap.size w w') := padicBegun_any
  have HPf : Hid (Pf p k M c at') := hPf
  have hgood := hPf.good
  clear hPf
  go_enter Tryd.func3, Tryd.ntmps3
  go_wp2_with fail
  refine (Digits_any p k a b w HT.out).mono ?_
  rintro e w1 ⟨v, c1, a1, rfl, hDi, k1⟩
  obtain ⟨va, vn, vc, rfl⟩ : ∃ va vn vc, v = .slice va vn vc := by
    rcases hDi with ⟨h, _⟩ | ⟨_, _, _, _, ⟨h, _⟩ | ⟨_, _, _, X, _, h, _⟩⟩
    · exact ⟨_, _, _, h⟩
    · exact ⟨_, _, _, h⟩
    · obtain ⟨aa, g, o, cap, h, _⟩ := h; exact ⟨_, _, _, h⟩
  have HDi : Hid (DiOut p k a b (.slice va vn vc) c1 a1 w1) := hDi
  have HK1 : Hid (Below w.heap.size w w1) := k1
  have HT1 : Hid (Tb w1) := HT.out.below k1
  clear hDi k1
  go_wp2_with fail
  obtain ⟨u1, hu1⟩ : ∃ u1, u1 = w1.alloc (.cells #[.int .i64 c1, .int .i64 a1] 24) := ⟨_, rfl⟩
  rw [← hu1]
  have S1 : Sv w1.heap.size c1 a1 u1 := by rw [hu1]; exact Sv.new c1 a1 w1
  have K1 : Below w1.heap.size w1 u1 := by rw [hu1]; exact (Below.refl _ _).alloc (Nat.le_refl _) _
  clear hu1
  refine (Teich_any p k a u1 (HT1.out.below K1)).mono ?_
  rintro e w2 ⟨x, c2, a2, rfl, hTe, k2⟩
  have HTe : Hid (TeOut p k a x c2 a2) := hTe
  have S1 := S1.below k2
  have K2 : Below w1.heap.size w1 w2 := K1.trans (k2.mono K1.size)
  clear hTe k2 K1
  go_wp2_with fail
  obtain ⟨u2, hu2⟩ : ∃ u2, u2 = w2.alloc (.cells #[.int .i64 c2, .int .i64 a2] 24) := ⟨_, rfl⟩
  rw [← hu2]
  have kk : Below w2.heap.size w2 u2 := by rw [hu2]; exact (Below.refl _ _).alloc (Nat.le_refl _) _
  have S2 : Sv w2.heap.size c2 a2 u2 := by rw [hu2]; exact Sv.new c2 a2 w2
  have L12 : w1.heap.size < w2.heap.size := S1.lt
  have S1 := S1.below kk
  have K3 : Below w1.heap.size w1 u2 := K2.trans (kk.mono K2.size)
  clear hu2 kk K2
  refine (HR.out u2).mono ?_
  rintro e w3 ⟨rfl, k3⟩
  have L23 : w2.heap.size < w3.heap.size := (S2.below k3).lt
  have HQ : Hid (Bq w1 ((w3.alloc (.cells #[.int .i64 c, .int .i64 at'] 24)).alloc (.cells #[.int .i64 c, .int .i64 at'] 24)) w1.heap.size w2.heap.size w3.heap.size (w3.heap.size + 1) c1 a1 c2 a2 c at' c at') := by
    have t1 := ((S1.below k3).alloc #[.int .i64 c, .int .i64 at'] 24).alloc #[.int .i64 c, .int .i64 at'] 24
    have t2 := ((S2.below k3).alloc #[.int .i64 c, .int .i64 at'] 24).alloc #[.int .i64 c, .int .i64 at'] 24
    have t3 := (Sv.new c at' w3).alloc #[.int .i64 c, .int .i64 at'] 24
    have t4 := Sv.new c at' (w3.alloc (.cells #[.int .i64 c, .int .i64 at'] 24))
    rw [World.size_alloc] at t4
    have kk := K3.trans (k3.mono K3.size)
    exact ⟨t1, t2, t3, t4, by omega, by omega, by omega, by omega, by omega, by omega, by omega, (kk.alloc kk.size _).alloc (by simp; omega) _⟩
  clear S1 S2 K3 k3 HR
  have hu3 : ((w3.alloc (.cells #[.int .i64 c, .int .i64 at'] 24)).alloc (.cells #[.int .i64 c, .int .i64 at'] 24)).heap.size = w3.heap.size + 2 := by simp
  rcases hgood with ⟨rfl, rfl, P, K, hg⟩ | ⟨hc0, rfl, hcb⟩
  · have HG : Hid (Pg p k M P K) := hg
    obtain rfl := hg.p
    obtain rfl := hg.k
    have hP2 := hg.p2
    have hP6 := hg.p6
    have hK1 := hg.k1
    have hK6 := hg.k6
    obtain ⟨N, hN⟩ : ∃ N, N = P ^ K := ⟨_, rfl⟩
    have HN : Hid (N = P ^ K) := hN
    have hMN : M = (N : Int) := by rw [hN]; exact hg.m
    subst hMN
    have hN18 : N ≤ 1000000000000000000 := by rw [hN]; exact hg.m18
    have hPN : P ≤ N := by rw [hN]; exact Nat.le_self_pow (by omega) P
    have hP0 : ((P : Int) == 0) = false := beq_eq_false_iff_ne.2 (by omega)
    have hD2 : (Dg P a b c1 a1 ∧ c1 ≠ 0 ∧ va = none ∧ vn = 0 ∧ vc = 0) ∨ (Dg P a b 0 0 ∧ c1 = 0 ∧ a1 = 0 ∧ ∃ X : Nat, X < N ∧ IS w1 (.slice va vn vc) (dgs X P K) ∧ (b * X) % (N : Int) = a % (N : Int)) := by
      rcases HDi.out with ⟨_, h, M', hp⟩ | ⟨M', P', K', hg', h⟩
      · exact absurd (hp.uniq HG.out.pf).2.1 h
      · obtain ⟨rfl, rfl, rfl⟩ := HG.out.uniq hg'
        rcases h with ⟨h1, h2, h3⟩ | ⟨h1, h2, h3, X, h4, h5, h6⟩
        · simp only [Value.slice.injEq] at h1
          exact .inl ⟨h3, h2, h1⟩
        · exact .inr ⟨h1, h2, h3, X, by rw [hN]; exact h4, h5, h6⟩
    have hT2 : ((a < 0 ∨ (P : Int) ≤ a) ∧ x = 0 ∧ c2 = 3 ∧ a2 = 2) ∨ (0 ≤ a ∧ a < (P : Int) ∧ c2 = 0 ∧ a2 = 0 ∧ ∃ X : Nat, x = X ∧ X < N ∧ (X % P : Nat) = a ∧ X ^ P % N = X) := by
      rcases HTe.out with ⟨_, h, M', hp⟩ | ⟨M', P', K', hg', h⟩
      · exact absurd (hp.uniq HG.out.pf).2.1 h
      · obtain ⟨rfl, rfl, rfl⟩ := HG.out.uniq hg'
        rw [hN]; exact h
    clear hN hg HDi HTe
    have hrem : (b.tmod (P : Int) == 0) = (b % (P : Int) == 0) := by
      rw [Bool.eq_iff_iff]
      simp only [beq_iff_eq]
      exact ⟨fun h => Int.emod_eq_zero_of_dvd (Int.dvd_of_tmod_eq_zero h), fun h => Int.tmod_eq_zero_of_dvd (Int.dvd_of_emod_eq_zero h)⟩
    cases hna : numB a
    · have hno : a < 0 ∨ (P : Int) ≤ a := by simp [numB] at hna; omega
      obtain ⟨rfl, rfl, rfl, rfl, rfl⟩ : c1 = 3 ∧ a1 = 2 ∧ va = none ∧ vn = 0 ∧ vc = 0 := by
        rcases hD2 with ⟨h, h1, h2⟩ | ⟨h, _⟩
        · rcases h with ⟨_, h3, h4⟩ | ⟨h3, _⟩
          · exact ⟨h3, h4, h2⟩
          · rw [hna] at h3; cases h3
        · rcases h with ⟨_, h3, _⟩ | ⟨h3, _⟩
          · omega
          · rw [hna] at h3; cases h3
      obtain ⟨_, rfl, rfl, rfl⟩ : (a < 0 ∨ (P : Int) ≤ a) ∧ x = 0 ∧ c2 = 3 ∧ a2 = 2 := by
        rcases hT2 with h | h
        · exact h
        · omega
      clear hD2 hT2 hrem
      go_wp2_with fail
      generalize hV1 : ((w3.alloc (.cells #[.int .i64 0, .int .i64 0] 24)).alloc (.cells #[.int .i64 0, .int .i64 0] 24)) = V1 at HQ hu3 ⊢
      clear hV1
      have x0 := HQ.out.s1.c0
      have x1 := HQ.out.s1.c1
      have x2 := HQ.out.s2.c0
      have x3 := HQ.out.s2.c1
      have x4 := HQ.out.s3.c0
      have x5 := HQ.out.s3.c1
      have x6 := HQ.out.s4.c0
      have x7 := HQ.out.s4.c1
      have x8 := HQ.out.s3.f0
      have x9 := HQ.out.s3.f1
      have x10 := HQ.out.s4.f0
      have x11 := HQ.out.s4.f1
      refine (number_any a _).mono ?_
      rw [hna]
      rintro e w' ⟨rfl, hw'⟩
      rw [hw']
      clear hw' w'
      go_wp2_with fail
      refine (F_any 3 2 _).mono ?_
      rintro e V2 ⟨rfl, kV⟩
      have H2 : Hid (Bq w1 V2 w1.heap.size w2.heap.size w3.heap.size (w3.heap.size + 1) (3) (2) (3) (2) (0) (0) (0) (0)) := HQ.out.below kV
      clear kV
      clear x0 x1 x2 x3 x4 x5 x6 x7 x8 x9 x10 x11
      have x0 := H2.out.s1.c0
      have x1 := H2.out.s1.c1
      have x2 := H2.out.s2.c0
      have x3 := H2.out.s2.c1
      have x4 := H2.out.s3.c0
      have x5 := H2.out.s3.c1
      have x6 := H2.out.s4.c0
      have x7 := H2.out.s4.c1
      have x8 := H2.out.s3.f0
      have x9 := H2.out.s3.f1
      have x10 := H2.out.s4.f0
      have x11 := H2.out.s4.f1
      by_cases hneg : a < 0
      · have hbn : decide (a < 0) = true := decide_eq_true hneg
        clear hno hneg hna
        go_wp2_with fail
        have hq := H2.out.set3 3 2
        generalize hN : ((V2.setCell ⟨w3.heap.size, 0, none⟩ (.int .i64 3)).setCell ⟨w3.heap.size, 1, none⟩ (.int .i64 2)) = V3 at hq ⊢
        clear hN
        have H3 : Hid (Bq w1 V3 w1.heap.size w2.heap.size w3.heap.size (w3.heap.size + 1) (3) (2) (3) (2) (3) (2) (0) (0)) := hq
        clear hq
        clear x0 x1 x2 x3 x4 x5 x6 x7 x8 x9 x10 x11
        have x0 := H3.out.s1.c0
        have x1 := H3.out.s1.c1
        have x2 := H3.out.s2.c0
        have x3 := H3.out.s2.c1
        have x4 := H3.out.s3.c0
        have x5 := H3.out.s3.c1
        have x6 := H3.out.s4.c0
        have x7 := H3.out.s4.c1
        have x8 := H3.out.s3.f0
        have x9 := H3.out.s3.f1
        have x10 := H3.out.s4.f0
        have x11 := H3.out.s4.f1
        refine (F_any 3 2 _).mono ?_
        rintro e V4 ⟨rfl, kV⟩
        have H4 : Hid (Bq w1 V4 w1.heap.size w2.heap.size w3.heap.size (w3.heap.size + 1) (3) (2) (3) (2) (3) (2) (0) (0)) := H3.out.below kV
        clear kV
        clear x0 x1 x2 x3 x4 x5 x6 x7 x8 x9 x10 x11
        have x0 := H4.out.s1.c0
        have x1 := H4.out.s1.c1
        have x2 := H4.out.s2.c0
        have x3 := H4.out.s2.c1
        have x4 := H4.out.s3.c0
        have x5 := H4.out.s3.c1
        have x6 := H4.out.s4.c0
        have x7 := H4.out.s4.c1
        have x8 := H4.out.s3.f0
        have x9 := H4.out.s3.f1
        have x10 := H4.out.s4.f0
        have x11 := H4.out.s4.f1
        go_wp2_with fail
        have hq := H4.out.set4 3 2
        generalize hN : ((V4.setCell ⟨w3.heap.size + 1, 0, none⟩ (.int .i64 3)).setCell ⟨w3.heap.size + 1, 1, none⟩ (.int .i64 2)) = V5 at hq ⊢
        clear hN
        have H5 : Hid (Bq w1 V5 w1.heap.size w2.heap.size w3.heap.size (w3.heap.size + 1) (3) (2) (3) (2) (3) (2) (3) (2)) := hq
        clear hq
        clear x0 x1 x2 x3 x4 x5 x6 x7 x8 x9 x10 x11
        have x0 := H5.out.s1.c0
        have x1 := H5.out.s1.c1
        have x2 := H5.out.s2.c0
        have x3 := H5.out.s2.c1
        have x4 := H5.out.s3.c0
        have x5 := H5.out.s3.c1
        have x6 := H5.out.s4.c0
        have x7 := H5.out.s4.c1
        have x8 := H5.out.s3.f0
        have x9 := H5.out.s3.f1
        have x10 := H5.out.s4.f0
        have x11 := H5.out.s4.f1
        refine (HBg.out _ (HT1.out.below H5.out.k)).mono ?_
        rintro e V6 ⟨rfl, kV⟩
        have H6 : Hid (Bq w1 V6 w1.heap.size w2.heap.size w3.heap.size (w3.heap.size + 1) (3) (2) (3) (2) (3) (2) (3) (2)) := H5.out.below kV
        clear kV
        clear x0 x1 x2 x3 x4 x5 x6 x7 x8 x9 x10 x11
        have x0 := H6.out.s1.c0
        have x1 := H6.out.s1.c1
        have x2 := H6.out.s2.c0
        have x3 := H6.out.s2.c1
        have x4 := H6.out.s3.c0
        have x5 := H6.out.s3.c1
        have x6 := H6.out.s4.c0
        have x7 := H6.out.s4.c1
        have x8 := H6.out.s3.f0
        have x9 := H6.out.s3.f1
        have x10 := H6.out.s4.f0
        have x11 := H6.out.s4.f1
        go_wp2
        go_ret
        exact ⟨rfl, HK1.out.trans (H6.out.k.mono HK1.out.size)⟩
      · have hbn : decide (a < 0) = false := decide_eq_false hneg
        have hbn2 : decide ((P : Int) ≤ a) = true := decide_eq_true (by omega)
        clear hno hneg hna
        go_wp2_with fail
        have hq := H2.out.set3 3 2
        generalize hN : ((V2.setCell ⟨w3.heap.size, 0, none⟩ (.int .i64 3)).setCell ⟨w3.heap.size, 1, none⟩ (.int .i64 2)) = V3 at hq ⊢
        clear hN
        have H3 : Hid (Bq w1 V3 w1.heap.size w2.heap.size w3.heap.size (w3.heap.size + 1) (3) (2) (3) (2) (3) (2) (0) (0)) := hq
        clear hq
        clear x0 x1 x2 x3 x4 x5 x6 x7 x8 x9 x10 x11
        have x0 := H3.out.s1.c0
        have x1 := H3.out.s1.c1
        have x2 := H3.out.s2.c0
        have x3 := H3.out.s2.c1
        have x4 := H3.out.s3.c0
        have x5 := H3.out.s3.c1
        have x6 := H3.out.s4.c0
        have x7 := H3.out.s4.c1
        have x8 := H3.out.s3.f0
        have x9 := H3.out.s3.f1
        have x10 := H3.out.s4.f0
        have x11 := H3.out.s4.f1
        refine (F_any 3 2 _).mono ?_
        rintro e V4 ⟨rfl, kV⟩
        have H4 : Hid (Bq w1 V4 w1.heap.size w2.heap.size w3.heap.size (w3.heap.size + 1) (3) (2) (3) (2) (3) (2) (0) (0)) := H3.out.below kV
        clear kV
        clear x0 x1 x2 x3 x4 x5 x6 x7 x8 x9 x10 x11
        have x0 := H4.out.s1.c0
        have x1 := H4.out.s1.c1
        have x2 := H4.out.s2.c0
        have x3 := H4.out.s2.c1
        have x4 := H4.out.s3.c0
        have x5 := H4.out.s3.c1
        have x6 := H4.out.s4.c0
        have x7 := H4.out.s4.c1
        have x8 := H4.out.s3.f0
        have x9 := H4.out.s3.f1
        have x10 := H4.out.s4.f0
        have x11 := H4.out.s4.f1
        go_wp2_with fail
        have hq := H4.out.set4 3 2
        generalize hN : ((V4.setCell ⟨w3.heap.size + 1, 0, none⟩ (.int .i64 3)).setCell ⟨w3.heap.size + 1, 1, none⟩ (.int .i64 2)) = V5 at hq ⊢
        clear hN
        have H5 : Hid (Bq w1 V5 w1.heap.size w2.heap.size w3.heap.size (w3.heap.size + 1) (3) (2) (3) (2) (3) (2) (3) (2)) := hq
        clear hq
        clear x0 x1 x2 x3 x4 x5 x6 x7 x8 x9 x10 x11
        have x0 := H5.out.s1.c0
        have x1 := H5.out.s1.c1
        have x2 := H5.out.s2.c0
        have x3 := H5.out.s2.c1
        have x4 := H5.out.s3.c0
        have x5 := H5.out.s3.c1
        have x6 := H5.out.s4.c0
        have x7 := H5.out.s4.c1
        have x8 := H5.out.s3.f0
        have x9 := H5.out.s3.f1
        have x10 := H5.out.s4.f0
        have x11 := H5.out.s4.f1
        refine (HBg.out _ (HT1.out.below H5.out.k)).mono ?_
        rintro e V6 ⟨rfl, kV⟩
        have H6 : Hid (Bq w1 V6 w1.heap.size w2.heap.size w3.heap.size (w3.heap.size + 1) (3) (2) (3) (2) (3) (2) (3) (2)) := H5.out.below kV
        clear kV
        clear x0 x1 x2 x3 x4 x5 x6 x7 x8 x9 x10 x11
        have x0 := H6.out.s1.c0
        have x1 := H6.out.s1.c1
        have x2 := H6.out.s2.c0
        have x3 := H6.out.s2.c1
        have x4 := H6.out.s3.c0
        have x5 := H6.out.s3.c1
        have x6 := H6.out.s4.c0
        have x7 := H6.out.s4.c1
        have x8 := H6.out.s3.f0
        have x9 := H6.out.s3.f1
        have x10 := H6.out.s4.f0
        have x11 := H6.out.s4.f1
        go_wp2
        go_ret
        exact ⟨rfl, HK1.out.trans (H6.out.k.mono HK1.out.size)⟩
    · have ha18 := num_abs hna
      cases hnb : numB b
      · obtain ⟨rfl, rfl, rfl, rfl, rfl⟩ : c1 = 3 ∧ a1 = 3 ∧ va = none ∧ vn = 0 ∧ vc = 0 := by
          rcases hD2 with ⟨h, h1, h2⟩ | ⟨h, _⟩
          · rcases h with ⟨h3, _⟩ | ⟨_, ⟨_, h3, h4⟩ | ⟨h3, _⟩⟩
            · rw [hna] at h3; cases h3
            · exact ⟨h3, h4, h2⟩
            · rw [hnb] at h3; cases h3
          · rcases h with ⟨h3, _⟩ | ⟨_, ⟨_, h3, h4⟩ | ⟨h3, _⟩⟩
            · rw [hna] at h3; cases h3
            · omega
            · rw [hnb] at h3; cases h3
        clear hD2 hrem
        rcases hT2 with ⟨hno, rfl, rfl, rfl⟩ | ⟨ht0, ht1, rfl, rfl, X2, rfl, hX1, hX2, hX3⟩
        · by_cases hneg : a < 0
          · have hbn : decide (a < 0) = true := decide_eq_true hneg
            clear hno hneg
            go_wp2_with fail
            generalize hV1 : ((w3.alloc (.cells #[.int .i64 0, .int .i64 0] 24)).alloc (.cells #[.int .i64 0, .int .i64 0] 24)) = V1 at HQ hu3 ⊢
            clear hV1
            have x0 := HQ.out.s1.c0
            have x1 := HQ.out.s1.c1
            have x2 := HQ.out.s2.c0
            have x3 := HQ.out.s2.c1
            have x4 := HQ.out.s3.c0
            have x5 := HQ.out.s3.c1
            have x6 := HQ.out.s4.c0
            have x7 := HQ.out.s4.c1
            have x8 := HQ.out.s3.f0
            have x9 := HQ.out.s3.f1
            have x10 := HQ.out.s4.f0
            have x11 := HQ.out.s4.f1
            refine (number_any a _).mono ?_
            rw [hna]
            rintro e w' ⟨rfl, hw'⟩
            rw [hw']
            clear hw' w'
            go_wp2_with fail
            refine (number_any b _).mono ?_
            rw [hnb]
            rintro e w' ⟨rfl, hw'⟩
            rw [hw']
            clear hw' w'
            go_wp2_with fail
            refine (F_any 3 3 _).mono ?_
            rintro e V7 ⟨rfl, kV⟩
            have H7 : Hid (Bq w1 V7 w1.heap.size w2.heap.size w3.heap.size (w3.heap.size + 1) (3) (3) (3) (2) (0) (0) (0) (0)) := HQ.out.below kV
            clear kV
            clear x0 x1 x2 x3 x4 x5 x6 x7 x8 x9 x10 x11
            have x0 := H7.out.s1.c0
            have x1 := H7.out.s1.c1
            have x2 := H7.out.s2.c0
            have x3 := H7.out.s2.c1
            have x4 := H7.out.s3.c0
            have x5 := H7.out.s3.c1
            have x6 := H7.out.s4.c0
            have x7 := H7.out.s4.c1
            have x8 := H7.out.s3.f0
            have x9 := H7.out.s3.f1
            have x10 := H7.out.s4.f0
            have x11 := H7.out.s4.f1
            go_wp2_with fail
            have hq := H7.out.set3 3 3
            generalize hN : ((V7.setCell ⟨w3.heap.size, 0, none⟩ (.int .i64 3)).setCell ⟨w3.heap.size, 1, none⟩ (.int .i64 3)) = V8 at hq ⊢
            clear hN
            have H8 : Hid (Bq w1 V8 w1.heap.size w2.heap.size w3.heap.size (w3.heap.size + 1) (3) (3) (3) (2) (3) (3) (0) (0)) := hq
            clear hq
            clear x0 x1 x2 x3 x4 x5 x6 x7 x8 x9 x10 x11
            have x0 := H8.out.s1.c0
            have x1 := H8.out.s1.c1
            have x2 := H8.out.s2.c0
            have x3 := H8.out.s2.c1
            have x4 := H8.out.s3.c0
            have x5 := H8.out.s3.c1
            have x6 := H8.out.s4.c0
            have x7 := H8.out.s4.c1
            have x8 := H8.out.s3.f0
            have x9 := H8.out.s3.f1
            have x10 := H8.out.s4.f0
            have x11 := H8.out.s4.f1
            refine (F_any 3 2 _).mono ?_
            rintro e V9 ⟨rfl, kV⟩
            have H9 : Hid (Bq w1 V9 w1.heap.size w2.heap.size w3.heap.size (w3.heap.size + 1) (3) (3) (3) (2) (3) (3) (0) (0)) := H8.out.below kV
            clear kV
            clear x0 x1 x2 x3 x4 x5 x6 x7 x8 x9 x10 x11
            have x0 := H9.out.s1.c0
            have x1 := H9.out.s1.c1
            have x2 := H9.out.s2.c0
            have x3 := H9.out.s2.c1
            have x4 := H9.out.s3.c0
            have x5 := H9.out.s3.c1
            have x6 := H9.out.s4.c0
            have x7 := H9.out.s4.c1
            have x8 := H9.out.s3.f0
            have x9 := H9.out.s3.f1
            have x10 := H9.out.s4.f0
            have x11 := H9.out.s4.f1
            go_wp2_with fail
            have hq := H9.out.set4 3 2
            generalize hN : ((V9.setCell ⟨w3.heap.size + 1, 0, none⟩ (.int .i64 3)).setCell ⟨w3.heap.size + 1, 1, none⟩ (.int .i64 2)) = V10 at hq ⊢
            clear hN
            have H10 : Hid (Bq w1 V10 w1.heap.size w2.heap.size w3.heap.size (w3.heap.size + 1) (3) (3) (3) (2) (3) (3) (3) (2)) := hq
            clear hq
            clear x0 x1 x2 x3 x4 x5 x6 x7 x8 x9 x10 x11
            have x0 := H10.out.s1.c0
            have x1 := H10.out.s1.c1
            have x2 := H10.out.s2.c0
            have x3 := H10.out.s2.c1
            have x4 := H10.out.s3.c0
            have x5 := H10.out.s3.c1
            have x6 := H10.out.s4.c0
            have x7 := H10.out.s4.c1
            have x8 := H10.out.s3.f0
            have x9 := H10.out.s3.f1
            have x10 := H10.out.s4.f0
            have x11 := H10.out.s4.f1
            refine (HBg.out _ (HT1.out.below H10.out.k)).mono ?_
            rintro e V11 ⟨rfl, kV⟩
            have H11 : Hid (Bq w1 V11 w1.heap.size w2.heap.size w3.heap.size (w3.heap.size + 1) (3) (3) (3) (2) (3) (3) (3) (2)) := H10.out.below kV
            clear kV
            clear x0 x1 x2 x3 x4 x5 x6 x7 x8 x9 x10 x11
            have x0 := H11.out.s1.c0
            have x1 := H11.out.s1.c1
            have x2 := H11.out.s2.c0
            have x3 := H11.out.s2.c1
            have x4 := H11.out.s3.c0
            have x5 := H11.out.s3.c1
            have x6 := H11.out.s4.c0
            have x7 := H11.out.s4.c1
            have x8 := H11.out.s3.f0
            have x9 := H11.out.s3.f1
            have x10 := H11.out.s4.f0
            have x11 := H11.out.s4.f1
            go_wp2
            go_ret
            exact ⟨rfl, HK1.out.trans (H11.out.k.mono HK1.out.size)⟩
          · have hbn : decide (a < 0) = false := decide_eq_false hneg
            have hbn2 : decide ((P : Int) ≤ a) = true := decide_eq_true (by omega)
            clear hno hneg
            go_wp2_with fail
            generalize hV1 : ((w3.alloc (.cells #[.int .i64 0, .int .i64 0] 24)).alloc (.cells #[.int .i64 0, .int .i64 0] 24)) = V1 at HQ hu3 ⊢
            clear hV1
            have x0 := HQ.out.s1.c0
            have x1 := HQ.out.s1.c1
            have x2 := HQ.out.s2.c0
            have x3 := HQ.out.s2.c1
            have x4 := HQ.out.s3.c0
            have x5 := HQ.out.s3.c1
            have x6 := HQ.out.s4.c0
            have x7 := HQ.out.s4.c1
            have x8 := HQ.out.s3.f0
            have x9 := HQ.out.s3.f1
            have x10 := HQ.out.s4.f0
            have x11 := HQ.out.s4.f1
            refine (number_any a _).mono ?_
            rw [hna]
            rintro e w' ⟨rfl, hw'⟩
            rw [hw']
            clear hw' w'
            go_wp2_with fail
            refine (number_any b _).mono ?_
            rw [hnb]
            rintro e w' ⟨rfl, hw'⟩
            rw [hw']
            clear hw' w'
            go_wp2_with fail
            refine (F_any 3 3 _).mono ?_
            rintro e V7 ⟨rfl, kV⟩
            have H7 : Hid (Bq w1 V7 w1.heap.size w2.heap.size w3.heap.size (w3.heap.size + 1) (3) (3) (3) (2) (0) (0) (0) (0)) := HQ.out.below kV
            clear kV
            clear x0 x1 x2 x3 x4 x5 x6 x7 x8 x9 x10 x11
            have x0 := H7.out.s1.c0
            have x1 := H7.out.s1.c1
            have x2 := H7.out.s2.c0
            have x3 := H7.out.s2.c1
            have x4 := H7.out.s3.c0
            have x5 := H7.out.s3.c1
            have x6 := H7.out.s4.c0
            have x7 := H7.out.s4.c1
            have x8 := H7.out.s3.f0
            have x9 := H7.out.s3.f1
            have x10 := H7.out.s4.f0
            have x11 := H7.out.s4.f1
            go_wp2_with fail
            have hq := H7.out.set3 3 3
            generalize hN : ((V7.setCell ⟨w3.heap.size, 0, none⟩ (.int .i64 3)).setCell ⟨w3.heap.size, 1, none⟩ (.int .i64 3)) = V8 at hq ⊢
            clear hN
            have H8 : Hid (Bq w1 V8 w1.heap.size w2.heap.size w3.heap.size (w3.heap.size + 1) (3) (3) (3) (2) (3) (3) (0) (0)) := hq
            clear hq
            clear x0 x1 x2 x3 x4 x5 x6 x7 x8 x9 x10 x11
            have x0 := H8.out.s1.c0
            have x1 := H8.out.s1.c1
            have x2 := H8.out.s2.c0
            have x3 := H8.out.s2.c1
            have x4 := H8.out.s3.c0
            have x5 := H8.out.s3.c1
            have x6 := H8.out.s4.c0
            have x7 := H8.out.s4.c1
            have x8 := H8.out.s3.f0
            have x9 := H8.out.s3.f1
            have x10 := H8.out.s4.f0
            have x11 := H8.out.s4.f1
            refine (F_any 3 2 _).mono ?_
            rintro e V9 ⟨rfl, kV⟩
            have H9 : Hid (Bq w1 V9 w1.heap.size w2.heap.size w3.heap.size (w3.heap.size + 1) (3) (3) (3) (2) (3) (3) (0) (0)) := H8.out.below kV
            clear kV
            clear x0 x1 x2 x3 x4 x5 x6 x7 x8 x9 x10 x11
            have x0 := H9.out.s1.c0
            have x1 := H9.out.s1.c1
            have x2 := H9.out.s2.c0
            have x3 := H9.out.s2.c1
            have x4 := H9.out.s3.c0
            have x5 := H9.out.s3.c1
            have x6 := H9.out.s4.c0
            have x7 := H9.out.s4.c1
            have x8 := H9.out.s3.f0
            have x9 := H9.out.s3.f1
            have x10 := H9.out.s4.f0
            have x11 := H9.out.s4.f1
            go_wp2_with fail
            have hq := H9.out.set4 3 2
            generalize hN : ((V9.setCell ⟨w3.heap.size + 1, 0, none⟩ (.int .i64 3)).setCell ⟨w3.heap.size + 1, 1, none⟩ (.int .i64 2)) = V10 at hq ⊢
            clear hN
            have H10 : Hid (Bq w1 V10 w1.heap.size w2.heap.size w3.heap.size (w3.heap.size + 1) (3) (3) (3) (2) (3) (3) (3) (2)) := hq
            clear hq
            clear x0 x1 x2 x3 x4 x5 x6 x7 x8 x9 x10 x11
            have x0 := H10.out.s1.c0
            have x1 := H10.out.s1.c1
            have x2 := H10.out.s2.c0
            have x3 := H10.out.s2.c1
            have x4 := H10.out.s3.c0
            have x5 := H10.out.s3.c1
            have x6 := H10.out.s4.c0
            have x7 := H10.out.s4.c1
            have x8 := H10.out.s3.f0
            have x9 := H10.out.s3.f1
            have x10 := H10.out.s4.f0
            have x11 := H10.out.s4.f1
            refine (HBg.out _ (HT1.out.below H10.out.k)).mono ?_
            rintro e V11 ⟨rfl, kV⟩
            have H11 : Hid (Bq w1 V11 w1.heap.size w2.heap.size w3.heap.size (w3.heap.size + 1) (3) (3) (3) (2) (3) (3) (3) (2)) := H10.out.below kV
            clear kV
            clear x0 x1 x2 x3 x4 x5 x6 x7 x8 x9 x10 x11
            have x0 := H11.out.s1.c0
            have x1 := H11.out.s1.c1
            have x2 := H11.out.s2.c0
            have x3 := H11.out.s2.c1
            have x4 := H11.out.s3.c0
            have x5 := H11.out.s3.c1
            have x6 := H11.out.s4.c0
            have x7 := H11.out.s4.c1
            have x8 := H11.out.s3.f0
            have x9 := H11.out.s3.f1
            have x10 := H11.out.s4.f0
            have x11 := H11.out.s4.f1
            go_wp2
            go_ret
            exact ⟨rfl, HK1.out.trans (H11.out.k.mono HK1.out.size)⟩
        · have hbn : decide (a < 0) = false := decide_eq_false (by omega)
          have hbn2 : decide ((P : Int) ≤ a) = false := decide_eq_false (by omega)
          have HX2 : Hid ((X2 % P : Nat) = a ∧ X2 ^ P % N = X2) := ⟨hX2, hX3⟩
          clear hX2 hX3
          go_wp2_with fail
          generalize hV1 : ((w3.alloc (.cells #[.int .i64 0, .int .i64 0] 24)).alloc (.cells #[.int .i64 0, .int .i64 0] 24)) = V1 at HQ hu3 ⊢
          clear hV1
          have x0 := HQ.out.s1.c0
          have x1 := HQ.out.s1.c1
          have x2 := HQ.out.s2.c0
          have x3 := HQ.out.s2.c1
          have x4 := HQ.out.s3.c0
          have x5 := HQ.out.s3.c1
          have x6 := HQ.out.s4.c0
          have x7 := HQ.out.s4.c1
          have x8 := HQ.out.s3.f0
          have x9 := HQ.out.s3.f1
          have x10 := HQ.out.s4.f0
          have x11 := HQ.out.s4.f1
          refine (number_any a _).mono ?_
          rw [hna]
          rintro e w' ⟨rfl, hw'⟩
          rw [hw']
          clear hw' w'
          go_wp2_with fail
          refine (number_any b _).mono ?_
          rw [hnb]
          rintro e w' ⟨rfl, hw'⟩
          rw [hw']
          clear hw' w'
          go_wp2_with fail
          refine (F_any 3 3 _).mono ?_
          rintro e V7 ⟨rfl, kV⟩
          have H7 : Hid (Bq w1 V7 w1.heap.size w2.heap.size w3.heap.size (w3.heap.size + 1) (3) (3) (0) (0) (0) (0) (0) (0)) := HQ.out.below kV
          clear kV
          clear x0 x1 x2 x3 x4 x5 x6 x7 x8 x9 x10 x11
          have x0 := H7.out.s1.c0
          have x1 := H7.out.s1.c1
          have x2 := H7.out.s2.c0
          have x3 := H7.out.s2.c1
          have x4 := H7.out.s3.c0
          have x5 := H7.out.s3.c1
          have x6 := H7.out.s4.c0
          have x7 := H7.out.s4.c1
          have x8 := H7.out.s3.f0
          have x9 := H7.out.s3.f1
          have x10 := H7.out.s4.f0
          have x11 := H7.out.s4.f1
          go_wp2_with fail
          have hq := H7.out.set3 3 3
          generalize hN : ((V7.setCell ⟨w3.heap.size, 0, none⟩ (.int .i64 3)).setCell ⟨w3.heap.size, 1, none⟩ (.int .i64 3)) = V8 at hq ⊢
          clear hN
          have H8 : Hid (Bq w1 V8 w1.heap.size w2.heap.size w3.heap.size (w3.heap.size + 1) (3) (3) (0) (0) (3) (3) (0) (0)) := hq
          clear hq
          clear x0 x1 x2 x3 x4 x5 x6 x7 x8 x9 x10 x11
          have x0 := H8.out.s1.c0
          have x1 := H8.out.s1.c1
          have x2 := H8.out.s2.c0
          have x3 := H8.out.s2.c1
          have x4 := H8.out.s3.c0
          have x5 := H8.out.s3.c1
          have x6 := H8.out.s4.c0
          have x7 := H8.out.s4.c1
          have x8 := H8.out.s3.f0
          have x9 := H8.out.s3.f1
          have x10 := H8.out.s4.f0
          have x11 := H8.out.s4.f1
          refine (HBg.out _ (HT1.out.below H8.out.k)).mono ?_
          rintro e V9 ⟨rfl, kV⟩
          have H9 : Hid (Bq w1 V9 w1.heap.size w2.heap.size w3.heap.size (w3.heap.size + 1) (3) (3) (0) (0) (3) (3) (0) (0)) := H8.out.below kV
          clear kV
          clear x0 x1 x2 x3 x4 x5 x6 x7 x8 x9 x10 x11
          have x0 := H9.out.s1.c0
          have x1 := H9.out.s1.c1
          have x2 := H9.out.s2.c0
          have x3 := H9.out.s2.c1
          have x4 := H9.out.s3.c0
          have x5 := H9.out.s3.c1
          have x6 := H9.out.s4.c0
          have x7 := H9.out.s4.c1
          have x8 := H9.out.s3.f0
          have x9 := H9.out.s3.f1
          have x10 := H9.out.s4.f0
          have x11 := H9.out.s4.f1
          have hx0 : decide ((0 : Int) ≤ (X2 : Int)) = true := decide_eq_true (by omega)
          have hxN : decide ((X2 : Int) < (N : Int)) = true := decide_eq_true (by omega)
          have hxP : (X2 : Int) % (P : Int) = a := by have := HX2.out.1; omega
          go_wp2_with fail
          refine (refPower_any (X2 : Int) P N _ ⟨by omega, by omega⟩ (by omega) (by omega) (by omega)).mono ?_
          rw [show ((X2 : Int) % (N : Int)).toNat = X2 by rw [Int.emod_eq_of_lt (by omega) (by omega)]; simp, HX2.out.2]
          rintro e Z3 ⟨rfl, kZ⟩
          go_wp2
          go_ret
          exact ⟨rfl, HK1.out.trans ((H9.out.k.trans (kZ.mono H9.out.k.size)).mono HK1.out.size)⟩
      · have hb18 := num_abs hnb
        by_cases hbP : b % (P : Int) = 0
        · have hrb : (b.tmod (P : Int) == 0) = true := by rw [hrem, hbP]; rfl
          obtain ⟨rfl, rfl, rfl, rfl, rfl⟩ : c1 = 4 ∧ a1 = 3 ∧ va = none ∧ vn = 0 ∧ vc = 0 := by
            rcases hD2 with ⟨h, h1, h2⟩ | ⟨h, _⟩
            · rcases h with ⟨h3, _⟩ | ⟨_, ⟨h3, _⟩ | ⟨_, ⟨_, h3, h4⟩ | ⟨h3, _⟩⟩⟩
              · rw [hna] at h3; cases h3
              · rw [hnb] at h3; cases h3
              · exact ⟨h3, h4, h2⟩
              · exact absurd hbP h3
            · rcases h with ⟨h3, _⟩ | ⟨_, ⟨h3, _⟩ | ⟨_, ⟨_, h3, h4⟩ | ⟨h3, _⟩⟩⟩
              · rw [hna] at h3; cases h3
              · rw [hnb] at h3; cases h3
              · omega
              · exact absurd hbP h3
          clear hD2 hrem hbP
          rcases hT2 with ⟨hno, rfl, rfl, rfl⟩ | ⟨ht0, ht1, rfl, rfl, X2, rfl, hX1, hX2, hX3⟩
          · by_cases hneg : a < 0
            · have hbn : decide (a < 0) = true := decide_eq_true hneg
              clear hno hneg
              go_wp2_with fail
              generalize hV1 : ((w3.alloc (.cells #[.int .i64 0, .int .i64 0] 24)).alloc (.cells #[.int .i64 0, .int .i64 0] 24)) = V1 at HQ hu3 ⊢
              clear hV1
              have x0 := HQ.out.s1.c0
              have x1 := HQ.out.s1.c1
              have x2 := HQ.out.s2.c0
              have x3 := HQ.out.s2.c1
              have x4 := HQ.out.s3.c0
              have x5 := HQ.out.s3.c1
              have x6 := HQ.out.s4.c0
              have x7 := HQ.out.s4.c1
              have x8 := HQ.out.s3.f0
              have x9 := HQ.out.s3.f1
              have x10 := HQ.out.s4.f0
              have x11 := HQ.out.s4.f1
              refine (number_any a _).mono ?_
              rw [hna]
              rintro e w' ⟨rfl, hw'⟩
              rw [hw']
              clear hw' w'
              go_wp2_with fail
              refine (number_any b _).mono ?_
              rw [hnb]
              rintro e w' ⟨rfl, hw'⟩
              rw [hw']
              clear hw' w'
              go_wp2_with fail
              refine (F_any 4 3 _).mono ?_
              rintro e V7 ⟨rfl, kV⟩
              have H7 : Hid (Bq w1 V7 w1.heap.size w2.heap.size w3.heap.size (w3.heap.size + 1) (4) (3) (3) (2) (0) (0) (0) (0)) := HQ.out.below kV
              clear kV
              clear x0 x1 x2 x3 x4 x5 x6 x7 x8 x9 x10 x11
              have x0 := H7.out.s1.c0
              have x1 := H7.out.s1.c1
              have x2 := H7.out.s2.c0
              have x3 := H7.out.s2.c1
              have x4 := H7.out.s3.c0
              have x5 := H7.out.s3.c1
              have x6 := H7.out.s4.c0
              have x7 := H7.out.s4.c1
              have x8 := H7.out.s3.f0
              have x9 := H7.out.s3.f1
              have x10 := H7.out.s4.f0
              have x11 := H7.out.s4.f1
              go_wp2_with fail
              have hq := H7.out.set3 4 3
              generalize hN : ((V7.setCell ⟨w3.heap.size, 0, none⟩ (.int .i64 4)).setCell ⟨w3.heap.size, 1, none⟩ (.int .i64 3)) = V8 at hq ⊢
              clear hN
              have H8 : Hid (Bq w1 V8 w1.heap.size w2.heap.size w3.heap.size (w3.heap.size + 1) (4) (3) (3) (2) (4) (3) (0) (0)) := hq
              clear hq
              clear x0 x1 x2 x3 x4 x5 x6 x7 x8 x9 x10 x11
              have x0 := H8.out.s1.c0
              have x1 := H8.out.s1.c1
              have x2 := H8.out.s2.c0
              have x3 := H8.out.s2.c1
              have x4 := H8.out.s3.c0
              have x5 := H8.out.s3.c1
              have x6 := H8.out.s4.c0
              have x7 := H8.out.s4.c1
              have x8 := H8.out.s3.f0
              have x9 := H8.out.s3.f1
              have x10 := H8.out.s4.f0
              have x11 := H8.out.s4.f1
              refine (F_any 3 2 _).mono ?_
              rintro e V9 ⟨rfl, kV⟩
              have H9 : Hid (Bq w1 V9 w1.heap.size w2.heap.size w3.heap.size (w3.heap.size + 1) (4) (3) (3) (2) (4) (3) (0) (0)) := H8.out.below kV
              clear kV
              clear x0 x1 x2 x3 x4 x5 x6 x7 x8 x9 x10 x11
              have x0 := H9.out.s1.c0
              have x1 := H9.out.s1.c1
              have x2 := H9.out.s2.c0
              have x3 := H9.out.s2.c1
              have x4 := H9.out.s3.c0
              have x5 := H9.out.s3.c1
              have x6 := H9.out.s4.c0
              have x7 := H9.out.s4.c1
              have x8 := H9.out.s3.f0
              have x9 := H9.out.s3.f1
              have x10 := H9.out.s4.f0
              have x11 := H9.out.s4.f1
              go_wp2_with fail
              have hq := H9.out.set4 3 2
              generalize hN : ((V9.setCell ⟨w3.heap.size + 1, 0, none⟩ (.int .i64 3)).setCell ⟨w3.heap.size + 1, 1, none⟩ (.int .i64 2)) = V10 at hq ⊢
              clear hN
              have H10 : Hid (Bq w1 V10 w1.heap.size w2.heap.size w3.heap.size (w3.heap.size + 1) (4) (3) (3) (2) (4) (3) (3) (2)) := hq
              clear hq
              clear x0 x1 x2 x3 x4 x5 x6 x7 x8 x9 x10 x11
              have x0 := H10.out.s1.c0
              have x1 := H10.out.s1.c1
              have x2 := H10.out.s2.c0
              have x3 := H10.out.s2.c1
              have x4 := H10.out.s3.c0
              have x5 := H10.out.s3.c1
              have x6 := H10.out.s4.c0
              have x7 := H10.out.s4.c1
              have x8 := H10.out.s3.f0
              have x9 := H10.out.s3.f1
              have x10 := H10.out.s4.f0
              have x11 := H10.out.s4.f1
              refine (HBg.out _ (HT1.out.below H10.out.k)).mono ?_
              rintro e V11 ⟨rfl, kV⟩
              have H11 : Hid (Bq w1 V11 w1.heap.size w2.heap.size w3.heap.size (w3.heap.size + 1) (4) (3) (3) (2) (4) (3) (3) (2)) := H10.out.below kV
              clear kV
              clear x0 x1 x2 x3 x4 x5 x6 x7 x8 x9 x10 x11
              have x0 := H11.out.s1.c0
              have x1 := H11.out.s1.c1
              have x2 := H11.out.s2.c0
              have x3 := H11.out.s2.c1
              have x4 := H11.out.s3.c0
              have x5 := H11.out.s3.c1
              have x6 := H11.out.s4.c0
              have x7 := H11.out.s4.c1
              have x8 := H11.out.s3.f0
              have x9 := H11.out.s3.f1
              have x10 := H11.out.s4.f0
              have x11 := H11.out.s4.f1
              go_wp2
              go_ret
              exact ⟨rfl, HK1.out.trans (H11.out.k.mono HK1.out.size)⟩
            · have hbn : decide (a < 0) = false := decide_eq_false hneg
              have hbn2 : decide ((P : Int) ≤ a) = true := decide_eq_true (by omega)
              clear hno hneg
              go_wp2_with fail
              generalize hV1 : ((w3.alloc (.cells #[.int .i64 0, .int .i64 0] 24)).alloc (.cells #[.int .i64 0, .int .i64 0] 24)) = V1 at HQ hu3 ⊢
              clear hV1
              have x0 := HQ.out.s1.c0
              have x1 := HQ.out.s1.c1
              have x2 := HQ.out.s2.c0
              have x3 := HQ.out.s2.c1
              have x4 := HQ.out.s3.c0
              have x5 := HQ.out.s3.c1
              have x6 := HQ.out.s4.c0
              have x7 := HQ.out.s4.c1
              have x8 := HQ.out.s3.f0
              have x9 := HQ.out.s3.f1
              have x10 := HQ.out.s4.f0
              have x11 := HQ.out.s4.f1
              refine (number_any a _).mono ?_
              rw [hna]
              rintro e w' ⟨rfl, hw'⟩
              rw [hw']
              clear hw' w'
              go_wp2_with fail
              refine (number_any b _).mono ?_
              rw [hnb]
              rintro e w' ⟨rfl, hw'⟩
              rw [hw']
              clear hw' w'
              go_wp2_with fail
              refine (F_any 4 3 _).mono ?_
              rintro e V7 ⟨rfl, kV⟩
              have H7 : Hid (Bq w1 V7 w1.heap.size w2.heap.size w3.heap.size (w3.heap.size + 1) (4) (3) (3) (2) (0) (0) (0) (0)) := HQ.out.below kV
              clear kV
              clear x0 x1 x2 x3 x4 x5 x6 x7 x8 x9 x10 x11
              have x0 := H7.out.s1.c0
              have x1 := H7.out.s1.c1
              have x2 := H7.out.s2.c0
              have x3 := H7.out.s2.c1
              have x4 := H7.out.s3.c0
              have x5 := H7.out.s3.c1
              have x6 := H7.out.s4.c0
              have x7 := H7.out.s4.c1
              have x8 := H7.out.s3.f0
              have x9 := H7.out.s3.f1
              have x10 := H7.out.s4.f0
              have x11 := H7.out.s4.f1
              go_wp2_with fail
              have hq := H7.out.set3 4 3
              generalize hN : ((V7.setCell ⟨w3.heap.size, 0, none⟩ (.int .i64 4)).setCell ⟨w3.heap.size, 1, none⟩ (.int .i64 3)) = V8 at hq ⊢
              clear hN
              have H8 : Hid (Bq w1 V8 w1.heap.size w2.heap.size w3.heap.size (w3.heap.size + 1) (4) (3) (3) (2) (4) (3) (0) (0)) := hq
              clear hq
              clear x0 x1 x2 x3 x4 x5 x6 x7 x8 x9 x10 x11
              have x0 := H8.out.s1.c0
              have x1 := H8.out.s1.c1
              have x2 := H8.out.s2.c0
              have x3 := H8.out.s2.c1
              have x4 := H8.out.s3.c0
              have x5 := H8.out.s3.c1
              have x6 := H8.out.s4.c0
              have x7 := H8.out.s4.c1
              have x8 := H8.out.s3.f0
              have x9 := H8.out.s3.f1
              have x10 := H8.out.s4.f0
              have x11 := H8.out.s4.f1
              refine (F_any 3 2 _).mono ?_
              rintro e V9 ⟨rfl, kV⟩
              have H9 : Hid (Bq w1 V9 w1.heap.size w2.heap.size w3.heap.size (w3.heap.size + 1) (4) (3) (3) (2) (4) (3) (0) (0)) := H8.out.below kV
              clear kV
              clear x0 x1 x2 x3 x4 x5 x6 x7 x8 x9 x10 x11
              have x0 := H9.out.s1.c0
              have x1 := H9.out.s1.c1
              have x2 := H9.out.s2.c0
              have x3 := H9.out.s2.c1
              have x4 := H9.out.s3.c0
              have x5 := H9.out.s3.c1
              have x6 := H9.out.s4.c0
              have x7 := H9.out.s4.c1
              have x8 := H9.out.s3.f0
              have x9 := H9.out.s3.f1
              have x10 := H9.out.s4.f0
              have x11 := H9.out.s4.f1
              go_wp2_with fail
              have hq := H9.out.set4 3 2
              generalize hN : ((V9.setCell ⟨w3.heap.size + 1, 0, none⟩ (.int .i64 3)).setCell ⟨w3.heap.size + 1, 1, none⟩ (.int .i64 2)) = V10 at hq ⊢
              clear hN
              have H10 : Hid (Bq w1 V10 w1.heap.size w2.heap.size w3.heap.size (w3.heap.size + 1) (4) (3) (3) (2) (4) (3) (3) (2)) := hq
              clear hq
              clear x0 x1 x2 x3 x4 x5 x6 x7 x8 x9 x10 x11
              have x0 := H10.out.s1.c0
              have x1 := H10.out.s1.c1
              have x2 := H10.out.s2.c0
              have x3 := H10.out.s2.c1
              have x4 := H10.out.s3.c0
              have x5 := H10.out.s3.c1
              have x6 := H10.out.s4.c0
              have x7 := H10.out.s4.c1
              have x8 := H10.out.s3.f0
              have x9 := H10.out.s3.f1
              have x10 := H10.out.s4.f0
              have x11 := H10.out.s4.f1
              refine (HBg.out _ (HT1.out.below H10.out.k)).mono ?_
              rintro e V11 ⟨rfl, kV⟩
              have H11 : Hid (Bq w1 V11 w1.heap.size w2.heap.size w3.heap.size (w3.heap.size + 1) (4) (3) (3) (2) (4) (3) (3) (2)) := H10.out.below kV
              clear kV
              clear x0 x1 x2 x3 x4 x5 x6 x7 x8 x9 x10 x11
              have x0 := H11.out.s1.c0
              have x1 := H11.out.s1.c1
              have x2 := H11.out.s2.c0
              have x3 := H11.out.s2.c1
              have x4 := H11.out.s3.c0
              have x5 := H11.out.s3.c1
              have x6 := H11.out.s4.c0
              have x7 := H11.out.s4.c1
              have x8 := H11.out.s3.f0
              have x9 := H11.out.s3.f1
              have x10 := H11.out.s4.f0
              have x11 := H11.out.s4.f1
              go_wp2
              go_ret
              exact ⟨rfl, HK1.out.trans (H11.out.k.mono HK1.out.size)⟩
          · have hbn : decide (a < 0) = false := decide_eq_false (by omega)
            have hbn2 : decide ((P : Int) ≤ a) = false := decide_eq_false (by omega)
            have HX2 : Hid ((X2 % P : Nat) = a ∧ X2 ^ P % N = X2) := ⟨hX2, hX3⟩
            clear hX2 hX3
            go_wp2_with fail
            generalize hV1 : ((w3.alloc (.cells #[.int .i64 0, .int .i64 0] 24)).alloc (.cells #[.int .i64 0, .int .i64 0] 24)) = V1 at HQ hu3 ⊢
            clear hV1
            have x0 := HQ.out.s1.c0
            have x1 := HQ.out.s1.c1
            have x2 := HQ.out.s2.c0
            have x3 := HQ.out.s2.c1
            have x4 := HQ.out.s3.c0
            have x5 := HQ.out.s3.c1
            have x6 := HQ.out.s4.c0
            have x7 := HQ.out.s4.c1
            have x8 := HQ.out.s3.f0
            have x9 := HQ.out.s3.f1
            have x10 := HQ.out.s4.f0
            have x11 := HQ.out.s4.f1
            refine (number_any a _).mono ?_
            rw [hna]
            rintro e w' ⟨rfl, hw'⟩
            rw [hw']
            clear hw' w'
            go_wp2_with fail
            refine (number_any b _).mono ?_
            rw [hnb]
            rintro e w' ⟨rfl, hw'⟩
            rw [hw']
            clear hw' w'
            go_wp2_with fail
            refine (F_any 4 3 _).mono ?_
            rintro e V7 ⟨rfl, kV⟩
            have H7 : Hid (Bq w1 V7 w1.heap.size w2.heap.size w3.heap.size (w3.heap.size + 1) (4) (3) (0) (0) (0) (0) (0) (0)) := HQ.out.below kV
            clear kV
            clear x0 x1 x2 x3 x4 x5 x6 x7 x8 x9 x10 x11
            have x0 := H7.out.s1.c0
            have x1 := H7.out.s1.c1
            have x2 := H7.out.s2.c0
            have x3 := H7.out.s2.c1
            have x4 := H7.out.s3.c0
            have x5 := H7.out.s3.c1
            have x6 := H7.out.s4.c0
            have x7 := H7.out.s4.c1
            have x8 := H7.out.s3.f0
            have x9 := H7.out.s3.f1
            have x10 := H7.out.s4.f0
            have x11 := H7.out.s4.f1
            go_wp2_with fail
            have hq := H7.out.set3 4 3
            generalize hN : ((V7.setCell ⟨w3.heap.size, 0, none⟩ (.int .i64 4)).setCell ⟨w3.heap.size, 1, none⟩ (.int .i64 3)) = V8 at hq ⊢
            clear hN
            have H8 : Hid (Bq w1 V8 w1.heap.size w2.heap.size w3.heap.size (w3.heap.size + 1) (4) (3) (0) (0) (4) (3) (0) (0)) := hq
            clear hq
            clear x0 x1 x2 x3 x4 x5 x6 x7 x8 x9 x10 x11
            have x0 := H8.out.s1.c0
            have x1 := H8.out.s1.c1
            have x2 := H8.out.s2.c0
            have x3 := H8.out.s2.c1
            have x4 := H8.out.s3.c0
            have x5 := H8.out.s3.c1
            have x6 := H8.out.s4.c0
            have x7 := H8.out.s4.c1
            have x8 := H8.out.s3.f0
            have x9 := H8.out.s3.f1
            have x10 := H8.out.s4.f0
            have x11 := H8.out.s4.f1
            refine (HBg.out _ (HT1.out.below H8.out.k)).mono ?_
            rintro e V9 ⟨rfl, kV⟩
            have H9 : Hid (Bq w1 V9 w1.heap.size w2.heap.size w3.heap.size (w3.heap.size + 1) (4) (3) (0) (0) (4) (3) (0) (0)) := H8.out.below kV
            clear kV
            clear x0 x1 x2 x3 x4 x5 x6 x7 x8 x9 x10 x11
            have x0 := H9.out.s1.c0
            have x1 := H9.out.s1.c1
            have x2 := H9.out.s2.c0
            have x3 := H9.out.s2.c1
            have x4 := H9.out.s3.c0
            have x5 := H9.out.s3.c1
            have x6 := H9.out.s4.c0
            have x7 := H9.out.s4.c1
            have x8 := H9.out.s3.f0
            have x9 := H9.out.s3.f1
            have x10 := H9.out.s4.f0
            have x11 := H9.out.s4.f1
            have hx0 : decide ((0 : Int) ≤ (X2 : Int)) = true := decide_eq_true (by omega)
            have hxN : decide ((X2 : Int) < (N : Int)) = true := decide_eq_true (by omega)
            have hxP : (X2 : Int) % (P : Int) = a := by have := HX2.out.1; omega
            go_wp2_with fail
            refine (refPower_any (X2 : Int) P N _ ⟨by omega, by omega⟩ (by omega) (by omega) (by omega)).mono ?_
            rw [show ((X2 : Int) % (N : Int)).toNat = X2 by rw [Int.emod_eq_of_lt (by omega) (by omega)]; simp, HX2.out.2]
            rintro e Z3 ⟨rfl, kZ⟩
            go_wp2
            go_ret
            exact ⟨rfl, HK1.out.trans ((H9.out.k.trans (kZ.mono H9.out.k.size)).mono HK1.out.size)⟩
        · have hrb : (b.tmod (P : Int) == 0) = false := by rw [hrem]; exact beq_eq_false_iff_ne.2 hbP
          obtain ⟨rfl, rfl, X, hXN, hIS, hXM⟩ : c1 = 0 ∧ a1 = 0 ∧ ∃ X : Nat, X < N ∧ IS w1 (.slice va vn vc) (dgs X P K) ∧ (b * X) % (N : Int) = a % (N : Int) := by
            rcases hD2 with ⟨h, h1, h2⟩ | ⟨_, h⟩
            · exfalso
              rcases h with ⟨h3, _⟩ | ⟨_, ⟨h3, _⟩ | ⟨_, ⟨h3, _⟩ | ⟨_, h3, _⟩⟩⟩
              · rw [hna] at h3; cases h3
              · rw [hnb] at h3; cases h3
              · exact hbP h3
              · exact h1 h3
            · exact h
          have HXM : Hid ((b * X) % (N : Int) = a % (N : Int)) := hXM
          obtain ⟨aa, g, o, cap, hsl, haa, hcl, hgl⟩ := hIS
          simp only [Value.slice.injEq, dgs_len] at hsl haa hcl hgl
          obtain ⟨rfl, rfl, rfl⟩ := hsl
          obtain rfl := haa (by omega)
          have hgl := hgl (by omega)
          have HCL : Hid (∀ i, i < vn → w1.cell? ⟨g, o + i, none⟩ = some (.int .i64 ((X / P ^ i % P : Nat) : Int))) := fun i hi => by rw [hcl i hi, dgs_get X P vn hi]
          have HGL : Hid (g < w1.heap.size) := hgl
          clear hD2 hrem hbP hXM haa hcl hgl
          rcases hT2 with ⟨hno, rfl, rfl, rfl⟩ | ⟨ht0, ht1, rfl, rfl, X2, rfl, hX1, hX2, hX3⟩
          · by_cases hneg : a < 0
            · have hbn : decide (a < 0) = true := decide_eq_true hneg
              clear hno hneg
              go_wp2_with fail
              generalize hV1 : ((w3.alloc (.cells #[.int .i64 0, .int .i64 0] 24)).alloc (.cells #[.int .i64 0, .int .i64 0] 24)) = V1 at HQ hu3 ⊢
              clear hV1
              have x0 := HQ.out.s1.c0
              have x1 := HQ.out.s1.c1
              have x2 := HQ.out.s2.c0
              have x3 := HQ.out.s2.c1
              have x4 := HQ.out.s3.c0
              have x5 := HQ.out.s3.c1
              have x6 := HQ.out.s4.c0
              have x7 := HQ.out.s4.c1
              have x8 := HQ.out.s3.f0
              have x9 := HQ.out.s3.f1
              have x10 := HQ.out.s4.f0
              have x11 := HQ.out.s4.f1
              refine (number_any a _).mono ?_
              rw [hna]
              rintro e w' ⟨rfl, hw'⟩
              rw [hw']
              clear hw' w'
              go_wp2_with fail
              refine (number_any b _).mono ?_
              rw [hnb]
              rintro e w' ⟨rfl, hw'⟩
              rw [hw']
              clear hw' w'
              go_wp2_with fail
              refine (F_any 3 2 _).mono ?_
              rintro e V7 ⟨rfl, kV⟩
              have H7 : Hid (Bq w1 V7 w1.heap.size w2.heap.size w3.heap.size (w3.heap.size + 1) (0) (0) (3) (2) (0) (0) (0) (0)) := HQ.out.below kV
              clear kV
              clear x0 x1 x2 x3 x4 x5 x6 x7 x8 x9 x10 x11
              have x0 := H7.out.s1.c0
              have x1 := H7.out.s1.c1
              have x2 := H7.out.s2.c0
              have x3 := H7.out.s2.c1
              have x4 := H7.out.s3.c0
              have x5 := H7.out.s3.c1
              have x6 := H7.out.s4.c0
              have x7 := H7.out.s4.c1
              have x8 := H7.out.s3.f0
              have x9 := H7.out.s3.f1
              have x10 := H7.out.s4.f0
              have x11 := H7.out.s4.f1
              go_wp2_with fail
              have hq := H7.out.set4 3 2
              generalize hN : ((V7.setCell ⟨w3.heap.size + 1, 0, none⟩ (.int .i64 3)).setCell ⟨w3.heap.size + 1, 1, none⟩ (.int .i64 2)) = V8 at hq ⊢
              clear hN
              have H8 : Hid (Bq w1 V8 w1.heap.size w2.heap.size w3.heap.size (w3.heap.size + 1) (0) (0) (3) (2) (0) (0) (3) (2)) := hq
              clear hq
              clear x0 x1 x2 x3 x4 x5 x6 x7 x8 x9 x10 x11
              have x0 := H8.out.s1.c0
              have x1 := H8.out.s1.c1
              have x2 := H8.out.s2.c0
              have x3 := H8.out.s2.c1
              have x4 := H8.out.s3.c0
              have x5 := H8.out.s3.c1
              have x6 := H8.out.s4.c0
              have x7 := H8.out.s4.c1
              have x8 := H8.out.s3.f0
              have x9 := H8.out.s3.f1
              have x10 := H8.out.s4.f0
              have x11 := H8.out.s4.f1
              refine (HBg.out _ (HT1.out.below H8.out.k)).mono ?_
              rintro e V9 ⟨rfl, kV⟩
              have H9 : Hid (Bq w1 V9 w1.heap.size w2.heap.size w3.heap.size (w3.heap.size + 1) (0) (0) (3) (2) (0) (0) (3) (2)) := H8.out.below kV
              clear kV
              clear x0 x1 x2 x3 x4 x5 x6 x7 x8 x9 x10 x11
              have x0 := H9.out.s1.c0
              have x1 := H9.out.s1.c1
              have x2 := H9.out.s2.c0
              have x3 := H9.out.s2.c1
              have x4 := H9.out.s3.c0
              have x5 := H9.out.s3.c1
              have x6 := H9.out.s4.c0
              have x7 := H9.out.s4.c1
              have x8 := H9.out.s3.f0
              have x9 := H9.out.s3.f1
              have x10 := H9.out.s4.f0
              have x11 := H9.out.s4.f1
              go_wp2
              go_loopw [16, 17] (fun yv iv wx => ∃ i y : Nat, i ≤ vn ∧ iv = .int .i64 ((i : Int) - 1) ∧ yv = .int .i64 y ∧ y ≤ 1000000000000000000 ∧ wx = V9 ∧ Hid (y = X / P ^ i)) (fun _ iv _ => ((intOf iv) + 1).toNat)
              case atStart =>
                refine ⟨vn, 0, Nat.le_refl _, rfl, rfl, by omega, rfl, ?_⟩
                show 0 = X / P ^ vn
                rw [← HN.out, Nat.div_eq_of_lt hXN]
              case round =>
                obtain ⟨i, y, hi, rfl, rfl, hy, rfl, HY⟩ := hrel
                by_cases hi0 : 0 < i
                · obtain ⟨j, rfl⟩ : ∃ j, i = j + 1 := ⟨i - 1, by omega⟩
                  have hji : ((j + 1 : Nat) : Int) - 1 = (j : Int) := by omega
                  obtain ⟨r, hr⟩ : ∃ r, r = X / P ^ j % P := ⟨_, rfl⟩
                  have hcell : wr.cell? ⟨g, o + j, none⟩ = some (.int .i64 (r : Int)) := by rw [hr]; exact ((H9).out.k.cell (p := ⟨g, o + j, none⟩) HGL.out).trans (HCL.out j (by omega))
                  have hrP : r < P := by rw [hr]; exact Nat.mod_lt _ (by omega)
                  have hrn : decide ((r : Int) < 0) = false := decide_eq_false (by omega)
                  obtain ⟨q, hq⟩ : ∃ q, q = y * P := ⟨_, rfl⟩
                  have hqi : (y : Int) * (P : Int) = (q : Int) := by rw [hq]; simp
                  have hnew : q + r = X / P ^ j := by
                    rw [hq, HY.out, hr, Nat.pow_succ, ← Nat.div_div_eq_div_mul]
                    have := Nat.div_add_mod (X / P ^ j) P
                    rw [Nat.mul_comm]; exact this
                  have hle : X / P ^ j ≤ 1000000000000000000 := by have := Nat.div_le_self X (P ^ j); omega
                  have HNEW : Hid (q + r = X / P ^ j) := hnew
                  have hql : q + r ≤ 1000000000000000000 := by omega
                  rw [hji]
                  clear hr hq hnew hle hji hi0
                  go_wp2
                  go_roundw
                  case rel => refine ⟨j, q + r, by omega, by simp, by simp, hql, by first | rfl | simp, HNEW.out⟩
                  case measure => simp [intOf] <;> omega
                · obtain rfl : i = 0 := by omega
                  have HYX : Hid (y = X) := by
                    show y = X
                    have := HY.out
                    simpa using this
                  have hyX : y = X := HYX.out
                  subst hyX
                  have hneg1 : decide ((0 : Int) ≤ ((0 : Nat) : Int) - 1) = false := by decide
                  clear hi0 HY
                  go_wp2_with fail
                  refine (refProduct_any b (y : Int) N _ ⟨by omega, by omega⟩ ⟨by omega, by omega⟩ (by omega) (by omega)).mono ?_
                  rw [HXM.out]
                  rintro e Z1 ⟨rfl, kZ⟩
                  have HZ : Hid (Bq w1 Z1 w1.heap.size w2.heap.size w3.heap.size (w3.heap.size + 1) (0) (0) (3) (2) (0) (0) (3) (2)) := H9.out.below kZ
                  clear kZ
                  go_wp2_with fail
                  refine (refLeft_any a N _ (by omega) (by omega) (by omega)).mono ?_
                  rintro e Z2 ⟨rfl, hZ2⟩
                  rw [hZ2]
                  clear hZ2 Z2
                  clear x0 x1 x2 x3 x4 x5 x6 x7 x8 x9 x10 x11
                  have x6 := HZ.out.s4.c0
                  go_wp2
                  go_ret
                  exact ⟨rfl, HK1.out.trans (HZ.out.k.mono HK1.out.size)⟩
            · have hbn : decide (a < 0) = false := decide_eq_false hneg
              have hbn2 : decide ((P : Int) ≤ a) = true := decide_eq_true (by omega)
              clear hno hneg
              go_wp2_with fail
              generalize hV1 : ((w3.alloc (.cells #[.int .i64 0, .int .i64 0] 24)).alloc (.cells #[.int .i64 0, .int .i64 0] 24)) = V1 at HQ hu3 ⊢
              clear hV1
              have x0 := HQ.out.s1.c0
              have x1 := HQ.out.s1.c1
              have x2 := HQ.out.s2.c0
              have x3 := HQ.out.s2.c1
              have x4 := HQ.out.s3.c0
              have x5 := HQ.out.s3.c1
              have x6 := HQ.out.s4.c0
              have x7 := HQ.out.s4.c1
              have x8 := HQ.out.s3.f0
              have x9 := HQ.out.s3.f1
              have x10 := HQ.out.s4.f0
              have x11 := HQ.out.s4.f1
              refine (number_any a _).mono ?_
              rw [hna]
              rintro e w' ⟨rfl, hw'⟩
              rw [hw']
              clear hw' w'
              go_wp2_with fail
              refine (number_any b _).mono ?_
              rw [hnb]
              rintro e w' ⟨rfl, hw'⟩
              rw [hw']
              clear hw' w'
              go_wp2_with fail
              refine (F_any 3 2 _).mono ?_
              rintro e V7 ⟨rfl, kV⟩
              have H7 : Hid (Bq w1 V7 w1.heap.size w2.heap.size w3.heap.size (w3.heap.size + 1) (0) (0) (3) (2) (0) (0) (0) (0)) := HQ.out.below kV
              clear kV
              clear x0 x1 x2 x3 x4 x5 x6 x7 x8 x9 x10 x11
              have x0 := H7.out.s1.c0
              have x1 := H7.out.s1.c1
              have x2 := H7.out.s2.c0
              have x3 := H7.out.s2.c1
              have x4 := H7.out.s3.c0
              have x5 := H7.out.s3.c1
              have x6 := H7.out.s4.c0
              have x7 := H7.out.s4.c1
              have x8 := H7.out.s3.f0
              have x9 := H7.out.s3.f1
              have x10 := H7.out.s4.f0
              have x11 := H7.out.s4.f1
              go_wp2_with fail
              have hq := H7.out.set4 3 2
              generalize hN : ((V7.setCell ⟨w3.heap.size + 1, 0, none⟩ (.int .i64 3)).setCell ⟨w3.heap.size + 1, 1, none⟩ (.int .i64 2)) = V8 at hq ⊢
              clear hN
              have H8 : Hid (Bq w1 V8 w1.heap.size w2.heap.size w3.heap.size (w3.heap.size + 1) (0) (0) (3) (2) (0) (0) (3) (2)) := hq
              clear hq
              clear x0 x1 x2 x3 x4 x5 x6 x7 x8 x9 x10 x11
              have x0 := H8.out.s1.c0
              have x1 := H8.out.s1.c1
              have x2 := H8.out.s2.c0
              have x3 := H8.out.s2.c1
              have x4 := H8.out.s3.c0
              have x5 := H8.out.s3.c1
              have x6 := H8.out.s4.c0
              have x7 := H8.out.s4.c1
              have x8 := H8.out.s3.f0
              have x9 := H8.out.s3.f1
              have x10 := H8.out.s4.f0
              have x11 := H8.out.s4.f1
              refine (HBg.out _ (HT1.out.below H8.out.k)).mono ?_
              rintro e V9 ⟨rfl, kV⟩
              have H9 : Hid (Bq w1 V9 w1.heap.size w2.heap.size w3.heap.size (w3.heap.size + 1) (0) (0) (3) (2) (0) (0) (3) (2)) := H8.out.below kV
              clear kV
              clear x0 x1 x2 x3 x4 x5 x6 x7 x8 x9 x10 x11
              have x0 := H9.out.s1.c0
              have x1 := H9.out.s1.c1
              have x2 := H9.out.s2.c0
              have x3 := H9.out.s2.c1
              have x4 := H9.out.s3.c0
              have x5 := H9.out.s3.c1
              have x6 := H9.out.s4.c0
              have x7 := H9.out.s4.c1
              have x8 := H9.out.s3.f0
              have x9 := H9.out.s3.f1
              have x10 := H9.out.s4.f0
              have x11 := H9.out.s4.f1
              go_wp2
              go_loopw [16, 17] (fun yv iv wx => ∃ i y : Nat, i ≤ vn ∧ iv = .int .i64 ((i : Int) - 1) ∧ yv = .int .i64 y ∧ y ≤ 1000000000000000000 ∧ wx = V9 ∧ Hid (y = X / P ^ i)) (fun _ iv _ => ((intOf iv) + 1).toNat)
              case atStart =>
                refine ⟨vn, 0, Nat.le_refl _, rfl, rfl, by omega, rfl, ?_⟩
                show 0 = X / P ^ vn
                rw [← HN.out, Nat.div_eq_of_lt hXN]
              case round =>
                obtain ⟨i, y, hi, rfl, rfl, hy, rfl, HY⟩ := hrel
                by_cases hi0 : 0 < i
                · obtain ⟨j, rfl⟩ : ∃ j, i = j + 1 := ⟨i - 1, by omega⟩
                  have hji : ((j + 1 : Nat) : Int) - 1 = (j : Int) := by omega
                  obtain ⟨r, hr⟩ : ∃ r, r = X / P ^ j % P := ⟨_, rfl⟩
                  have hcell : wr.cell? ⟨g, o + j, none⟩ = some (.int .i64 (r : Int)) := by rw [hr]; exact ((H9).out.k.cell (p := ⟨g, o + j, none⟩) HGL.out).trans (HCL.out j (by omega))
                  have hrP : r < P := by rw [hr]; exact Nat.mod_lt _ (by omega)
                  have hrn : decide ((r : Int) < 0) = false := decide_eq_false (by omega)
                  obtain ⟨q, hq⟩ : ∃ q, q = y * P := ⟨_, rfl⟩
                  have hqi : (y : Int) * (P : Int) = (q : Int) := by rw [hq]; simp
                  have hnew : q + r = X / P ^ j := by
                    rw [hq, HY.out, hr, Nat.pow_succ, ← Nat.div_div_eq_div_mul]
                    have := Nat.div_add_mod (X / P ^ j) P
                    rw [Nat.mul_comm]; exact this
                  have hle : X / P ^ j ≤ 1000000000000000000 := by have := Nat.div_le_self X (P ^ j); omega
                  have HNEW : Hid (q + r = X / P ^ j) := hnew
                  have hql : q + r ≤ 1000000000000000000 := by omega
                  rw [hji]
                  clear hr hq hnew hle hji hi0
                  go_wp2
                  go_roundw
                  case rel => refine ⟨j, q + r, by omega, by simp, by simp, hql, by first | rfl | simp, HNEW.out⟩
                  case measure => simp [intOf] <;> omega
                · obtain rfl : i = 0 := by omega
                  have HYX : Hid (y = X) := by
                    show y = X
                    have := HY.out
                    simpa using this
                  have hyX : y = X := HYX.out
                  subst hyX
                  have hneg1 : decide ((0 : Int) ≤ ((0 : Nat) : Int) - 1) = false := by decide
                  clear hi0 HY
                  go_wp2_with fail
                  refine (refProduct_any b (y : Int) N _ ⟨by omega, by omega⟩ ⟨by omega, by omega⟩ (by omega) (by omega)).mono ?_
                  rw [HXM.out]
                  rintro e Z1 ⟨rfl, kZ⟩
                  have HZ : Hid (Bq w1 Z1 w1.heap.size w2.heap.size w3.heap.size (w3.heap.size + 1) (0) (0) (3) (2) (0) (0) (3) (2)) := H9.out.below kZ
                  clear kZ
                  go_wp2_with fail
                  refine (refLeft_any a N _ (by omega) (by omega) (by omega)).mono ?_
                  rintro e Z2 ⟨rfl, hZ2⟩
                  rw [hZ2]
                  clear hZ2 Z2
                  clear x0 x1 x2 x3 x4 x5 x6 x7 x8 x9 x10 x11
                  have x6 := HZ.out.s4.c0
                  go_wp2
                  go_ret
                  exact ⟨rfl, HK1.out.trans (HZ.out.k.mono HK1.out.size)⟩
          · have hbn : decide (a < 0) = false := decide_eq_false (by omega)
            have hbn2 : decide ((P : Int) ≤ a) = false := decide_eq_false (by omega)
            have HX2 : Hid ((X2 % P : Nat) = a ∧ X2 ^ P % N = X2) := ⟨hX2, hX3⟩
            clear hX2 hX3
            go_wp2_with fail
            generalize hV1 : ((w3.alloc (.cells #[.int .i64 0, .int .i64 0] 24)).alloc (.cells #[.int .i64 0, .int .i64 0] 24)) = V1 at HQ hu3 ⊢
            clear hV1
            have x0 := HQ.out.s1.c0
            have x1 := HQ.out.s1.c1
            have x2 := HQ.out.s2.c0
            have x3 := HQ.out.s2.c1
            have x4 := HQ.out.s3.c0
            have x5 := HQ.out.s3.c1
            have x6 := HQ.out.s4.c0
            have x7 := HQ.out.s4.c1
            have x8 := HQ.out.s3.f0
            have x9 := HQ.out.s3.f1
            have x10 := HQ.out.s4.f0
            have x11 := HQ.out.s4.f1
            refine (number_any a _).mono ?_
            rw [hna]
            rintro e w' ⟨rfl, hw'⟩
            rw [hw']
            clear hw' w'
            go_wp2_with fail
            refine (number_any b _).mono ?_
            rw [hnb]
            rintro e w' ⟨rfl, hw'⟩
            rw [hw']
            clear hw' w'
            go_wp2_with fail
            refine (HBg.out _ (HT1.out.below HQ.out.k)).mono ?_
            rintro e V7 ⟨rfl, kV⟩
            have H7 : Hid (Bq w1 V7 w1.heap.size w2.heap.size w3.heap.size (w3.heap.size + 1) (0) (0) (0) (0) (0) (0) (0) (0)) := HQ.out.below kV
            clear kV
            clear x0 x1 x2 x3 x4 x5 x6 x7 x8 x9 x10 x11
            have x0 := H7.out.s1.c0
            have x1 := H7.out.s1.c1
            have x2 := H7.out.s2.c0
            have x3 := H7.out.s2.c1
            have x4 := H7.out.s3.c0
            have x5 := H7.out.s3.c1
            have x6 := H7.out.s4.c0
            have x7 := H7.out.s4.c1
            have x8 := H7.out.s3.f0
            have x9 := H7.out.s3.f1
            have x10 := H7.out.s4.f0
            have x11 := H7.out.s4.f1
            go_wp2
            go_loopw [16, 17] (fun yv iv wx => ∃ i y : Nat, i ≤ vn ∧ iv = .int .i64 ((i : Int) - 1) ∧ yv = .int .i64 y ∧ y ≤ 1000000000000000000 ∧ wx = V7 ∧ Hid (y = X / P ^ i)) (fun _ iv _ => ((intOf iv) + 1).toNat)
            case atStart =>
              refine ⟨vn, 0, Nat.le_refl _, rfl, rfl, by omega, rfl, ?_⟩
              show 0 = X / P ^ vn
              rw [← HN.out, Nat.div_eq_of_lt hXN]
            case round =>
              obtain ⟨i, y, hi, rfl, rfl, hy, rfl, HY⟩ := hrel
              by_cases hi0 : 0 < i
              · obtain ⟨j, rfl⟩ : ∃ j, i = j + 1 := ⟨i - 1, by omega⟩
                have hji : ((j + 1 : Nat) : Int) - 1 = (j : Int) := by omega
                obtain ⟨r, hr⟩ : ∃ r, r = X / P ^ j % P := ⟨_, rfl⟩
                have hcell : wr.cell? ⟨g, o + j, none⟩ = some (.int .i64 (r : Int)) := by rw [hr]; exact ((H7).out.k.cell (p := ⟨g, o + j, none⟩) HGL.out).trans (HCL.out j (by omega))
                have hrP : r < P := by rw [hr]; exact Nat.mod_lt _ (by omega)
                have hrn : decide ((r : Int) < 0) = false := decide_eq_false (by omega)
                obtain ⟨q, hq⟩ : ∃ q, q = y * P := ⟨_, rfl⟩
                have hqi : (y : Int) * (P : Int) = (q : Int) := by rw [hq]; simp
                have hnew : q + r = X / P ^ j := by
                  rw [hq, HY.out, hr, Nat.pow_succ, ← Nat.div_div_eq_div_mul]
                  have := Nat.div_add_mod (X / P ^ j) P
                  rw [Nat.mul_comm]; exact this
                have hle : X / P ^ j ≤ 1000000000000000000 := by have := Nat.div_le_self X (P ^ j); omega
                have HNEW : Hid (q + r = X / P ^ j) := hnew
                have hql : q + r ≤ 1000000000000000000 := by omega
                rw [hji]
                clear hr hq hnew hle hji hi0
                go_wp2
                go_roundw
                case rel => refine ⟨j, q + r, by omega, by simp, by simp, hql, by first | rfl | simp, HNEW.out⟩
                case measure => simp [intOf] <;> omega
              · obtain rfl : i = 0 := by omega
                have HYX : Hid (y = X) := by
                  show y = X
                  have := HY.out
                  simpa using this
                have hyX : y = X := HYX.out
                subst hyX
                have hneg1 : decide ((0 : Int) ≤ ((0 : Nat) : Int) - 1) = false := by decide
                clear hi0 HY
                go_wp2_with fail
                refine (refProduct_any b (y : Int) N _ ⟨by omega, by omega⟩ ⟨by omega, by omega⟩ (by omega) (by omega)).mono ?_
                rw [HXM.out]
                rintro e Z1 ⟨rfl, kZ⟩
                have HZ : Hid (Bq w1 Z1 w1.heap.size w2.heap.size w3.heap.size (w3.heap.size + 1) (0) (0) (0) (0) (0) (0) (0) (0)) := H7.out.below kZ
                clear kZ
                go_wp2_with fail
                refine (refLeft_any a N _ (by omega) (by omega) (by omega)).mono ?_
                rintro e Z2 ⟨rfl, hZ2⟩
                rw [hZ2]
                clear hZ2 Z2
                clear x0 x1 x2 x3 x4 x5 x6 x7 x8 x9 x10 x11
                have x6 := HZ.out.s4.c0
                have hx0 : decide ((0 : Int) ≤ (X2 : Int)) = true := decide_eq_true (by omega)
                have hxN : decide ((X2 : Int) < (N : Int)) = true := decide_eq_true (by omega)
                have hxP : (X2 : Int) % (P : Int) = a := by have := HX2.out.1; omega
                go_wp2_with fail
                refine (refPower_any (X2 : Int) P N _ ⟨by omega, by omega⟩ (by omega) (by omega) (by omega)).mono ?_
                rw [show ((X2 : Int) % (N : Int)).toNat = X2 by rw [Int.emod_eq_of_lt (by omega) (by omega)]; simp, HX2.out.2]
                rintro e Z3 ⟨rfl, kZ⟩
                go_wp2
                go_ret
                exact ⟨rfl, HK1.out.trans ((HZ.out.k.trans (kZ.mono HZ.out.k.size)).mono HK1.out.size)⟩
  · obtain ⟨rfl, rfl, rfl, rfl, rfl⟩ : c1 = c ∧ a1 = at' ∧ va = none ∧ vn = 0 ∧ vc = 0 := by
      rcases HDi.out with ⟨h1, h, M', hp⟩ | ⟨M', P', K', hg', h⟩
      · obtain ⟨_, e1, e2⟩ := hp.uniq HPf.out
        simp only [Value.slice.injEq] at h1
        exact ⟨e1, e2, h1⟩
      · exact absurd (HPf.out.uniq hg'.pf).2.1 hc0
    obtain ⟨rfl, rfl, rfl⟩ : x = 0 ∧ c2 = c1 ∧ a2 = a1 := by
      rcases HTe.out with ⟨h1, h, M', hp⟩ | ⟨M', P', K', hg', h⟩
      · obtain ⟨_, e1, e2⟩ := hp.uniq HPf.out
        exact ⟨h1, e1, e2⟩
      · exact absurd (HPf.out.uniq hg'.pf).2.1 hc0
    have hcn : (c2 != 0) = true := by simp [bne]; exact hc0
    have hce : (c2 == 0) = false := beq_eq_false_iff_ne.2 hc0
    clear HDi HTe HPf hc0
    go_wp2_with fail
    generalize hV1 : ((w3.alloc (.cells #[.int .i64 c2, .int .i64 a2] 24)).alloc (.cells #[.int .i64 c2, .int .i64 a2] 24)) = V1 at HQ hu3 ⊢
    clear hV1
    have x0 := HQ.out.s1.c0
    have x1 := HQ.out.s1.c1
    have x2 := HQ.out.s2.c0
    have x3 := HQ.out.s2.c1
    have x4 := HQ.out.s3.c0
    have x5 := HQ.out.s3.c1
    have x6 := HQ.out.s4.c0
    have x7 := HQ.out.s4.c1
    have x8 := HQ.out.s3.f0
    have x9 := HQ.out.s3.f1
    have x10 := HQ.out.s4.f0
    have x11 := HQ.out.s4.f1
    refine (HBg.out _ (HT1.out.below HQ.out.k)).mono ?_
    rintro e V2 ⟨rfl, kV⟩
    have H2 : Hid (Bq w1 V2 w1.heap.size w2.heap.size w3.heap.size (w3.heap.size + 1) (c2) (a2) (c2) (a2) (c2) (a2) (c2) (a2)) := HQ.out.below kV
    clear kV
    clear x0 x1 x2 x3 x4 x5 x6 x7 x8 x9 x10 x11
    have x0 := H2.out.s1.c0
    have x1 := H2.out.s1.c1
    have x2 := H2.out.s2.c0
    have x3 := H2.out.s2.c1
    have x4 := H2.out.s3.c0
    have x5 := H2.out.s3.c1
    have x6 := H2.out.s4.c0
    have x7 := H2.out.s4.c1
    have x8 := H2.out.s3.f0
    have x9 := H2.out.s3.f1
    have x10 := H2.out.s4.f0
    have x11 := H2.out.s4.f1
    go_wp2
    go_ret
    exact ⟨rfl, HK1.out.trans (H2.out.k.mono HK1.out.size)⟩

end Go.Proofs.YtidndbdjhapfaaaDoor
