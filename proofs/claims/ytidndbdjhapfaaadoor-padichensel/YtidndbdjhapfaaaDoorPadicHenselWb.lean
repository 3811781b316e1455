/- The law PadicHensel, of nil. (Written by padichensel.py.) -/
import Derived.Test.YtidndbdjhapfaaaDoorPadicHenselWa
set_option linter.unusedSimpArgs false
set_option linter.unusedVariables false
set_option maxRecDepth 100000
namespace Go.Proofs.YtidndbdjhapfaaaDoor
open Go.RowKit

set_option maxHeartbeats 8000000 in
theorem hensel_none (p k x : Int) (l : List Int) (w : World) (hl0 : l.length = 0)
    (hIA : IS w (.slice none 0 0) l) (hT : Tb w) :
    Calls Tryd.prog 4 #[.int .i64 p, .int .i64 k, .slice none 0 0, .int .i64 x] w fun e w' => e = .returned (.bool true) ∧ Below w.heap.size w w' := by
  obtain ⟨i0, hi, hz0, hz1, hz2⟩ := info_parts Tryd.infoInt
  have hA : l.length * 8 ≤ 140737488351232 := by omega
  have HIA : Hid (IS w (.slice none 0 0) l) := hIA
  obtain ⟨M, c, at', hPf⟩ := pf_ex p k
  have HR : Hid (∀ w, Calls Tryd.prog 7 #[.int .i64 p, .int .i64 k] w fun e w' => e = .returned (.tuple #[.int .i64 M, .agg #[.int .i64 c, .int .i64 at']]) ∧ Below w.heap.size w w') := fun w => refPadicFault_any p k M c at' w hPf
  have HBg : Hid (∀ w, Tb w → Calls Tryd.prog 10 #[] w fun e w' => e = .returned (.bool true) ∧ Below w.heap.size w w') := padicBegun_any
  have HPf : Hid (Pf p k M c at') := hPf
  have HT : Hid (Tb w) := hT
  have hgood := hPf.good
  clear hPf hT hIA
  go_enter Tryd.func4, Tryd.ntmps4
  go_wp2_with (at_builtin; refine wpList_append_own_none rfl _ _ 22 rfl w.heap.size 3 i0 1 Tryd.underlying22 hi _ 0 [] rfl (World.ownsRow_nil _ _ _ _) rfl ?_)
  obtain ⟨w1, hw1⟩ : ∃ w1, w1 = w := ⟨_, rfl⟩
  have kw1 : Below w.heap.size w w1 := by rw [hw1]; exact Below.refl _ _
  have HIO : Hid (IS w1 (.slice none 0 0) l) := by rw [hw1]; exact HIA.out
  try simp only [← hw1]
  have HIL : Hid (IS w1 (.slice none 0 0) l) := HIA.out.belowP kw1
  have HK1 : Hid (Below w.heap.size w w1) := kw1
  have HT1 : Hid (Tb w1) := HT.out.below kw1
  clear kw1 hi hz0 hz1 hz2 HIA HT
  go_wp2_with fail
  refine (Lift_any p k x (.slice none 0 0) l w1 HIO.out (by omega) HT1.out).mono ?_
  rintro e w2 ⟨y, c1, a1, rfl, hLi, k2⟩
  have HLi : Hid (LiOut p k l x y c1 a1) := hLi
  have K2 : Below w1.heap.size w1 w2 := k2
  clear hLi k2
  go_wp2_with fail
  obtain ⟨u2, hu2⟩ : ∃ u2, u2 = w2.alloc (.cells #[.int .i64 c1, .int .i64 a1] 24) := ⟨_, rfl⟩
  rw [← hu2]
  have kk : Below w2.heap.size w2 u2 := by rw [hu2]; exact (Below.refl _ _).alloc (Nat.le_refl _) _
  have S2 : Sv w2.heap.size c1 a1 u2 := by rw [hu2]; exact Sv.new c1 a1 w2
  have K3 : Below w1.heap.size w1 u2 := K2.trans (kk.mono K2.size)
  have L12 := K2.size
  clear hu2 kk K2
  refine (HR.out u2).mono ?_
  rintro e w3 ⟨rfl, k3⟩
  have HQ : Hid (Bh w1 (w3.alloc (.cells #[.int .i64 c, .int .i64 at'] 24)) w2.heap.size w3.heap.size c1 a1 c at') := by
    have t1 := (S2.below k3).alloc #[.int .i64 c, .int .i64 at'] 24
    have L23 : w2.heap.size < w3.heap.size := (S2.below k3).lt
    have kk := K3.trans (k3.mono K3.size)
    exact ⟨t1, Sv.new c at' w3, by omega, by omega, kk.alloc kk.size _⟩
  clear S2 K3 k3 HR L12
  rcases hgood with ⟨rfl, rfl, P, K, hg⟩ | ⟨hc0, rfl, hcb⟩
  · have HG : Hid (Pg p k M P K) := hg
    obtain rfl := hg.p
    obtain rfl := hg.k
    have hP2 := hg.p2
    have hP6 := hg.p6
    have hK1 := hg.k1
    obtain ⟨N, hN⟩ : ∃ N, N = P ^ K := ⟨_, rfl⟩
    have HN : Hid (N = P ^ K) := hN
    have hMN : M = (N : Int) := by rw [hN]; exact hg.m
    subst hMN
    have hN18 : N ≤ 1000000000000000000 := by rw [hN]; exact hg.m18
    have hPN : P ≤ N := by rw [hN]; exact Nat.le_self_pow (by omega) P
    have hP0 : ((P : Int) == 0) = false := beq_eq_false_iff_ne.2 (by omega)
    obtain ⟨c', a', hpl⟩ := plf_ex l
    have hL2 : (y = 0 ∧ c1 ≠ 0 ∧ Plf l c1 a1) ∨ (Plf l 0 0 ∧ ((y = 0 ∧ c1 ≠ 0 ∧ Ck P l x c1 a1) ∨ (Ck P l x 0 0 ∧ c1 = 0 ∧ a1 = 0 ∧ 0 ≤ y ∧ y < (N : Int) ∧ y % (P : Int) = x ∧ pv l y % (N : Int) = 0))) := by
      rcases HLi.out with ⟨_, h, M', hp⟩ | ⟨M', P', K', hg', h⟩
      · exact absurd (hp.uniq HG.out.pf).2.1 h
      · obtain ⟨rfl, rfl, rfl⟩ := HG.out.uniq hg'
        exact h
    have HPol : Hid (∀ w, IS w (.slice none 0 0) l → Calls Tryd.prog 15 #[.slice none 0 0] w fun e w' => e = .returned (.agg #[.int .i64 c', .int .i64 a']) ∧ Below w.heap.size w w') := fun w h => refPolyFault_any _ l c' a' w h (by omega) hpl
    clear hN hg HLi
    by_cases hc' : c' = 0
    · subst hc'
      obtain ⟨rfl, hl13, hnum⟩ := hpl.good
      have hL3 : (y = 0 ∧ c1 ≠ 0 ∧ Ck P l x c1 a1) ∨ (Ck P l x 0 0 ∧ c1 = 0 ∧ a1 = 0 ∧ 0 ≤ y ∧ y < (N : Int) ∧ y % (P : Int) = x ∧ pv l y % (N : Int) = 0) := by
        rcases hL2 with ⟨_, h1, h2⟩ | ⟨_, h⟩
        · exact absurd (h2.uniq hpl).1 h1
        · exact h
      have HNum : Hid (∀ i, i < l.length → numB (l.getD i 0) = true) := hnum
      have HAt : Hid (∀ (z : Int) (m : Nat), z.natAbs ≤ 1000000000000000000 → 0 < m → m ≤ 1000000000000000000 → ∀ w, IS w (.slice none 0 0) l → Calls Tryd.prog 16 #[.slice none 0 0, .int .i64 z, .int .i64 m] w fun e w' => e = .returned (.int .i64 (pv l z % (m : Int))) ∧ Below w.heap.size w w') := fun z m hz h0 hm w h => refAt_any _ l z m w h hl13 HNum.out hz h0 hm
      have HSl : Hid (∀ (z : Int) (m : Nat), z.natAbs ≤ 1000000000000000000 → 0 < m → m ≤ 1000000000000000000 → ∀ w, IS w (.slice none 0 0) l → Calls Tryd.prog 17 #[.slice none 0 0, .int .i64 z, .int .i64 m] w fun e w' => e = .returned (.int .i64 (dv l z % (m : Int))) ∧ Below w.heap.size w w') := fun z m hz h0 hm w h => refSlopeAt_any _ l z m w h hl13 HNum.out hz h0 hm
      clear hL2 hnum hpl
      have hck : (y = 0 ∧ c1 = 3 ∧ a1 = 3 ∧ (x < 0 ∨ (P : Int) ≤ x)) ∨ (0 ≤ x ∧ x < (P : Int) ∧ ((y = 0 ∧ c1 = 10 ∧ a1 = 3 ∧ pv l x % (P : Int) ≠ 0) ∨ (pv l x % (P : Int) = 0 ∧ ((y = 0 ∧ c1 = 6 ∧ a1 = 3 ∧ dv l x % (P : Int) = 0) ∨ (dv l x % (P : Int) ≠ 0 ∧ c1 = 0 ∧ a1 = 0 ∧ 0 ≤ y ∧ y < (N : Int) ∧ y % (P : Int) = x ∧ pv l y % (N : Int) = 0))))) := by
        rcases hL3 with ⟨h0, h1, hk⟩ | ⟨hk, h⟩
        · rcases hk with ⟨h2, h3, h4⟩ | ⟨h2, h3, ⟨h4, h5, h6⟩ | ⟨h4, ⟨h5, h6, h7⟩ | ⟨_, h6, _⟩⟩⟩
          · exact .inl ⟨h0, h3, h4, h2⟩
          · exact .inr ⟨h2, h3, .inl ⟨h0, h5, h6, h4⟩⟩
          · exact .inr ⟨h2, h3, .inr ⟨h4, .inl ⟨h0, h6, h7, h5⟩⟩⟩
          · exact absurd h6 h1
        · obtain ⟨h1, h2, h3, h4⟩ := hk.good
          exact .inr ⟨h1, h2, .inr ⟨h3, .inr ⟨h4, h⟩⟩⟩
      clear hL3
      rcases hck with ⟨rfl, rfl, rfl, hno⟩ | ⟨x0, x1, hck⟩
      · by_cases hneg : x < 0
        · have hbn : decide (x < 0) = true := decide_eq_true hneg
          clear hno hneg
          go_wp2_with fail
          generalize hV1 : w3.alloc (.cells #[.int .i64 0, .int .i64 0] 24) = V1 at HQ ⊢
          clear hV1
          have x0 := HQ.out.s1.c0
          have x1 := HQ.out.s1.c1
          have x2 := HQ.out.s2.c0
          have x3 := HQ.out.s2.c1
          have x4 := HQ.out.s2.f0
          have x5 := HQ.out.s2.f1
          refine (HPol.out _ (HIL.out.belowP HQ.out.k)).mono ?_
          rintro e V4 ⟨rfl, kV⟩
          have H4 : Hid (Bh w1 V4 w2.heap.size w3.heap.size (3) (3) (0) (0)) := HQ.out.below kV
          clear kV
          clear x0 x1 x2 x3 x4 x5
          have x0 := H4.out.s1.c0
          have x1 := H4.out.s1.c1
          have x2 := H4.out.s2.c0
          have x3 := H4.out.s2.c1
          have x4 := H4.out.s2.f0
          have x5 := H4.out.s2.f1
          go_wp2_with fail
          have hq := H4.out.set2 (0) (0)
          generalize hN : ((V4.setCell ⟨w3.heap.size, 0, none⟩ (.int .i64 0)).setCell ⟨w3.heap.size, 1, none⟩ (.int .i64 0)) = V5 at hq ⊢
          clear hN
          have H5 : Hid (Bh w1 V5 w2.heap.size w3.heap.size (3) (3) (0) (0)) := hq
          clear hq
          clear x0 x1 x2 x3 x4 x5
          have x0 := H5.out.s1.c0
          have x1 := H5.out.s1.c1
          have x2 := H5.out.s2.c0
          have x3 := H5.out.s2.c1
          have x4 := H5.out.s2.f0
          have x5 := H5.out.s2.f1
          refine (F_any 3 3 _).mono ?_
          rintro e V6 ⟨rfl, kV⟩
          have H6 : Hid (Bh w1 V6 w2.heap.size w3.heap.size (3) (3) (0) (0)) := H5.out.below kV
          clear kV
          clear x0 x1 x2 x3 x4 x5
          have x0 := H6.out.s1.c0
          have x1 := H6.out.s1.c1
          have x2 := H6.out.s2.c0
          have x3 := H6.out.s2.c1
          have x4 := H6.out.s2.f0
          have x5 := H6.out.s2.f1
          go_wp2_with fail
          have hq := H6.out.set2 (3) (3)
          generalize hN : ((V6.setCell ⟨w3.heap.size, 0, none⟩ (.int .i64 3)).setCell ⟨w3.heap.size, 1, none⟩ (.int .i64 3)) = V7 at hq ⊢
          clear hN
          have H7 : Hid (Bh w1 V7 w2.heap.size w3.heap.size (3) (3) (3) (3)) := hq
          clear hq
          clear x0 x1 x2 x3 x4 x5
          have x0 := H7.out.s1.c0
          have x1 := H7.out.s1.c1
          have x2 := H7.out.s2.c0
          have x3 := H7.out.s2.c1
          have x4 := H7.out.s2.f0
          have x5 := H7.out.s2.f1
          refine (HBg.out _ (HT1.out.below H7.out.k)).mono ?_
          rintro e V8 ⟨rfl, kV⟩
          have H8 : Hid (Bh w1 V8 w2.heap.size w3.heap.size (3) (3) (3) (3)) := H7.out.below kV
          clear kV
          clear x0 x1 x2 x3 x4 x5
          have x0 := H8.out.s1.c0
          have x1 := H8.out.s1.c1
          have x2 := H8.out.s2.c0
          have x3 := H8.out.s2.c1
          have x4 := H8.out.s2.f0
          have x5 := H8.out.s2.f1
          go_wp2_with fail
          refine (refInts_same _ _ l _ (HIO.out.belowP H8.out.k) (HIL.out.belowP H8.out.k) (by omega)).mono ?_
          rintro e V9 ⟨rfl, qV, hV⟩
          have H9 : Hid (Bh w1 V9 w2.heap.size w3.heap.size (3) (3) (3) (3)) := H8.out.below (by rw [hV]; exact below_drewN' (Below.refl _ _))
          clear hV
          clear x0 x1 x2 x3 x4 x5
          have x0 := H9.out.s1.c0
          have x1 := H9.out.s1.c1
          have x2 := H9.out.s2.c0
          have x3 := H9.out.s2.c1
          have x4 := H9.out.s2.f0
          have x5 := H9.out.s2.f1
          go_wp2
          go_ret
          exact ⟨rfl, HK1.out.trans (H9.out.k.mono HK1.out.size)⟩
        · have hbn : decide (x < 0) = false := decide_eq_false hneg
          have hbn2 : decide ((P : Int) ≤ x) = true := decide_eq_true (by omega)
          clear hno hneg
          go_wp2_with fail
          generalize hV1 : w3.alloc (.cells #[.int .i64 0, .int .i64 0] 24) = V1 at HQ ⊢
          clear hV1
          have x0 := HQ.out.s1.c0
          have x1 := HQ.out.s1.c1
          have x2 := HQ.out.s2.c0
          have x3 := HQ.out.s2.c1
          have x4 := HQ.out.s2.f0
          have x5 := HQ.out.s2.f1
          refine (HPol.out _ (HIL.out.belowP HQ.out.k)).mono ?_
          rintro e V4 ⟨rfl, kV⟩
          have H4 : Hid (Bh w1 V4 w2.heap.size w3.heap.size (3) (3) (0) (0)) := HQ.out.below kV
          clear kV
          clear x0 x1 x2 x3 x4 x5
          have x0 := H4.out.s1.c0
          have x1 := H4.out.s1.c1
          have x2 := H4.out.s2.c0
          have x3 := H4.out.s2.c1
          have x4 := H4.out.s2.f0
          have x5 := H4.out.s2.f1
          go_wp2_with fail
          have hq := H4.out.set2 (0) (0)
          generalize hN : ((V4.setCell ⟨w3.heap.size, 0, none⟩ (.int .i64 0)).setCell ⟨w3.heap.size, 1, none⟩ (.int .i64 0)) = V5 at hq ⊢
          clear hN
          have H5 : Hid (Bh w1 V5 w2.heap.size w3.heap.size (3) (3) (0) (0)) := hq
          clear hq
          clear x0 x1 x2 x3 x4 x5
          have x0 := H5.out.s1.c0
          have x1 := H5.out.s1.c1
          have x2 := H5.out.s2.c0
          have x3 := H5.out.s2.c1
          have x4 := H5.out.s2.f0
          have x5 := H5.out.s2.f1
          refine (F_any 3 3 _).mono ?_
          rintro e V6 ⟨rfl, kV⟩
          have H6 : Hid (Bh w1 V6 w2.heap.size w3.heap.size (3) (3) (0) (0)) := H5.out.below kV
          clear kV
          clear x0 x1 x2 x3 x4 x5
          have x0 := H6.out.s1.c0
          have x1 := H6.out.s1.c1
          have x2 := H6.out.s2.c0
          have x3 := H6.out.s2.c1
          have x4 := H6.out.s2.f0
          have x5 := H6.out.s2.f1
          go_wp2_with fail
          have hq := H6.out.set2 (3) (3)
          generalize hN : ((V6.setCell ⟨w3.heap.size, 0, none⟩ (.int .i64 3)).setCell ⟨w3.heap.size, 1, none⟩ (.int .i64 3)) = V7 at hq ⊢
          clear hN
          have H7 : Hid (Bh w1 V7 w2.heap.size w3.heap.size (3) (3) (3) (3)) := hq
          clear hq
          clear x0 x1 x2 x3 x4 x5
          have x0 := H7.out.s1.c0
          have x1 := H7.out.s1.c1
          have x2 := H7.out.s2.c0
          have x3 := H7.out.s2.c1
          have x4 := H7.out.s2.f0
          have x5 := H7.out.s2.f1
          refine (HBg.out _ (HT1.out.below H7.out.k)).mono ?_
          rintro e V8 ⟨rfl, kV⟩
          have H8 : Hid (Bh w1 V8 w2.heap.size w3.heap.size (3) (3) (3) (3)) := H7.out.below kV
          clear kV
          clear x0 x1 x2 x3 x4 x5
          have x0 := H8.out.s1.c0
          have x1 := H8.out.s1.c1
          have x2 := H8.out.s2.c0
          have x3 := H8.out.s2.c1
          have x4 := H8.out.s2.f0
          have x5 := H8.out.s2.f1
          go_wp2_with fail
          refine (refInts_same _ _ l _ (HIO.out.belowP H8.out.k) (HIL.out.belowP H8.out.k) (by omega)).mono ?_
          rintro e V9 ⟨rfl, qV, hV⟩
          have H9 : Hid (Bh w1 V9 w2.heap.size w3.heap.size (3) (3) (3) (3)) := H8.out.below (by rw [hV]; exact below_drewN' (Below.refl _ _))
          clear hV
          clear x0 x1 x2 x3 x4 x5
          have x0 := H9.out.s1.c0
          have x1 := H9.out.s1.c1
          have x2 := H9.out.s2.c0
          have x3 := H9.out.s2.c1
          have x4 := H9.out.s2.f0
          have x5 := H9.out.s2.f1
          go_wp2
          go_ret
          exact ⟨rfl, HK1.out.trans (H9.out.k.mono HK1.out.size)⟩
      · have hbn : decide (x < 0) = false := decide_eq_false (by omega)
        have hbn2 : decide ((P : Int) ≤ x) = false := decide_eq_false (by omega)
        have v0 := Int.emod_nonneg (pv l x) (show (P : Int) ≠ 0 by omega)
        have v1 := Int.emod_lt_of_pos (pv l x) (show 0 < (P : Int) by omega)
        have d0 := Int.emod_nonneg (dv l x) (show (P : Int) ≠ 0 by omega)
        have d1 := Int.emod_lt_of_pos (dv l x) (show 0 < (P : Int) by omega)
        have HA : Hid (∀ w, IS w (.slice none 0 0) l → Calls Tryd.prog 16 #[.slice none 0 0, .int .i64 x, .int .i64 P] w fun e w' => e = .returned (.int .i64 (pv l x % (P : Int))) ∧ Below w.heap.size w w') := HAt.out x P (by omega) (by omega) (by omega)
        have HS : Hid (∀ w, IS w (.slice none 0 0) l → Calls Tryd.prog 17 #[.slice none 0 0, .int .i64 x, .int .i64 P] w fun e w' => e = .returned (.int .i64 (dv l x % (P : Int))) ∧ Below w.heap.size w w') := HSl.out x P (by omega) (by omega) (by omega)
        obtain ⟨V, hV⟩ : ∃ V, V = pv l x % (P : Int) := ⟨_, rfl⟩
        obtain ⟨D, hD⟩ : ∃ D, D = dv l x % (P : Int) := ⟨_, rfl⟩
        rw [← hV] at HA hck v0 v1
        rw [← hD] at HS hck d0 d1
        clear hV hD HSl
        rcases hck with ⟨rfl, rfl, rfl, hVn⟩ | ⟨rfl, hck⟩
        · have hVb : (V != 0) = true := by simp [bne]; exact hVn
          clear hVn
          go_wp2_with fail
          generalize hV1 : w3.alloc (.cells #[.int .i64 0, .int .i64 0] 24) = V1 at HQ ⊢
          clear hV1
          have x0 := HQ.out.s1.c0
          have x1 := HQ.out.s1.c1
          have x2 := HQ.out.s2.c0
          have x3 := HQ.out.s2.c1
          have x4 := HQ.out.s2.f0
          have x5 := HQ.out.s2.f1
          refine (HPol.out _ (HIL.out.belowP HQ.out.k)).mono ?_
          rintro e V4 ⟨rfl, kV⟩
          have H4 : Hid (Bh w1 V4 w2.heap.size w3.heap.size (10) (3) (0) (0)) := HQ.out.below kV
          clear kV
          clear x0 x1 x2 x3 x4 x5
          have x0 := H4.out.s1.c0
          have x1 := H4.out.s1.c1
          have x2 := H4.out.s2.c0
          have x3 := H4.out.s2.c1
          have x4 := H4.out.s2.f0
          have x5 := H4.out.s2.f1
          go_wp2_with fail
          have hq := H4.out.set2 (0) (0)
          generalize hN : ((V4.setCell ⟨w3.heap.size, 0, none⟩ (.int .i64 0)).setCell ⟨w3.heap.size, 1, none⟩ (.int .i64 0)) = V5 at hq ⊢
          clear hN
          have H5 : Hid (Bh w1 V5 w2.heap.size w3.heap.size (10) (3) (0) (0)) := hq
          clear hq
          clear x0 x1 x2 x3 x4 x5
          have x0 := H5.out.s1.c0
          have x1 := H5.out.s1.c1
          have x2 := H5.out.s2.c0
          have x3 := H5.out.s2.c1
          have x4 := H5.out.s2.f0
          have x5 := H5.out.s2.f1
          refine (HA.out _ (HIL.out.belowP H5.out.k)).mono ?_
          rintro e V6 ⟨rfl, kV⟩
          have H6 : Hid (Bh w1 V6 w2.heap.size w3.heap.size (10) (3) (0) (0)) := H5.out.below kV
          clear kV
          clear x0 x1 x2 x3 x4 x5
          have x0 := H6.out.s1.c0
          have x1 := H6.out.s1.c1
          have x2 := H6.out.s2.c0
          have x3 := H6.out.s2.c1
          have x4 := H6.out.s2.f0
          have x5 := H6.out.s2.f1
          go_wp2_with fail
          refine (F_any 10 3 _).mono ?_
          rintro e V7 ⟨rfl, kV⟩
          have H7 : Hid (Bh w1 V7 w2.heap.size w3.heap.size (10) (3) (0) (0)) := H6.out.below kV
          clear kV
          clear x0 x1 x2 x3 x4 x5
          have x0 := H7.out.s1.c0
          have x1 := H7.out.s1.c1
          have x2 := H7.out.s2.c0
          have x3 := H7.out.s2.c1
          have x4 := H7.out.s2.f0
          have x5 := H7.out.s2.f1
          go_wp2_with fail
          have hq := H7.out.set2 (10) (3)
          generalize hN : ((V7.setCell ⟨w3.heap.size, 0, none⟩ (.int .i64 10)).setCell ⟨w3.heap.size, 1, none⟩ (.int .i64 3)) = V8 at hq ⊢
          clear hN
          have H8 : Hid (Bh w1 V8 w2.heap.size w3.heap.size (10) (3) (10) (3)) := hq
          clear hq
          clear x0 x1 x2 x3 x4 x5
          have x0 := H8.out.s1.c0
          have x1 := H8.out.s1.c1
          have x2 := H8.out.s2.c0
          have x3 := H8.out.s2.c1
          have x4 := H8.out.s2.f0
          have x5 := H8.out.s2.f1
          refine (HBg.out _ (HT1.out.below H8.out.k)).mono ?_
          rintro e V9 ⟨rfl, kV⟩
          have H9 : Hid (Bh w1 V9 w2.heap.size w3.heap.size (10) (3) (10) (3)) := H8.out.below kV
          clear kV
          clear x0 x1 x2 x3 x4 x5
          have x0 := H9.out.s1.c0
          have x1 := H9.out.s1.c1
          have x2 := H9.out.s2.c0
          have x3 := H9.out.s2.c1
          have x4 := H9.out.s2.f0
          have x5 := H9.out.s2.f1
          go_wp2_with fail
          refine (refInts_same _ _ l _ (HIO.out.belowP H9.out.k) (HIL.out.belowP H9.out.k) (by omega)).mono ?_
          rintro e V10 ⟨rfl, qV, hV⟩
          have H10 : Hid (Bh w1 V10 w2.heap.size w3.heap.size (10) (3) (10) (3)) := H9.out.below (by rw [hV]; exact below_drewN' (Below.refl _ _))
          clear hV
          clear x0 x1 x2 x3 x4 x5
          have x0 := H10.out.s1.c0
          have x1 := H10.out.s1.c1
          have x2 := H10.out.s2.c0
          have x3 := H10.out.s2.c1
          have x4 := H10.out.s2.f0
          have x5 := H10.out.s2.f1
          go_wp2
          go_ret
          exact ⟨rfl, HK1.out.trans (H10.out.k.mono HK1.out.size)⟩
        · rcases hck with ⟨rfl, rfl, rfl, rfl⟩ | ⟨hDn, rfl, rfl, y0, y1, hyx, hyN⟩
          · go_wp2_with fail
            generalize hV1 : w3.alloc (.cells #[.int .i64 0, .int .i64 0] 24) = V1 at HQ ⊢
            clear hV1
            have x0 := HQ.out.s1.c0
            have x1 := HQ.out.s1.c1
            have x2 := HQ.out.s2.c0
            have x3 := HQ.out.s2.c1
            have x4 := HQ.out.s2.f0
            have x5 := HQ.out.s2.f1
            refine (HPol.out _ (HIL.out.belowP HQ.out.k)).mono ?_
            rintro e V4 ⟨rfl, kV⟩
            have H4 : Hid (Bh w1 V4 w2.heap.size w3.heap.size (6) (3) (0) (0)) := HQ.out.below kV
            clear kV
            clear x0 x1 x2 x3 x4 x5
            have x0 := H4.out.s1.c0
            have x1 := H4.out.s1.c1
            have x2 := H4.out.s2.c0
            have x3 := H4.out.s2.c1
            have x4 := H4.out.s2.f0
            have x5 := H4.out.s2.f1
            go_wp2_with fail
            have hq := H4.out.set2 (0) (0)
            generalize hN : ((V4.setCell ⟨w3.heap.size, 0, none⟩ (.int .i64 0)).setCell ⟨w3.heap.size, 1, none⟩ (.int .i64 0)) = V5 at hq ⊢
            clear hN
            have H5 : Hid (Bh w1 V5 w2.heap.size w3.heap.size (6) (3) (0) (0)) := hq
            clear hq
            clear x0 x1 x2 x3 x4 x5
            have x0 := H5.out.s1.c0
            have x1 := H5.out.s1.c1
            have x2 := H5.out.s2.c0
            have x3 := H5.out.s2.c1
            have x4 := H5.out.s2.f0
            have x5 := H5.out.s2.f1
            refine (HA.out _ (HIL.out.belowP H5.out.k)).mono ?_
            rintro e V6 ⟨rfl, kV⟩
            have H6 : Hid (Bh w1 V6 w2.heap.size w3.heap.size (6) (3) (0) (0)) := H5.out.below kV
            clear kV
            clear x0 x1 x2 x3 x4 x5
            have x0 := H6.out.s1.c0
            have x1 := H6.out.s1.c1
            have x2 := H6.out.s2.c0
            have x3 := H6.out.s2.c1
            have x4 := H6.out.s2.f0
            have x5 := H6.out.s2.f1
            go_wp2_with fail
            refine (HS.out _ (HIL.out.belowP H6.out.k)).mono ?_
            rintro e V7 ⟨rfl, kV⟩
            have H7 : Hid (Bh w1 V7 w2.heap.size w3.heap.size (6) (3) (0) (0)) := H6.out.below kV
            clear kV
            clear x0 x1 x2 x3 x4 x5
            have x0 := H7.out.s1.c0
            have x1 := H7.out.s1.c1
            have x2 := H7.out.s2.c0
            have x3 := H7.out.s2.c1
            have x4 := H7.out.s2.f0
            have x5 := H7.out.s2.f1
            go_wp2_with fail
            refine (F_any 6 3 _).mono ?_
            rintro e V8 ⟨rfl, kV⟩
            have H8 : Hid (Bh w1 V8 w2.heap.size w3.heap.size (6) (3) (0) (0)) := H7.out.below kV
            clear kV
            clear x0 x1 x2 x3 x4 x5
            have x0 := H8.out.s1.c0
            have x1 := H8.out.s1.c1
            have x2 := H8.out.s2.c0
            have x3 := H8.out.s2.c1
            have x4 := H8.out.s2.f0
            have x5 := H8.out.s2.f1
            go_wp2_with fail
            have hq := H8.out.set2 (6) (3)
            generalize hN : ((V8.setCell ⟨w3.heap.size, 0, none⟩ (.int .i64 6)).setCell ⟨w3.heap.size, 1, none⟩ (.int .i64 3)) = V9 at hq ⊢
            clear hN
            have H9 : Hid (Bh w1 V9 w2.heap.size w3.heap.size (6) (3) (6) (3)) := hq
            clear hq
            clear x0 x1 x2 x3 x4 x5
            have x0 := H9.out.s1.c0
            have x1 := H9.out.s1.c1
            have x2 := H9.out.s2.c0
            have x3 := H9.out.s2.c1
            have x4 := H9.out.s2.f0
            have x5 := H9.out.s2.f1
            refine (HBg.out _ (HT1.out.below H9.out.k)).mono ?_
            rintro e V10 ⟨rfl, kV⟩
            have H10 : Hid (Bh w1 V10 w2.heap.size w3.heap.size (6) (3) (6) (3)) := H9.out.below kV
            clear kV
            clear x0 x1 x2 x3 x4 x5
            have x0 := H10.out.s1.c0
            have x1 := H10.out.s1.c1
            have x2 := H10.out.s2.c0
            have x3 := H10.out.s2.c1
            have x4 := H10.out.s2.f0
            have x5 := H10.out.s2.f1
            go_wp2_with fail
            refine (refInts_same _ _ l _ (HIO.out.belowP H10.out.k) (HIL.out.belowP H10.out.k) (by omega)).mono ?_
            rintro e V11 ⟨rfl, qV, hV⟩
            have H11 : Hid (Bh w1 V11 w2.heap.size w3.heap.size (6) (3) (6) (3)) := H10.out.below (by rw [hV]; exact below_drewN' (Below.refl _ _))
            clear hV
            clear x0 x1 x2 x3 x4 x5
            have x0 := H11.out.s1.c0
            have x1 := H11.out.s1.c1
            have x2 := H11.out.s2.c0
            have x3 := H11.out.s2.c1
            have x4 := H11.out.s2.f0
            have x5 := H11.out.s2.f1
            go_wp2
            go_ret
            exact ⟨rfl, HK1.out.trans (H11.out.k.mono HK1.out.size)⟩
          · have hDb : (D == 0) = false := beq_eq_false_iff_ne.2 hDn
            obtain ⟨Y, rfl⟩ : ∃ Y : Nat, y = Y := ⟨y.toNat, by omega⟩
            have hYN : Y < N := by omega
            have HA2 : Hid (∀ w, IS w (.slice none 0 0) l → Calls Tryd.prog 16 #[.slice none 0 0, .int .i64 Y, .int .i64 N] w fun e w' => e = .returned (.int .i64 0) ∧ Below w.heap.size w w') := by
              have h := HAt.out Y N (by omega) (by omega) hN18
              rw [hyN] at h
              exact h
            have hb0 : decide ((0 : Int) ≤ (Y : Int)) = true := decide_eq_true (by omega)
            have hb1 : decide ((Y : Int) < (N : Int)) = true := decide_eq_true (by omega)
            clear hDn hyN HAt
            go_wp2_with fail
            generalize hV1 : w3.alloc (.cells #[.int .i64 0, .int .i64 0] 24) = V1 at HQ ⊢
            clear hV1
            have x0 := HQ.out.s1.c0
            have x1 := HQ.out.s1.c1
            have x2 := HQ.out.s2.c0
            have x3 := HQ.out.s2.c1
            have x4 := HQ.out.s2.f0
            have x5 := HQ.out.s2.f1
            refine (HPol.out _ (HIL.out.belowP HQ.out.k)).mono ?_
            rintro e V4 ⟨rfl, kV⟩
            have H4 : Hid (Bh w1 V4 w2.heap.size w3.heap.size (0) (0) (0) (0)) := HQ.out.below kV
            clear kV
            clear x0 x1 x2 x3 x4 x5
            have x0 := H4.out.s1.c0
            have x1 := H4.out.s1.c1
            have x2 := H4.out.s2.c0
            have x3 := H4.out.s2.c1
            have x4 := H4.out.s2.f0
            have x5 := H4.out.s2.f1
            go_wp2_with fail
            have hq := H4.out.set2 (0) (0)
            generalize hN : ((V4.setCell ⟨w3.heap.size, 0, none⟩ (.int .i64 0)).setCell ⟨w3.heap.size, 1, none⟩ (.int .i64 0)) = V5 at hq ⊢
            clear hN
            have H5 : Hid (Bh w1 V5 w2.heap.size w3.heap.size (0) (0) (0) (0)) := hq
            clear hq
            clear x0 x1 x2 x3 x4 x5
            have x0 := H5.out.s1.c0
            have x1 := H5.out.s1.c1
            have x2 := H5.out.s2.c0
            have x3 := H5.out.s2.c1
            have x4 := H5.out.s2.f0
            have x5 := H5.out.s2.f1
            refine (HA.out _ (HIL.out.belowP H5.out.k)).mono ?_
            rintro e V6 ⟨rfl, kV⟩
            have H6 : Hid (Bh w1 V6 w2.heap.size w3.heap.size (0) (0) (0) (0)) := H5.out.below kV
            clear kV
            clear x0 x1 x2 x3 x4 x5
            have x0 := H6.out.s1.c0
            have x1 := H6.out.s1.c1
            have x2 := H6.out.s2.c0
            have x3 := H6.out.s2.c1
            have x4 := H6.out.s2.f0
            have x5 := H6.out.s2.f1
            go_wp2_with fail
            refine (HS.out _ (HIL.out.belowP H6.out.k)).mono ?_
            rintro e V7 ⟨rfl, kV⟩
            have H7 : Hid (Bh w1 V7 w2.heap.size w3.heap.size (0) (0) (0) (0)) := H6.out.below kV
            clear kV
            clear x0 x1 x2 x3 x4 x5
            have x0 := H7.out.s1.c0
            have x1 := H7.out.s1.c1
            have x2 := H7.out.s2.c0
            have x3 := H7.out.s2.c1
            have x4 := H7.out.s2.f0
            have x5 := H7.out.s2.f1
            go_wp2_with fail
            refine (HBg.out _ (HT1.out.below H7.out.k)).mono ?_
            rintro e V8 ⟨rfl, kV⟩
            have H8 : Hid (Bh w1 V8 w2.heap.size w3.heap.size (0) (0) (0) (0)) := H7.out.below kV
            clear kV
            clear x0 x1 x2 x3 x4 x5
            have x0 := H8.out.s1.c0
            have x1 := H8.out.s1.c1
            have x2 := H8.out.s2.c0
            have x3 := H8.out.s2.c1
            have x4 := H8.out.s2.f0
            have x5 := H8.out.s2.f1
            go_wp2_with fail
            refine (refInts_same _ _ l _ (HIO.out.belowP H8.out.k) (HIL.out.belowP H8.out.k) (by omega)).mono ?_
            rintro e V9 ⟨rfl, qV, hV⟩
            have H9 : Hid (Bh w1 V9 w2.heap.size w3.heap.size (0) (0) (0) (0)) := H8.out.below (by rw [hV]; exact below_drewN' (Below.refl _ _))
            clear hV
            clear x0 x1 x2 x3 x4 x5
            have x0 := H9.out.s1.c0
            have x1 := H9.out.s1.c1
            have x2 := H9.out.s2.c0
            have x3 := H9.out.s2.c1
            have x4 := H9.out.s2.f0
            have x5 := H9.out.s2.f1
            go_wp2_with fail
            refine (HA2.out _ (HIL.out.belowP H9.out.k)).mono ?_
            rintro e V10 ⟨rfl, kV⟩
            have H10 : Hid (Bh w1 V10 w2.heap.size w3.heap.size (0) (0) (0) (0)) := H9.out.below kV
            clear kV
            clear x0 x1 x2 x3 x4 x5
            have x0 := H10.out.s1.c0
            have x1 := H10.out.s1.c1
            have x2 := H10.out.s2.c0
            have x3 := H10.out.s2.c1
            have x4 := H10.out.s2.f0
            have x5 := H10.out.s2.f1
            go_wp2
            go_ret
            exact ⟨rfl, HK1.out.trans (H10.out.k.mono HK1.out.size)⟩
    · have hcn : (c' != 0) = true := by simp [bne]; exact hc'
      have hce : (c' == 0) = false := beq_eq_false_iff_ne.2 hc'
      obtain ⟨rfl, rfl, rfl⟩ : y = 0 ∧ c1 = c' ∧ a1 = a' := by
        rcases hL2 with ⟨h0, h1, h2⟩ | ⟨h, _⟩
        · obtain ⟨e1, e2⟩ := h2.uniq hpl
          exact ⟨h0, e1, e2⟩
        · exact absurd (h.uniq hpl).1.symm hc'
      clear hL2 hc' hpl
      go_wp2_with fail
      generalize hV1 : w3.alloc (.cells #[.int .i64 0, .int .i64 0] 24) = V1 at HQ ⊢
      clear hV1
      have x0 := HQ.out.s1.c0
      have x1 := HQ.out.s1.c1
      have x2 := HQ.out.s2.c0
      have x3 := HQ.out.s2.c1
      have x4 := HQ.out.s2.f0
      have x5 := HQ.out.s2.f1
      refine (HPol.out _ (HIL.out.belowP HQ.out.k)).mono ?_
      rintro e V4 ⟨rfl, kV⟩
      have H4 : Hid (Bh w1 V4 w2.heap.size w3.heap.size (c1) (a1) (0) (0)) := HQ.out.below kV
      clear kV
      clear x0 x1 x2 x3 x4 x5
      have x0 := H4.out.s1.c0
      have x1 := H4.out.s1.c1
      have x2 := H4.out.s2.c0
      have x3 := H4.out.s2.c1
      have x4 := H4.out.s2.f0
      have x5 := H4.out.s2.f1
      go_wp2_with fail
      have hq := H4.out.set2 (c1) (a1)
      generalize hN : ((V4.setCell ⟨w3.heap.size, 0, none⟩ (.int .i64 c1)).setCell ⟨w3.heap.size, 1, none⟩ (.int .i64 a1)) = V5 at hq ⊢
      clear hN
      have H5 : Hid (Bh w1 V5 w2.heap.size w3.heap.size (c1) (a1) (c1) (a1)) := hq
      clear hq
      clear x0 x1 x2 x3 x4 x5
      have x0 := H5.out.s1.c0
      have x1 := H5.out.s1.c1
      have x2 := H5.out.s2.c0
      have x3 := H5.out.s2.c1
      have x4 := H5.out.s2.f0
      have x5 := H5.out.s2.f1
      refine (HBg.out _ (HT1.out.below H5.out.k)).mono ?_
      rintro e V6 ⟨rfl, kV⟩
      have H6 : Hid (Bh w1 V6 w2.heap.size w3.heap.size (c1) (a1) (c1) (a1)) := H5.out.below kV
      clear kV
      clear x0 x1 x2 x3 x4 x5
      have x0 := H6.out.s1.c0
      have x1 := H6.out.s1.c1
      have x2 := H6.out.s2.c0
      have x3 := H6.out.s2.c1
      have x4 := H6.out.s2.f0
      have x5 := H6.out.s2.f1
      go_wp2_with fail
      refine (refInts_same _ _ l _ (HIO.out.belowP H6.out.k) (HIL.out.belowP H6.out.k) (by omega)).mono ?_
      rintro e V7 ⟨rfl, qV, hV⟩
      have H7 : Hid (Bh w1 V7 w2.heap.size w3.heap.size (c1) (a1) (c1) (a1)) := H6.out.below (by rw [hV]; exact below_drewN' (Below.refl _ _))
      clear hV
      clear x0 x1 x2 x3 x4 x5
      have x0 := H7.out.s1.c0
      have x1 := H7.out.s1.c1
      have x2 := H7.out.s2.c0
      have x3 := H7.out.s2.c1
      have x4 := H7.out.s2.f0
      have x5 := H7.out.s2.f1
      go_wp2
      go_ret
      exact ⟨rfl, HK1.out.trans (H7.out.k.mono HK1.out.size)⟩
  · obtain ⟨rfl, rfl, rfl⟩ : y = 0 ∧ c1 = c ∧ a1 = at' := by
      rcases HLi.out with ⟨h1, h, M', hp⟩ | ⟨M', P', K', hg', h⟩
      · obtain ⟨_, e1, e2⟩ := hp.uniq HPf.out
        exact ⟨h1, e1, e2⟩
      · exact absurd (HPf.out.uniq hg'.pf).2.1 hc0
    have hcn : (c1 != 0) = true := by simp [bne]; exact hc0
    have hce : (c1 == 0) = false := beq_eq_false_iff_ne.2 hc0
    clear HLi HPf hc0
    go_wp2_with fail
    generalize hV1 : w3.alloc (.cells #[.int .i64 c1, .int .i64 a1] 24) = V1 at HQ ⊢
    clear hV1
    have x0 := HQ.out.s1.c0
    have x1 := HQ.out.s1.c1
    have x2 := HQ.out.s2.c0
    have x3 := HQ.out.s2.c1
    have x4 := HQ.out.s2.f0
    have x5 := HQ.out.s2.f1
    refine (HBg.out _ (HT1.out.below HQ.out.k)).mono ?_
    rintro e V4 ⟨rfl, kV⟩
    have H4 : Hid (Bh w1 V4 w2.heap.size w3.heap.size (c1) (a1) (c1) (a1)) := HQ.out.below kV
    clear kV
    clear x0 x1 x2 x3 x4 x5
    have x0 := H4.out.s1.c0
    have x1 := H4.out.s1.c1
    have x2 := H4.out.s2.c0
    have x3 := H4.out.s2.c1
    have x4 := H4.out.s2.f0
    have x5 := H4.out.s2.f1
    go_wp2_with fail
    refine (refInts_same _ _ l _ (HIO.out.belowP H4.out.k) (HIL.out.belowP H4.out.k) (by omega)).mono ?_
    rintro e V5 ⟨rfl, qV, hV⟩
    have H5 : Hid (Bh w1 V5 w2.heap.size w3.heap.size (c1) (a1) (c1) (a1)) := H4.out.below (by rw [hV]; exact below_drewN' (Below.refl _ _))
    clear hV
    clear x0 x1 x2 x3 x4 x5
    have x0 := H5.out.s1.c0
    have x1 := H5.out.s1.c1
    have x2 := H5.out.s2.c0
    have x3 := H5.out.s2.c1
    have x4 := H5.out.s2.f0
    have x5 := H5.out.s2.f1
    go_wp2
    go_ret
    exact ⟨rfl, HK1.out.trans (H5.out.k.mono HK1.out.size)⟩

end Go.Proofs.YtidndbdjhapfaaaDoor
