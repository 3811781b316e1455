/- The law PadicRoots. -/
import Derived.Test.YtidndbdjhapfaaaGreatDoorPaG
import Derived.Test.YtidndbdjhapfaaaGreatDoorJoinJ
import Derived.Test.YtidndbdjhapfaaaGreatDoorJoinG
import Derived.Test.YtidndbdjhapfaaaGreatDoorPrD
set_option linter.unusedSimpArgs false
set_option linter.unusedVariables false
set_option maxRecDepth 100000
namespace Go.Proofs.YtidndbdjhapfaaaGreatDoor
open Go.RowKit

theorem Pf.uniq {p k M c a M' c' a' : Int} (h : Pf p k M c a) (h' : Pf p k M' c' a') : M = M' ∧ c = c' ∧ a = a' := by
  rcases h with ⟨h, rfl, rfl, rfl⟩ | ⟨P, hP, h2, h3, h⟩ <;> rcases h' with ⟨h', rfl, rfl, rfl⟩ | ⟨P', hP', h2', h3', h'⟩
  · exact ⟨rfl, rfl, rfl⟩
  · exfalso; subst hP'; clear h'; omega
  · exfalso; subst hP; clear h; omega
  · obtain rfl : P = P' := by rw [hP] at hP'; omega
    rcases h with ⟨h, rfl, rfl, rfl⟩ | ⟨hp, h⟩ <;> rcases h' with ⟨h', rfl, rfl, rfl⟩ | ⟨hp', h'⟩
    · exact ⟨rfl, rfl, rfl⟩
    · exact absurd hp' h
    · exact absurd hp h'
    · rcases h with ⟨h, rfl, rfl, rfl⟩ | ⟨K, hK, h4, h5, h⟩ <;> rcases h' with ⟨h', rfl, rfl, rfl⟩ | ⟨K', hK', h4', h5', h'⟩
      · exact ⟨rfl, rfl, rfl⟩
      · exfalso; subst hK'; clear h'; omega
      · exfalso; subst hK; clear h; omega
      · obtain rfl : K = K' := by rw [hK] at hK'; omega
        rcases h with ⟨h, rfl, rfl, rfl⟩ | ⟨h, rfl, rfl, rfl⟩ <;> rcases h' with ⟨h', rfl, rfl, rfl⟩ | ⟨h', rfl, rfl, rfl⟩
        · exact ⟨rfl, rfl, rfl⟩
        · omega
        · omega
        · exact ⟨rfl, rfl, rfl⟩
theorem Pg.pf {p k M : Int} {P K : Nat} (h : Pg p k M P K) : Pf p k M 0 0 :=
  .inr ⟨P, h.p, h.p2, h.p6, .inr ⟨h.pr, .inr ⟨K, h.k, h.k1, h.k6, .inr ⟨h.m18, h.m, rfl, rfl⟩⟩⟩⟩
theorem Pg.uniq {p k M M' : Int} {P K P' K' : Nat} (h : Pg p k M P K) (h' : Pg p k M' P' K') : M = M' ∧ P = P' ∧ K = K' := by
  refine ⟨(h.pf.uniq h'.pf).1, ?_, ?_⟩
  · have := h.p; have := h'.p; omega
  · have := h.k; have := h'.k; omega

/-- The law's two faults in memory. -/
structure Bh (w1 W : World) (b1 b2 : Nat) (c1 a1 c2 a2 : Int) : Prop where
  s1 : Sv b1 c1 a1 W
  s2 : Sv b2 c2 a2 W
  n12 : b2 ≠ b1
  l2 : w1.heap.size ≤ b2
  k : Below w1.heap.size w1 W
theorem Bh.below {w1 W W' : World} {b1 b2 : Nat} {c1 a1 c2 a2 : Int} (h : Bh w1 W b1 b2 c1 a1 c2 a2) (k : Below W.heap.size W W') : Bh w1 W' b1 b2 c1 a1 c2 a2 :=
  ⟨h.s1.below k, h.s2.below k, h.n12, h.l2, h.k.trans (k.mono h.k.size)⟩
theorem Bh.set2 {w1 W : World} {b1 b2 : Nat} {c1 a1 c2 a2 : Int} (h : Bh w1 W b1 b2 c1 a1 c2 a2) (x y : Int) : Bh w1 ((W.setCell ⟨b2, 0, none⟩ (.int .i64 x)).setCell ⟨b2, 1, none⟩ (.int .i64 y)) b1 b2 c1 a1 x y :=
  ⟨h.s1.other _ _ h.n12, h.s2.set x y, h.n12, h.l2, (h.k.setCell h.l2 _).setCell h.l2 _⟩

theorem Plf.uniq {l : List Int} {c a c' a' : Int} (h : Plf l c a) (h' : Plf l c' a') : c = c' ∧ a = a' := by
  rcases h with ⟨h, rfl, rfl⟩ | ⟨h, ⟨i, hi, hb⟩, rfl, rfl⟩ | ⟨h, hn, rfl, rfl⟩ <;> rcases h' with ⟨h', rfl, rfl⟩ | ⟨h', ⟨i', hi', hb'⟩, rfl, rfl⟩ | ⟨h', hn', rfl, rfl⟩
  · exact ⟨rfl, rfl⟩
  · omega
  · omega
  · omega
  · exact ⟨rfl, rfl⟩
  · rw [hn' i hi] at hb; cases hb
  · omega
  · rw [hn i' hi'] at hb'; cases hb'
  · exact ⟨rfl, rfl⟩


/-- What stands of the list of roots in a world. -/
structure Lr (l L : List Int) (N n : Nat) (v : Value) (g o : Nat) (w1 : World) : Prop where
  root : RootL l N L
  inc : L.Pairwise (· < ·)
  len : n = L.length
  cell : ∀ i, i < n → w1.cell? ⟨g, o + i, none⟩ = some (.int .i64 (L.getD i 0))
  lt : 0 < n → g < w1.heap.size
theorem Lr.get {l L : List Int} {N n : Nat} {v : Value} {g o : Nat} {w1 : World} (h : Lr l L N n v g o w1) {i : Nat} (hi : i < n) : 0 ≤ L.getD i 0 ∧ L.getD i 0 < (N : Int) ∧ pv l (L.getD i 0) % (N : Int) = 0 := by
  refine (h.root.mem _).1 ?_
  rw [List.getD_eq_getElem?_getD, List.getElem?_eq_getElem (by rw [← h.len]; exact hi)]
  exact List.getElem_mem _
theorem Lr.up {l L : List Int} {N n : Nat} {v : Value} {g o : Nat} {w1 : World} (h : Lr l L N n v g o w1) {i : Nat} (hi : i + 1 < n) : L.getD i 0 < L.getD (i + 1) 0 := by
  have h1 : i + 1 < L.length := by rw [← h.len]; exact hi
  rw [List.getD_eq_getElem?_getD, List.getD_eq_getElem?_getD, List.getElem?_eq_getElem (by omega), List.getElem?_eq_getElem h1]
  exact List.pairwise_iff_getElem.1 h.inc i (i + 1) (by omega) h1 (by omega)

set_option maxHeartbeats 8000000 in
theorem padic_roots (p k : Int) (s : Value) (l : List Int) (w : World) (hs : IS w s l) (hl : l.length ≤ 9000000000000000000) (hT : Tb w) :
    Calls Tryz.prog 3 #[.int .i64 p, .int .i64 k, s] w fun e w' => e = .returned (.bool true) ∧ Below w.heap.size w w' := by
  have HBg : Hid (∀ w, Tb w → Calls Tryz.prog 4 #[] w fun e w' => e = .returned (.bool true) ∧ Below w.heap.size w w') := padicBegun_any
  have HT : Hid (Tb w) := hT
  have HIS : Hid (IS w s l) := hs
  obtain ⟨aa, g, o, cap, rfl, _⟩ := hs
  clear hT
  by_cases h100 : 100 < l.length
  · have hb : decide (100 < (l.length : Int)) = true := decide_eq_true (by omega)
    go_enter Tryz.func3, Tryz.ntmps3
    go_wp2_with fail
    refine (HBg.out w HT.out).mono ?_
    rintro e w1 ⟨rfl, k1⟩
    go_wp2
    go_ret
    exact ⟨rfl, k1⟩
  · have hb : decide (100 < (l.length : Int)) = false := decide_eq_false (by omega)
    obtain ⟨M, c, at', hPf⟩ := pf_ex p k
    have HR : Hid (∀ w, Calls Tryz.prog 6 #[.int .i64 p, .int .i64 k] w fun e w' => e = .returned (.tuple #[.int .i64 M, .agg #[.int .i64 c, .int .i64 at']]) ∧ Below w.heap.size w w') := fun w => refPadicFault_any p k M c at' w hPf
    have HPf : Hid (Pf p k M c at') := hPf
    have hgood := hPf.good
    clear hPf
    go_enter Tryz.func3, Tryz.ntmps3
    go_wp2_with fail
    refine (Roots_any p k (.slice aa l.length cap) l w HIS.out hl HT.out).mono ?_
    rintro e w1 ⟨v, c1, a1, rfl, hRs, k1⟩
    obtain ⟨va, vn, vc, rfl⟩ : ∃ va vn vc, v = .slice va vn vc := by
      rcases hRs with ⟨h, _⟩ | ⟨_, _, _, _, ⟨h, _⟩ | ⟨_, ⟨_, h, _⟩ | ⟨_, ⟨h, _⟩ | ⟨_, _, L, h, _⟩⟩⟩⟩
      · exact ⟨_, _, _, h⟩
      · exact ⟨_, _, _, h⟩
      · exact ⟨_, _, _, h⟩
      · exact ⟨_, _, _, h⟩
      · obtain ⟨aa, g, o, cap, h, _⟩ := h; exact ⟨_, _, _, h⟩
    have HRs : Hid (RsOut p k l (.slice va vn vc) c1 a1 w1) := hRs
    have HK1 : Hid (Below w.heap.size w w1) := k1
    have HT1 : Hid (Tb w1) := HT.out.below k1
    have HIL : Hid (IS w1 (.slice aa l.length cap) l) := HIS.out.belowP k1
    clear hRs k1 HT HIS
    go_wp2_with fail
    obtain ⟨u2, hu2⟩ : ∃ u2, u2 = w1.alloc (.cells #[.int .i64 c1, .int .i64 a1] 25) := ⟨_, rfl⟩
    rw [← hu2]
    have S2 : Sv w1.heap.size c1 a1 u2 := by rw [hu2]; exact Sv.new c1 a1 w1
    have K3 : Below w1.heap.size w1 u2 := by rw [hu2]; exact (Below.refl _ _).alloc (Nat.le_refl _) _
    clear hu2
    refine (HR.out u2).mono ?_
    rintro e w3 ⟨rfl, k3⟩
    have HQ : Hid (Bh w1 (w3.alloc (.cells #[.int .i64 c, .int .i64 at'] 25)) w1.heap.size w3.heap.size c1 a1 c at') := by
      have t1 := (S2.below k3).alloc #[.int .i64 c, .int .i64 at'] 25
      have L23 : w1.heap.size < w3.heap.size := (S2.below k3).lt
      have kk := K3.trans (k3.mono K3.size)
      exact ⟨t1, Sv.new c at' w3, by omega, by omega, kk.alloc kk.size _⟩
    clear S2 K3 k3 HR
    rcases hgood with ⟨rfl, rfl, P, K, hg⟩ | ⟨hc0, rfl, hcb⟩
    · have HG : Hid (Pg p k M P K) := hg
      obtain rfl := hg.p
      obtain rfl := hg.k
      have hP2 := hg.p2
      have hP6 := hg.p6
      obtain ⟨N, hN⟩ : ∃ N, N = P ^ K := ⟨_, rfl⟩
      have hMN : M = (N : Int) := by rw [hN]; exact hg.m
      subst hMN
      have hN18 : N ≤ 1000000000000000000 := by rw [hN]; exact hg.m18
      have hN0 : 0 < N := by rw [hN]; exact Nat.pow_pos (by omega)
      obtain ⟨c', a', hpl⟩ := plf_ex l
      have hR2 : (va = none ∧ vn = 0 ∧ vc = 0 ∧ c1 ≠ 0 ∧ Plf l c1 a1) ∨ (Plf l 0 0 ∧ ((2000 < P ∧ va = none ∧ vn = 0 ∧ vc = 0 ∧ c1 = 2 ∧ a1 = 0) ∨ (P ≤ 2000 ∧ ((va = none ∧ vn = 0 ∧ vc = 0 ∧ c1 = 9 ∧ a1 = 0 ∧ 1000 < N) ∨ (c1 = 0 ∧ a1 = 0 ∧ ∃ L, IS w1 (.slice va vn vc) L ∧ L.length ≤ 1000 ∧ RootL l N L ∧ L.Pairwise (· < ·)))))) := by
        rcases HRs.out with ⟨_, h, M', hp⟩ | ⟨M', P', K', hg', h⟩
        · exact absurd (hp.uniq HG.out.pf).2.1 h
        · obtain ⟨rfl, rfl, rfl⟩ := HG.out.uniq hg'
          simp only [Value.slice.injEq] at h
          rw [hN]
          rcases h with ⟨h1, h2, h3⟩ | ⟨h1, ⟨h2, h3, h4, h5⟩ | ⟨h2, ⟨h3, h4, h5, h6⟩ | h3⟩⟩
          · exact .inl ⟨h1.1, h1.2.1, h1.2.2, h2, h3⟩
          · exact .inr ⟨h1, .inl ⟨by omega, h3.1, h3.2.1, h3.2.2, h4, h5⟩⟩
          · exact .inr ⟨h1, .inr ⟨by omega, .inl ⟨h3.1, h3.2.1, h3.2.2, h4, h5, h6⟩⟩⟩
          · exact .inr ⟨h1, .inr ⟨by omega, .inr h3⟩⟩
      have HPol : Hid (∀ w, IS w (.slice aa l.length cap) l → Calls Tryz.prog 7 #[.slice aa l.length cap] w fun e w' => e = .returned (.agg #[.int .i64 c', .int .i64 a']) ∧ Below w.heap.size w w') := fun w h => refPolyFault_any _ l c' a' w h hl hpl
      clear hN hg HRs
      go_wp2_with fail
      generalize hV1 : w3.alloc (.cells #[.int .i64 0, .int .i64 0] 25) = V1 at HQ ⊢
      clear hV1
      have x0 := HQ.out.s1.c0
      have x1 := HQ.out.s1.c1
      have x2 := HQ.out.s2.c0
      have x3 := HQ.out.s2.c1
      have x4 := HQ.out.s2.f0
      have x5 := HQ.out.s2.f1
      refine (HPol.out _ (HIL.out.belowP HQ.out.k)).mono ?_
      rintro e V2 ⟨rfl, kV⟩
      have H2 : Hid (Bh w1 V2 w1.heap.size w3.heap.size c1 a1 0 0) := HQ.out.below kV
      clear kV x0 x1 x2 x3 x4 x5 HQ HPol
      have x0 := H2.out.s1.c0
      have x1 := H2.out.s1.c1
      have x2 := H2.out.s2.c0
      have x3 := H2.out.s2.c1
      have x4 := H2.out.s2.f0
      have x5 := H2.out.s2.f1
      by_cases hc' : c' = 0
      · subst hc'
        obtain ⟨rfl, hl13, hnum⟩ := hpl.good
        have hR3 : (2000 < P ∧ va = none ∧ vn = 0 ∧ vc = 0 ∧ c1 = 2 ∧ a1 = 0) ∨ (P ≤ 2000 ∧ ((va = none ∧ vn = 0 ∧ vc = 0 ∧ c1 = 9 ∧ a1 = 0 ∧ 1000 < N) ∨ (c1 = 0 ∧ a1 = 0 ∧ ∃ L, IS w1 (.slice va vn vc) L ∧ L.length ≤ 1000 ∧ RootL l N L ∧ L.Pairwise (· < ·)))) := by
          rcases hR2 with ⟨_, _, _, h1, h2⟩ | ⟨_, h⟩
          · exact absurd (h2.uniq hpl).1 h1
          · exact h
        have HNum : Hid (∀ i, i < l.length → numB (l.getD i 0) = true) := hnum
        clear hR2 hnum hpl
        rcases hR3 with ⟨hP, rfl, rfl, rfl, rfl, rfl⟩ | ⟨hP, ⟨rfl, rfl, rfl, rfl, rfl, hmuch⟩ | ⟨rfl, rfl, L, hIS, hLl, hRL, hpw⟩⟩
        · have hbP : decide (2000 < (P : Int)) = true := decide_eq_true (by omega)
          go_wp2_with fail
          have hq := H2.out.set2 0 0
          generalize hN : ((V2.setCell ⟨w3.heap.size, 0, none⟩ (.int .i64 0)).setCell ⟨w3.heap.size, 1, none⟩ (.int .i64 0)) = V3 at hq ⊢
          clear hN x0 x1 x2 x3 x4 x5
          have H3 : Hid (Bh w1 V3 w1.heap.size w3.heap.size 2 0 0 0) := hq
          clear hq
          refine (F_any 2 0 _).mono ?_
          rintro e V4 ⟨rfl, kV⟩
          have H4 : Hid (Bh w1 V4 w1.heap.size w3.heap.size 2 0 0 0) := H3.out.below kV
          clear kV
          have x4 := H4.out.s2.f0
          have x5 := H4.out.s2.f1
          have x2 := H4.out.s2.c0
          have x3 := H4.out.s2.c1
          go_wp2_with fail
          have hq := H4.out.set2 2 0
          generalize hN : ((V4.setCell ⟨w3.heap.size, 0, none⟩ (.int .i64 2)).setCell ⟨w3.heap.size, 1, none⟩ (.int .i64 0)) = V5 at hq ⊢
          clear hN x2 x3 x4 x5
          have H5 : Hid (Bh w1 V5 w1.heap.size w3.heap.size 2 0 2 0) := hq
          clear hq
          refine (HBg.out _ (HT1.out.below H5.out.k)).mono ?_
          rintro e V6 ⟨rfl, kV⟩
          have H6 : Hid (Bh w1 V6 w1.heap.size w3.heap.size 2 0 2 0) := H5.out.below kV
          clear kV
          have x0 := H6.out.s1.c0
          have x1 := H6.out.s1.c1
          have x2 := H6.out.s2.c0
          have x3 := H6.out.s2.c1
          go_wp2
          go_ret
          exact ⟨rfl, HK1.out.trans (H6.out.k.mono HK1.out.size)⟩
        · have HMuch : Hid (1000 < N) := hmuch
          have hbP : decide (2000 < (P : Int)) = false := decide_eq_false (by omega)
          go_wp2_with fail
          have hq := H2.out.set2 0 0
          generalize hN : ((V2.setCell ⟨w3.heap.size, 0, none⟩ (.int .i64 0)).setCell ⟨w3.heap.size, 1, none⟩ (.int .i64 0)) = V5 at hq ⊢
          clear hN x0 x1 x2 x3 x4 x5
          have H5 : Hid (Bh w1 V5 w1.heap.size w3.heap.size 9 0 0 0) := hq
          clear hq
          refine (HBg.out _ (HT1.out.below H5.out.k)).mono ?_
          rintro e V6 ⟨rfl, kV⟩
          have H6 : Hid (Bh w1 V6 w1.heap.size w3.heap.size 9 0 0 0) := H5.out.below kV
          clear kV
          have x0 := H6.out.s1.c0
          have x1 := H6.out.s1.c1
          have x2 := H6.out.s2.c0
          have x3 := H6.out.s2.c1
          have hmb : decide (1000 < (N : Int)) = true := decide_eq_true (by omega)
          go_wp2_with fail
          refine wp_region_G (fun w' => w'.cell? ⟨w1.heap.size, 0, none⟩ = some (.int .i64 9) ∧ w'.cell? ⟨w1.heap.size, 1, none⟩ = some (.int .i64 0)) 12 (by kernel_rfl) ⟨x0, x1⟩ (fun hHeld => ?_)
          refine wpAnyG_take (i := 0) (v := ?v0x1) rfl (by kernel_rfl) (fun _ _ _ h => h) (Or.inl ⟨by rfl, ?y0x1⟩) hHeld ?r0x1
          case y0x1 => (intro wS hSw; obtain ⟨s1, s2⟩ := hSw; go_simp; try with_reducible rfl)
          try simp only [Act.put, List.setIfInBounds_toArray, List.set_cons_zero, List.set_cons_succ]
          refine wpAnyG_one (i := 1) rfl (by kernel_rfl) (fun K hK => ?_)
          go_simp
          refine (F_any 9 0 _).mono ?_
          rintro e V7 ⟨rfl, kV⟩
          have kV' : Below V6.heap.size V6 V7 := (Below.refl _ _).drew.trans (kV.mono (by simp))
          have H7 : Hid (Bh w1 V7 w1.heap.size w3.heap.size 9 0 0 0) := H6.out.below kV'
          clear hHeld kV kV'
          have hHeld : V7.cell? ⟨w1.heap.size, 0, none⟩ = some (.int .i64 9) ∧ V7.cell? ⟨w1.heap.size, 1, none⟩ = some (.int .i64 0) := ⟨H7.out.s1.c0, H7.out.s1.c1⟩
          refine hK.out _ _ hHeld ?_
          clear hK K
          try simp only [Act.put, List.setIfInBounds_toArray, List.set_cons_zero, List.set_cons_succ]
          refine wpAnyG_take (i := 2) (v := .bool true) rfl (by kernel_rfl) (fun _ _ _ h => h) (Or.inl ⟨by kernel_rfl, ?y2x2⟩) hHeld ?r2x2
          case y2x2 => (intro wS hSw; (go_simp))
          try simp only [Act.put, List.setIfInBounds_toArray, List.set_cons_zero, List.set_cons_succ]
          refine wpAnyG_take (i := 3) (v := .bool true) rfl (by kernel_rfl) (fun _ _ _ h => h) (Or.inl ⟨by kernel_rfl, ?y3x3⟩) hHeld ?r3x3
          case y3x3 => (intro wS hSw; (go_simp))
          try simp only [Act.put, List.setIfInBounds_toArray, List.set_cons_zero, List.set_cons_succ]
          refine wpAnyG_take (i := 4) (v := ?v4x4) rfl (by kernel_rfl) (fun _ _ _ h => h) (Or.inl ⟨by kernel_rfl, ?y4x4⟩) hHeld ?r4x4
          case y4x4 => (intro wS hSw; have s1 := hSw; go_simp; try with_reducible rfl)
          try simp only [Act.put, List.setIfInBounds_toArray, List.set_cons_zero, List.set_cons_succ]
          refine wpAnyG_take (i := 5) (v := ?v5x5) rfl (by kernel_rfl) (fun _ _ _ h => h) (Or.inl ⟨by kernel_rfl, ?y5x5⟩) hHeld ?r5x5
          case y5x5 => (intro wS hSw; have s1 := hSw; go_simp; try with_reducible rfl)
          try simp only [Act.put, List.setIfInBounds_toArray, List.set_cons_zero, List.set_cons_succ]
          refine wpAnyG_take (i := 6) (v := .bool true) rfl (by kernel_rfl) (fun _ _ _ h => h) (Or.inl ⟨by kernel_rfl, ?y6x6⟩) hHeld ?r6x6
          case y6x6 => (intro wS hSw; (go_simp))
          try simp only [Act.put, List.setIfInBounds_toArray, List.set_cons_zero, List.set_cons_succ]
          refine wpAnyG_take (i := 7) (v := .bool true) rfl (by kernel_rfl) (fun _ _ _ h => h) (Or.inl ⟨by kernel_rfl, ?y7x7⟩) hHeld ?r7x7
          case y7x7 => (intro wS hSw; (go_simp))
          try simp only [Act.put, List.setIfInBounds_toArray, List.set_cons_zero, List.set_cons_succ]
          refine wpAnyG_take (i := 8) (v := .bool true) rfl (by kernel_rfl) (fun _ _ _ h => h) (Or.inl ⟨by kernel_rfl, ?y8x8⟩) hHeld ?r8x8
          case y8x8 => (intro wS hSw; (go_simp))
          try simp only [Act.put, List.setIfInBounds_toArray, List.set_cons_zero, List.set_cons_succ]
          refine wpAnyG_take (i := 9) (v := ?v9x9) rfl (by kernel_rfl) (fun _ _ _ h => h) (Or.inl ⟨by kernel_rfl, ?y9x9⟩) hHeld ?r9x9
          case y9x9 => (intro wS hSw; have s1 := hSw; go_simp; try with_reducible rfl)
          try simp only [Act.put, List.setIfInBounds_toArray, List.set_cons_zero, List.set_cons_succ]
          refine wpAnyG_take (i := 10) (v := .bool true) rfl (by kernel_rfl) (fun _ _ _ h => h) (Or.inl ⟨by kernel_rfl, ?y10x10⟩) hHeld ?r10x10
          case y10x10 => (intro wS hSw; (go_simp; try simp only [hmb]))
          try simp only [Act.put, List.setIfInBounds_toArray, List.set_cons_zero, List.set_cons_succ]
          refine wpAnyG_take (i := 11) (v := .bool true) rfl (by kernel_rfl) (fun _ _ _ h => h) (Or.inl ⟨by kernel_rfl, ?y11x11⟩) hHeld ?r11x11
          case y11x11 => (intro wS hSw; (go_simp))
          try simp only [Act.put, List.setIfInBounds_toArray, List.set_cons_zero, List.set_cons_succ]
          refine wpAnyG_last (i := 12) rfl (by kernel_rfl) (by kernel_rfl) (fun K hK => ?_)
          go_simp
          refine hK.out _ _ ?_
          clear hK K
          try simp only [Act.put, List.setIfInBounds_toArray, List.set_cons_zero, List.set_cons_succ]
          refine wpAnyG_done (by kernel_rfl) ?_ _
          go_wp2
          go_ret
          exact ⟨rfl, HK1.out.trans (H7.out.k.mono HK1.out.size)⟩
        · obtain ⟨ra, rg, ro, rc, hsl, hra, hrc, hrg⟩ := hIS
          simp only [Value.slice.injEq] at hsl
          obtain ⟨rfl, hvn, rfl⟩ := hsl
          have HLr : Hid (Lr l L N vn (.slice va vn vc) rg ro w1) := ⟨hRL, hpw, hvn, fun i hi => hrc i (by omega), fun h => hrg (by omega)⟩
          have HRA : Hid (0 < vn → va = some ⟨rg, ro, none⟩) := fun h => hra (by omega)
          have hvn1 : vn ≤ 1000 := by omega
          have HAt : Hid (∀ (z : Int), 0 ≤ z → z < (N : Int) → ∀ w, IS w (.slice aa l.length cap) l → Calls Tryz.prog 9 #[.slice aa l.length cap, .int .i64 z, .int .i64 N] w fun e w' => e = .returned (.int .i64 (pv l z % (N : Int))) ∧ Below w.heap.size w w') := fun z h0 h1 w h => refAt_any _ l z N w h hl13 HNum.out (by omega) hN0 hN18
          clear hra hrc hrg hRL hpw hLl hvn
          have hbP : decide (2000 < (P : Int)) = false := decide_eq_false (by omega)
          go_wp2_with fail
          have hq := H2.out.set2 0 0
          generalize hN : ((V2.setCell ⟨w3.heap.size, 0, none⟩ (.int .i64 0)).setCell ⟨w3.heap.size, 1, none⟩ (.int .i64 0)) = V5 at hq ⊢
          clear hN x0 x1 x2 x3 x4 x5
          have H5 : Hid (Bh w1 V5 w1.heap.size w3.heap.size 0 0 0 0) := hq
          clear hq
          refine (HBg.out _ (HT1.out.below H5.out.k)).mono ?_
          rintro e V6 ⟨rfl, kV⟩
          have H6 : Hid (Bh w1 V6 w1.heap.size w3.heap.size 0 0 0 0) := H5.out.below kV
          clear kV
          have x0 := H6.out.s1.c0
          have x1 := H6.out.s1.c1
          have x2 := H6.out.s2.c0
          have x3 := H6.out.s2.c1
          go_wp2
          go_loopw [11] (fun iv wx => ∃ i : Nat, i ≤ vn ∧ iv = .int .i64 i ∧ Hid (Below V6.heap.size V6 wx)) (fun iv _ => vn - (intOf iv).toNat)
          case atStart => exact ⟨0, Nat.zero_le _, rfl, Below.refl _ _⟩
          case round =>
            obtain ⟨i, hi, rfl, HB⟩ := hrel
            by_cases hlt : i < vn
            · obtain rfl := HRA.out (by omega)
              obtain ⟨r0, r1, r2⟩ := HLr.out.get hlt
              have hgl := HLr.out.lt (by omega)
              have HK6 : Hid (Below w1.heap.size w1 wr) := H6.out.k.trans (HB.out.mono H6.out.k.size)
              have hci : wr.cell? ⟨rg, ro + i, none⟩ = some (.int .i64 (L.getD i 0)) := (HK6.out.cell (p := ⟨rg, ro + i, none⟩) hgl).trans (HLr.out.cell i hlt)
              have HA : Hid (∀ w, IS w (.slice aa l.length cap) l → Calls Tryz.prog 9 #[.slice aa l.length cap, .int .i64 (L.getD i 0), .int .i64 N] w fun e w' => e = .returned (.int .i64 0) ∧ Below w.heap.size w w') := by
                have h := HAt.out (L.getD i 0) r0 r1
                rw [r2] at h
                exact h
              obtain ⟨j, hj⟩ : ∃ j, (i = 0 ∧ j = 0) ∨ i = j + 1 := ⟨i - 1, by omega⟩
              have hcj : wr.cell? ⟨rg, ro + j, none⟩ = some (.int .i64 (L.getD j 0)) := (HK6.out.cell (p := ⟨rg, ro + j, none⟩) hgl).trans (HLr.out.cell j (by omega))
              have hup : i = j + 1 → L.getD j 0 < L.getD i 0 := fun h => by rw [h]; exact HLr.out.up (by omega)
              obtain ⟨r, hr⟩ : ∃ r, r = L.getD i 0 := ⟨_, rfl⟩
              obtain ⟨rj, hrj⟩ : ∃ rj, rj = L.getD j 0 := ⟨_, rfl⟩
              rw [← hr] at r0 r1 hci HA hup
              rw [← hrj] at hcj hup
              have hn0 : decide (r < 0) = false := decide_eq_false (by omega)
              have hnN : decide ((N : Int) ≤ r) = false := decide_eq_false (by omega)
              clear hr hrj r2 hgl
              rcases hj with ⟨rfl, rfl⟩ | hj
              · clear hup hcj
                rw [Nat.add_zero] at hci
                go_wp2_with fail
                refine wp_region_G (fun w' => w'.cell? ⟨rg, ro, none⟩ = some (.int .i64 r)) 38 (by kernel_rfl) hci (fun hHeld => ?_)
                refine wpAnyG_take (i := 0) (v := ?v0x12) rfl (by kernel_rfl) (fun _ _ _ h => h) (Or.inl ⟨by rfl, ?y0x12⟩) hHeld ?r0x12
                case y0x12 => (intro wS hSw; obtain s1 := hSw; go_simp; try with_reducible rfl)
                try simp only [Act.put, List.setIfInBounds_toArray, List.set_cons_zero, List.set_cons_succ]
                refine wpAnyG_take (i := 1) (v := ?v1x13) rfl (by kernel_rfl) (fun _ _ _ h => h) (Or.inl ⟨by rfl, ?y1x13⟩) hHeld ?r1x13
                case y1x13 => (intro wS hSw; obtain s1 := hSw; go_simp; try with_reducible rfl)
                try simp only [Act.put, List.setIfInBounds_toArray, List.set_cons_zero, List.set_cons_succ]
                refine wpAnyG_take (i := 2) (v := ?v2x14) rfl (by kernel_rfl) (fun _ _ _ h => h) (Or.inl ⟨by rfl, ?y2x14⟩) hHeld ?r2x14
                case y2x14 => (intro wS hSw; obtain s1 := hSw; go_simp; try with_reducible rfl)
                try simp only [Act.put, List.setIfInBounds_toArray, List.set_cons_zero, List.set_cons_succ]
                refine wpAnyG_take (i := 3) (v := ?v3x15) rfl (by kernel_rfl) (fun _ _ _ h => h) (Or.inl ⟨by rfl, ?y3x15⟩) hHeld ?r3x15
                case y3x15 => (intro wS hSw; obtain s1 := hSw; go_simp; try with_reducible rfl)
                try simp only [Act.put, List.setIfInBounds_toArray, List.set_cons_zero, List.set_cons_succ]
                refine wpAnyG_take (i := 4) (v := .bool false) rfl (by kernel_rfl) (fun _ _ _ h => h) (Or.inl ⟨by kernel_rfl, ?y4x16⟩) hHeld ?r4x16
                case y4x16 => (intro wS hSw; (go_simp; try simp only [hn0]))
                try simp only [Act.put, List.setIfInBounds_toArray, List.set_cons_zero, List.set_cons_succ]
                refine wpAnyG_take (i := 5) (v := .bool false) rfl (by kernel_rfl) (fun _ _ _ h => h) (Or.inl ⟨by kernel_rfl, ?y5x17⟩) hHeld ?r5x17
                case y5x17 => (intro wS hSw; (go_simp))
                try simp only [Act.put, List.setIfInBounds_toArray, List.set_cons_zero, List.set_cons_succ]
                refine wpAnyG_take (i := 6) (v := ?v6x18) rfl (by kernel_rfl) (fun _ _ _ h => h) (Or.inl ⟨by kernel_rfl, ?y6x18⟩) hHeld ?r6x18
                case y6x18 => (intro wS hSw; have s1 := hSw; go_simp; try with_reducible rfl)
                try simp only [Act.put, List.setIfInBounds_toArray, List.set_cons_zero, List.set_cons_succ]
                refine wpAnyG_take (i := 7) (v := ?v7x19) rfl (by kernel_rfl) (fun _ _ _ h => h) (Or.inl ⟨by kernel_rfl, ?y7x19⟩) hHeld ?r7x19
                case y7x19 => (intro wS hSw; have s1 := hSw; go_simp; try with_reducible rfl)
                try simp only [Act.put, List.setIfInBounds_toArray, List.set_cons_zero, List.set_cons_succ]
                refine wpAnyG_take (i := 8) (v := ?v8x20) rfl (by kernel_rfl) (fun _ _ _ h => h) (Or.inl ⟨by kernel_rfl, ?y8x20⟩) hHeld ?r8x20
                case y8x20 => (intro wS hSw; have s1 := hSw; go_simp; try with_reducible rfl)
                try simp only [Act.put, List.setIfInBounds_toArray, List.set_cons_zero, List.set_cons_succ]
                refine wpAnyG_take (i := 9) (v := ?v9x21) rfl (by kernel_rfl) (fun _ _ _ h => h) (Or.inl ⟨by kernel_rfl, ?y9x21⟩) hHeld ?r9x21
                case y9x21 => (intro wS hSw; have s1 := hSw; go_simp; try with_reducible rfl)
                try simp only [Act.put, List.setIfInBounds_toArray, List.set_cons_zero, List.set_cons_succ]
                refine wpAnyG_take (i := 10) (v := ?v10x22) rfl (by kernel_rfl) (fun _ _ _ h => h) (Or.inl ⟨by kernel_rfl, ?y10x22⟩) hHeld ?r10x22
                case y10x22 => (intro wS hSw; have s1 := hSw; go_simp; try with_reducible rfl)
                try simp only [Act.put, List.setIfInBounds_toArray, List.set_cons_zero, List.set_cons_succ]
                refine wpAnyG_take (i := 11) (v := .bool false) rfl (by kernel_rfl) (fun _ _ _ h => h) (Or.inl ⟨by kernel_rfl, ?y11x23⟩) hHeld ?r11x23
                case y11x23 => (intro wS hSw; (go_simp; try simp only [hnN]))
                try simp only [Act.put, List.setIfInBounds_toArray, List.set_cons_zero, List.set_cons_succ]
                refine wpAnyG_take (i := 12) (v := .bool false) rfl (by kernel_rfl) (fun _ _ _ h => h) (Or.inl ⟨by kernel_rfl, ?y12x24⟩) hHeld ?r12x24
                case y12x24 => (intro wS hSw; (go_simp))
                try simp only [Act.put, List.setIfInBounds_toArray, List.set_cons_zero, List.set_cons_succ]
                refine wpAnyG_take (i := 13) (v := .bool false) rfl (by kernel_rfl) (fun _ _ _ h => h) (Or.inl ⟨by kernel_rfl, ?y13x25⟩) hHeld ?r13x25
                case y13x25 => (intro wS hSw; (go_simp))
                try simp only [Act.put, List.setIfInBounds_toArray, List.set_cons_zero, List.set_cons_succ]
                refine wpAnyG_take (i := 14) (v := ?v14x26) rfl (by kernel_rfl) (fun _ _ _ h => h) (Or.inl ⟨by kernel_rfl, ?y14x26⟩) hHeld ?r14x26
                case y14x26 => (intro wS hSw; have s1 := hSw; go_simp; try with_reducible rfl)
                try simp only [Act.put, List.setIfInBounds_toArray, List.set_cons_zero, List.set_cons_succ]
                refine wpAnyG_take (i := 15) (v := .bool false) rfl (by kernel_rfl) (fun _ _ _ h => h) (Or.inl ⟨by kernel_rfl, ?y15x27⟩) hHeld ?r15x27
                case y15x27 => (intro wS hSw; (go_simp))
                try simp only [Act.put, List.setIfInBounds_toArray, List.set_cons_zero, List.set_cons_succ]
                refine wpAnyG_take (i := 16) (v := .bool false) rfl (by kernel_rfl) (fun _ _ _ h => h) (Or.inl ⟨by kernel_rfl, ?y16x28⟩) hHeld ?r16x28
                case y16x28 => (intro wS hSw; (go_simp))
                try simp only [Act.put, List.setIfInBounds_toArray, List.set_cons_zero, List.set_cons_succ]
                refine wpAnyG_take (i := 17) (v := undef) rfl (by kernel_rfl) (fun _ _ _ h => h) (Or.inr ⟨by kernel_rfl, rfl⟩) hHeld ?_
                try simp only [Act.put, List.setIfInBounds_toArray, List.set_cons_zero, List.set_cons_succ]
                refine wpAnyG_take (i := 18) (v := undef) rfl (by kernel_rfl) (fun _ _ _ h => h) (Or.inr ⟨by kernel_rfl, rfl⟩) hHeld ?_
                try simp only [Act.put, List.setIfInBounds_toArray, List.set_cons_zero, List.set_cons_succ]
                refine wpAnyG_take (i := 19) (v := undef) rfl (by kernel_rfl) (fun _ _ _ h => h) (Or.inr ⟨by kernel_rfl, rfl⟩) hHeld ?_
                try simp only [Act.put, List.setIfInBounds_toArray, List.set_cons_zero, List.set_cons_succ]
                refine wpAnyG_take (i := 20) (v := undef) rfl (by kernel_rfl) (fun _ _ _ h => h) (Or.inr ⟨by kernel_rfl, rfl⟩) hHeld ?_
                try simp only [Act.put, List.setIfInBounds_toArray, List.set_cons_zero, List.set_cons_succ]
                refine wpAnyG_take (i := 21) (v := undef) rfl (by kernel_rfl) (fun _ _ _ h => h) (Or.inr ⟨by kernel_rfl, rfl⟩) hHeld ?_
                try simp only [Act.put, List.setIfInBounds_toArray, List.set_cons_zero, List.set_cons_succ]
                refine wpAnyG_take (i := 22) (v := undef) rfl (by kernel_rfl) (fun _ _ _ h => h) (Or.inr ⟨by kernel_rfl, rfl⟩) hHeld ?_
                try simp only [Act.put, List.setIfInBounds_toArray, List.set_cons_zero, List.set_cons_succ]
                refine wpAnyG_take (i := 23) (v := undef) rfl (by kernel_rfl) (fun _ _ _ h => h) (Or.inr ⟨by kernel_rfl, rfl⟩) hHeld ?_
                try simp only [Act.put, List.setIfInBounds_toArray, List.set_cons_zero, List.set_cons_succ]
                refine wpAnyG_take (i := 24) (v := undef) rfl (by kernel_rfl) (fun _ _ _ h => h) (Or.inr ⟨by kernel_rfl, rfl⟩) hHeld ?_
                try simp only [Act.put, List.setIfInBounds_toArray, List.set_cons_zero, List.set_cons_succ]
                refine wpAnyG_take (i := 25) (v := undef) rfl (by kernel_rfl) (fun _ _ _ h => h) (Or.inr ⟨by kernel_rfl, rfl⟩) hHeld ?_
                try simp only [Act.put, List.setIfInBounds_toArray, List.set_cons_zero, List.set_cons_succ]
                refine wpAnyG_take (i := 26) (v := undef) rfl (by kernel_rfl) (fun _ _ _ h => h) (Or.inr ⟨by kernel_rfl, rfl⟩) hHeld ?_
                try simp only [Act.put, List.setIfInBounds_toArray, List.set_cons_zero, List.set_cons_succ]
                refine wpAnyG_take (i := 27) (v := .bool false) rfl (by kernel_rfl) (fun _ _ _ h => h) (Or.inl ⟨by kernel_rfl, ?y27x29⟩) hHeld ?r27x29
                case y27x29 => (intro wS hSw; (go_simp))
                try simp only [Act.put, List.setIfInBounds_toArray, List.set_cons_zero, List.set_cons_succ]
                refine wpAnyG_take (i := 28) (v := .bool false) rfl (by kernel_rfl) (fun _ _ _ h => h) (Or.inl ⟨by kernel_rfl, ?y28x30⟩) hHeld ?r28x30
                case y28x30 => (intro wS hSw; (go_simp))
                try simp only [Act.put, List.setIfInBounds_toArray, List.set_cons_zero, List.set_cons_succ]
                refine wpAnyG_take (i := 29) (v := .bool false) rfl (by kernel_rfl) (fun _ _ _ h => h) (Or.inl ⟨by kernel_rfl, ?y29x31⟩) hHeld ?r29x31
                case y29x31 => (intro wS hSw; (go_simp))
                try simp only [Act.put, List.setIfInBounds_toArray, List.set_cons_zero, List.set_cons_succ]
                refine wpAnyG_take (i := 30) (v := ?v30x32) rfl (by kernel_rfl) (fun _ _ _ h => h) (Or.inl ⟨by kernel_rfl, ?y30x32⟩) hHeld ?r30x32
                case y30x32 => (intro wS hSw; have s1 := hSw; go_simp; try with_reducible rfl)
                try simp only [Act.put, List.setIfInBounds_toArray, List.set_cons_zero, List.set_cons_succ]
                refine wpAnyG_take (i := 31) (v := ?v31x33) rfl (by kernel_rfl) (fun _ _ _ h => h) (Or.inl ⟨by kernel_rfl, ?y31x33⟩) hHeld ?r31x33
                case y31x33 => (intro wS hSw; have s1 := hSw; go_simp; try with_reducible rfl)
                try simp only [Act.put, List.setIfInBounds_toArray, List.set_cons_zero, List.set_cons_succ]
                refine wpAnyG_take (i := 32) (v := ?v32x34) rfl (by kernel_rfl) (fun _ _ _ h => h) (Or.inl ⟨by kernel_rfl, ?y32x34⟩) hHeld ?r32x34
                case y32x34 => (intro wS hSw; have s1 := hSw; go_simp; try with_reducible rfl)
                try simp only [Act.put, List.setIfInBounds_toArray, List.set_cons_zero, List.set_cons_succ]
                refine wpAnyG_take (i := 33) (v := ?v33x35) rfl (by kernel_rfl) (fun _ _ _ h => h) (Or.inl ⟨by kernel_rfl, ?y33x35⟩) hHeld ?r33x35
                case y33x35 => (intro wS hSw; have s1 := hSw; go_simp; try with_reducible rfl)
                try simp only [Act.put, List.setIfInBounds_toArray, List.set_cons_zero, List.set_cons_succ]
                refine wpAnyG_take (i := 34) (v := ?v34x36) rfl (by kernel_rfl) (fun _ _ _ h => h) (Or.inl ⟨by kernel_rfl, ?y34x36⟩) hHeld ?r34x36
                case y34x36 => (intro wS hSw; have s1 := hSw; go_simp; try with_reducible rfl)
                try simp only [Act.put, List.setIfInBounds_toArray, List.set_cons_zero, List.set_cons_succ]
                refine wpAnyG_take (i := 35) (v := ?v35x37) rfl (by kernel_rfl) (fun _ _ _ h => h) (Or.inl ⟨by kernel_rfl, ?y35x37⟩) hHeld ?r35x37
                case y35x37 => (intro wS hSw; have s1 := hSw; go_simp; try with_reducible rfl)
                try simp only [Act.put, List.setIfInBounds_toArray, List.set_cons_zero, List.set_cons_succ]
                refine wpAnyG_one (i := 36) rfl (by kernel_rfl) (fun K hK => ?_)
                rw [if_pos (by kernel_rfl)]
                go_simp
                refine (HA.out _ (HIL.out.belowP HK6.out.drew)).mono ?_
                rintro e V7 ⟨rfl, kV⟩
                have kV' : Below wr.heap.size wr V7 := (Below.refl _ _).drew.trans (kV.mono (by simp))
                have HB7 : Hid (Below V6.heap.size V6 V7) := HB.out.trans (kV'.mono HB.out.size)
                clear hHeld
                have hHeld : V7.cell? ⟨rg, ro, none⟩ = some (.int .i64 r) := (kV'.cell (p := ⟨rg, ro, none⟩) (Nat.lt_of_lt_of_le (HLr.out.lt (by omega)) HK6.out.size)).trans hci
                clear kV kV'
                refine hK.out _ _ hHeld ?_
                clear hK K
                try simp only [Act.put, List.setIfInBounds_toArray, List.set_cons_zero, List.set_cons_succ]
                refine wpAnyG_take (i := 37) (v := .bool false) rfl (by kernel_rfl) (fun _ _ _ h => h) (Or.inl ⟨by kernel_rfl, ?y37x38⟩) hHeld ?r37x38
                case y37x38 => (intro wS hSw; (go_simp))
                try simp only [Act.put, List.setIfInBounds_toArray, List.set_cons_zero, List.set_cons_succ]
                refine wpAnyG_last (i := 38) rfl (by kernel_rfl) (by kernel_rfl) (fun K hK => ?_)
                go_simp
                refine hK.out _ _ ?_
                clear hK K
                try simp only [Act.put, List.setIfInBounds_toArray, List.set_cons_zero, List.set_cons_succ]
                refine wpAnyG_done (by kernel_rfl) ?_ _
                go_wp2
                go_roundw
                case rel => exact ⟨1, by omega, by go_num, HB7.out⟩
                case measure => simp [intOf]; omega
              · have hup := hup hj
                have hij : (i : Int) - 1 = (j : Int) := by omega
                have hwj : IntKind.i64.wrap (j : Int) = (j : Int) := by rw [IntKind.wrap_i64]; omega
                have hi0 : decide (0 < (i : Int)) = true := decide_eq_true (by omega)
                have hjl : j < vn := by omega
                have hge : decide (r ≤ rj) = false := decide_eq_false (by omega)
                have HJ : Hid (i = j + 1) := hj
                have hipos : 0 < i := by omega
                clear hj
                go_wp2_with fail
                refine wp_region_G (fun w' => w'.cell? ⟨rg, ro + i, none⟩ = some (.int .i64 r) ∧ w'.cell? ⟨rg, ro + j, none⟩ = some (.int .i64 rj)) 38 (by kernel_rfl) ⟨hci, hcj⟩ (fun hHeld => ?_)
                refine wpAnyG_take (i := 0) (v := ?v0x39) rfl (by kernel_rfl) (fun _ _ _ h => h) (Or.inl ⟨by rfl, ?y0x39⟩) hHeld ?r0x39
                case y0x39 => (intro wS hSw; obtain ⟨s1, s2⟩ := hSw; go_simp; try with_reducible rfl)
                try simp only [Act.put, List.setIfInBounds_toArray, List.set_cons_zero, List.set_cons_succ]
                refine wpAnyG_take (i := 1) (v := ?v1x40) rfl (by kernel_rfl) (fun _ _ _ h => h) (Or.inl ⟨by rfl, ?y1x40⟩) hHeld ?r1x40
                case y1x40 => (intro wS hSw; obtain ⟨s1, s2⟩ := hSw; go_simp; try with_reducible rfl)
                try simp only [Act.put, List.setIfInBounds_toArray, List.set_cons_zero, List.set_cons_succ]
                refine wpAnyG_take (i := 2) (v := ?v2x41) rfl (by kernel_rfl) (fun _ _ _ h => h) (Or.inl ⟨by rfl, ?y2x41⟩) hHeld ?r2x41
                case y2x41 => (intro wS hSw; obtain ⟨s1, s2⟩ := hSw; go_simp; try with_reducible rfl)
                try simp only [Act.put, List.setIfInBounds_toArray, List.set_cons_zero, List.set_cons_succ]
                refine wpAnyG_take (i := 3) (v := ?v3x42) rfl (by kernel_rfl) (fun _ _ _ h => h) (Or.inl ⟨by rfl, ?y3x42⟩) hHeld ?r3x42
                case y3x42 => (intro wS hSw; obtain ⟨s1, s2⟩ := hSw; go_simp; try with_reducible rfl)
                try simp only [Act.put, List.setIfInBounds_toArray, List.set_cons_zero, List.set_cons_succ]
                refine wpAnyG_take (i := 4) (v := .bool false) rfl (by kernel_rfl) (fun _ _ _ h => h) (Or.inl ⟨by kernel_rfl, ?y4x43⟩) hHeld ?r4x43
                case y4x43 => (intro wS hSw; (go_simp; try simp only [hn0]))
                try simp only [Act.put, List.setIfInBounds_toArray, List.set_cons_zero, List.set_cons_succ]
                refine wpAnyG_take (i := 5) (v := .bool false) rfl (by kernel_rfl) (fun _ _ _ h => h) (Or.inl ⟨by kernel_rfl, ?y5x44⟩) hHeld ?r5x44
                case y5x44 => (intro wS hSw; (go_simp))
                try simp only [Act.put, List.setIfInBounds_toArray, List.set_cons_zero, List.set_cons_succ]
                refine wpAnyG_take (i := 6) (v := .slice (some ⟨rg, ro, none⟩) vn vc) rfl (by kernel_rfl) (fun _ _ _ h => h) (Or.inl ⟨by kernel_rfl, ?y6x45⟩) hHeld ?r6x45
                case y6x45 => (intro wS hSw; (go_simp))
                try simp only [Act.put, List.setIfInBounds_toArray, List.set_cons_zero, List.set_cons_succ]
                refine wpAnyG_take (i := 7) (v := .int .i64 i) rfl (by kernel_rfl) (fun _ _ _ h => h) (Or.inl ⟨by kernel_rfl, ?y7x46⟩) hHeld ?r7x46
                case y7x46 => (intro wS hSw; (go_simp))
                try simp only [Act.put, List.setIfInBounds_toArray, List.set_cons_zero, List.set_cons_succ]
                refine wpAnyG_take (i := 8) (v := .pointer (some ⟨rg, ro + i, none⟩)) rfl (by kernel_rfl) (fun _ _ _ h => h) (Or.inl ⟨by kernel_rfl, ?y8x47⟩) hHeld ?r8x47
                case y8x47 => (intro wS hSw; (go_simp))
                try simp only [Act.put, List.setIfInBounds_toArray, List.set_cons_zero, List.set_cons_succ]
                refine wpAnyG_take (i := 9) (v := .int .i64 r) rfl (by kernel_rfl) (fun _ _ _ h => h) (Or.inl ⟨by kernel_rfl, ?y9x48⟩) hHeld ?r9x48
                case y9x48 => (intro wS hSw; (obtain ⟨s1, s2⟩ := hSw; go_simp))
                try simp only [Act.put, List.setIfInBounds_toArray, List.set_cons_zero, List.set_cons_succ]
                refine wpAnyG_take (i := 10) (v := .int .i64 N) rfl (by kernel_rfl) (fun _ _ _ h => h) (Or.inl ⟨by kernel_rfl, ?y10x49⟩) hHeld ?r10x49
                case y10x49 => (intro wS hSw; (go_simp))
                try simp only [Act.put, List.setIfInBounds_toArray, List.set_cons_zero, List.set_cons_succ]
                refine wpAnyG_take (i := 11) (v := .bool false) rfl (by kernel_rfl) (fun _ _ _ h => h) (Or.inl ⟨by kernel_rfl, ?y11x50⟩) hHeld ?r11x50
                case y11x50 => (intro wS hSw; (go_simp; try simp only [hnN]))
                try simp only [Act.put, List.setIfInBounds_toArray, List.set_cons_zero, List.set_cons_succ]
                refine wpAnyG_take (i := 12) (v := .bool false) rfl (by kernel_rfl) (fun _ _ _ h => h) (Or.inl ⟨by kernel_rfl, ?y12x51⟩) hHeld ?r12x51
                case y12x51 => (intro wS hSw; (go_simp))
                try simp only [Act.put, List.setIfInBounds_toArray, List.set_cons_zero, List.set_cons_succ]
                refine wpAnyG_take (i := 13) (v := .bool false) rfl (by kernel_rfl) (fun _ _ _ h => h) (Or.inl ⟨by kernel_rfl, ?y13x52⟩) hHeld ?r13x52
                case y13x52 => (intro wS hSw; (go_simp))
                try simp only [Act.put, List.setIfInBounds_toArray, List.set_cons_zero, List.set_cons_succ]
                refine wpAnyG_take (i := 14) (v := .int .i64 i) rfl (by kernel_rfl) (fun _ _ _ h => h) (Or.inl ⟨by kernel_rfl, ?y14x53⟩) hHeld ?r14x53
                case y14x53 => (intro wS hSw; (go_simp))
                try simp only [Act.put, List.setIfInBounds_toArray, List.set_cons_zero, List.set_cons_succ]
                refine wpAnyG_take (i := 15) (v := .bool true) rfl (by kernel_rfl) (fun _ _ _ h => h) (Or.inl ⟨by kernel_rfl, ?y15x54⟩) hHeld ?r15x54
                case y15x54 => (intro wS hSw; (go_simp; try simp only [hi0]))
                try simp only [Act.put, List.setIfInBounds_toArray, List.set_cons_zero, List.set_cons_succ]
                refine wpAnyG_take (i := 16) (v := .bool true) rfl (by kernel_rfl) (fun _ _ _ h => h) (Or.inl ⟨by kernel_rfl, ?y16x55⟩) hHeld ?r16x55
                case y16x55 => (intro wS hSw; (go_simp))
                try simp only [Act.put, List.setIfInBounds_toArray, List.set_cons_zero, List.set_cons_succ]
                refine wpAnyG_take (i := 17) (v := .slice (some ⟨rg, ro, none⟩) vn vc) rfl (by kernel_rfl) (fun _ _ _ h => h) (Or.inl ⟨by kernel_rfl, ?y17x56⟩) hHeld ?r17x56
                case y17x56 => (intro wS hSw; (go_simp))
                try simp only [Act.put, List.setIfInBounds_toArray, List.set_cons_zero, List.set_cons_succ]
                refine wpAnyG_take (i := 18) (v := .int .i64 i) rfl (by kernel_rfl) (fun _ _ _ h => h) (Or.inl ⟨by kernel_rfl, ?y18x57⟩) hHeld ?r18x57
                case y18x57 => (intro wS hSw; (go_simp))
                try simp only [Act.put, List.setIfInBounds_toArray, List.set_cons_zero, List.set_cons_succ]
                refine wpAnyG_take (i := 19) (v := .int .i64 j) rfl (by kernel_rfl) (fun _ _ _ h => h) (Or.inl ⟨by kernel_rfl, ?y19x58⟩) hHeld ?r19x58
                case y19x58 => (intro wS hSw; (go_simp; try rw [hij]; try rw [hwj]))
                try simp only [Act.put, List.setIfInBounds_toArray, List.set_cons_zero, List.set_cons_succ]
                refine wpAnyG_take (i := 20) (v := .pointer (some ⟨rg, ro + j, none⟩)) rfl (by kernel_rfl) (fun _ _ _ h => h) (Or.inl ⟨by kernel_rfl, ?y20x59⟩) hHeld ?r20x59
                case y20x59 => (intro wS hSw; (go_simp))
                try simp only [Act.put, List.setIfInBounds_toArray, List.set_cons_zero, List.set_cons_succ]
                refine wpAnyG_take (i := 21) (v := .int .i64 rj) rfl (by kernel_rfl) (fun _ _ _ h => h) (Or.inl ⟨by kernel_rfl, ?y21x60⟩) hHeld ?r21x60
                case y21x60 => (intro wS hSw; (obtain ⟨s1, s2⟩ := hSw; go_simp))
                try simp only [Act.put, List.setIfInBounds_toArray, List.set_cons_zero, List.set_cons_succ]
                refine wpAnyG_take (i := 22) (v := .slice (some ⟨rg, ro, none⟩) vn vc) rfl (by kernel_rfl) (fun _ _ _ h => h) (Or.inl ⟨by kernel_rfl, ?y22x61⟩) hHeld ?r22x61
                case y22x61 => (intro wS hSw; (go_simp))
                try simp only [Act.put, List.setIfInBounds_toArray, List.set_cons_zero, List.set_cons_succ]
                refine wpAnyG_take (i := 23) (v := .int .i64 i) rfl (by kernel_rfl) (fun _ _ _ h => h) (Or.inl ⟨by kernel_rfl, ?y23x62⟩) hHeld ?r23x62
                case y23x62 => (intro wS hSw; (go_simp))
                try simp only [Act.put, List.setIfInBounds_toArray, List.set_cons_zero, List.set_cons_succ]
                refine wpAnyG_take (i := 24) (v := .pointer (some ⟨rg, ro + i, none⟩)) rfl (by kernel_rfl) (fun _ _ _ h => h) (Or.inl ⟨by kernel_rfl, ?y24x63⟩) hHeld ?r24x63
                case y24x63 => (intro wS hSw; (go_simp))
                try simp only [Act.put, List.setIfInBounds_toArray, List.set_cons_zero, List.set_cons_succ]
                refine wpAnyG_take (i := 25) (v := .int .i64 r) rfl (by kernel_rfl) (fun _ _ _ h => h) (Or.inl ⟨by kernel_rfl, ?y25x64⟩) hHeld ?r25x64
                case y25x64 => (intro wS hSw; (obtain ⟨s1, s2⟩ := hSw; go_simp))
                try simp only [Act.put, List.setIfInBounds_toArray, List.set_cons_zero, List.set_cons_succ]
                refine wpAnyG_take (i := 26) (v := .bool false) rfl (by kernel_rfl) (fun _ _ _ h => h) (Or.inl ⟨by kernel_rfl, ?y26x65⟩) hHeld ?r26x65
                case y26x65 => (intro wS hSw; (go_simp; try simp only [hge]))
                try simp only [Act.put, List.setIfInBounds_toArray, List.set_cons_zero, List.set_cons_succ]
                refine wpAnyG_take (i := 27) (v := .bool false) rfl (by kernel_rfl) (fun _ _ _ h => h) (Or.inl ⟨by kernel_rfl, ?y27x66⟩) hHeld ?r27x66
                case y27x66 => (intro wS hSw; (go_simp))
                try simp only [Act.put, List.setIfInBounds_toArray, List.set_cons_zero, List.set_cons_succ]
                refine wpAnyG_take (i := 28) (v := .bool false) rfl (by kernel_rfl) (fun _ _ _ h => h) (Or.inl ⟨by kernel_rfl, ?y28x67⟩) hHeld ?r28x67
                case y28x67 => (intro wS hSw; (go_simp))
                try simp only [Act.put, List.setIfInBounds_toArray, List.set_cons_zero, List.set_cons_succ]
                refine wpAnyG_take (i := 29) (v := .bool false) rfl (by kernel_rfl) (fun _ _ _ h => h) (Or.inl ⟨by kernel_rfl, ?y29x68⟩) hHeld ?r29x68
                case y29x68 => (intro wS hSw; (go_simp))
                try simp only [Act.put, List.setIfInBounds_toArray, List.set_cons_zero, List.set_cons_succ]
                refine wpAnyG_take (i := 30) (v := .slice aa l.length cap) rfl (by kernel_rfl) (fun _ _ _ h => h) (Or.inl ⟨by kernel_rfl, ?y30x69⟩) hHeld ?r30x69
                case y30x69 => (intro wS hSw; (go_simp))
                try simp only [Act.put, List.setIfInBounds_toArray, List.set_cons_zero, List.set_cons_succ]
                refine wpAnyG_take (i := 31) (v := .slice (some ⟨rg, ro, none⟩) vn vc) rfl (by kernel_rfl) (fun _ _ _ h => h) (Or.inl ⟨by kernel_rfl, ?y31x70⟩) hHeld ?r31x70
                case y31x70 => (intro wS hSw; (go_simp))
                try simp only [Act.put, List.setIfInBounds_toArray, List.set_cons_zero, List.set_cons_succ]
                refine wpAnyG_take (i := 32) (v := .int .i64 i) rfl (by kernel_rfl) (fun _ _ _ h => h) (Or.inl ⟨by kernel_rfl, ?y32x71⟩) hHeld ?r32x71
                case y32x71 => (intro wS hSw; (go_simp))
                try simp only [Act.put, List.setIfInBounds_toArray, List.set_cons_zero, List.set_cons_succ]
                refine wpAnyG_take (i := 33) (v := .pointer (some ⟨rg, ro + i, none⟩)) rfl (by kernel_rfl) (fun _ _ _ h => h) (Or.inl ⟨by kernel_rfl, ?y33x72⟩) hHeld ?r33x72
                case y33x72 => (intro wS hSw; (go_simp))
                try simp only [Act.put, List.setIfInBounds_toArray, List.set_cons_zero, List.set_cons_succ]
                refine wpAnyG_take (i := 34) (v := .int .i64 r) rfl (by kernel_rfl) (fun _ _ _ h => h) (Or.inl ⟨by kernel_rfl, ?y34x73⟩) hHeld ?r34x73
                case y34x73 => (intro wS hSw; (obtain ⟨s1, s2⟩ := hSw; go_simp))
                try simp only [Act.put, List.setIfInBounds_toArray, List.set_cons_zero, List.set_cons_succ]
                refine wpAnyG_take (i := 35) (v := .int .i64 N) rfl (by kernel_rfl) (fun _ _ _ h => h) (Or.inl ⟨by kernel_rfl, ?y35x74⟩) hHeld ?r35x74
                case y35x74 => (intro wS hSw; (go_simp))
                try simp only [Act.put, List.setIfInBounds_toArray, List.set_cons_zero, List.set_cons_succ]
                refine wpAnyG_one (i := 36) rfl (by kernel_rfl) (fun K hK => ?_)
                rw [if_pos (by kernel_rfl)]
                go_simp
                refine (HA.out _ (HIL.out.belowP HK6.out.drew)).mono ?_
                rintro e V7 ⟨rfl, kV⟩
                have kV' : Below wr.heap.size wr V7 := (Below.refl _ _).drew.trans (kV.mono (by simp))
                have HB7 : Hid (Below V6.heap.size V6 V7) := HB.out.trans (kV'.mono HB.out.size)
                have hgw : rg < wr.heap.size := Nat.lt_of_lt_of_le (HLr.out.lt (by omega)) HK6.out.size
                clear hHeld
                have hHeld : V7.cell? ⟨rg, ro + i, none⟩ = some (.int .i64 r) ∧ V7.cell? ⟨rg, ro + j, none⟩ = some (.int .i64 rj) := ⟨(kV'.cell (p := ⟨rg, ro + i, none⟩) hgw).trans hci, (kV'.cell (p := ⟨rg, ro + j, none⟩) hgw).trans hcj⟩
                clear kV kV' hgw
                refine hK.out _ _ hHeld ?_
                clear hK K
                try simp only [Act.put, List.setIfInBounds_toArray, List.set_cons_zero, List.set_cons_succ]
                refine wpAnyG_take (i := 37) (v := .bool false) rfl (by kernel_rfl) (fun _ _ _ h => h) (Or.inl ⟨by kernel_rfl, ?y37x75⟩) hHeld ?r37x75
                case y37x75 => (intro wS hSw; (go_simp))
                try simp only [Act.put, List.setIfInBounds_toArray, List.set_cons_zero, List.set_cons_succ]
                refine wpAnyG_last (i := 38) rfl (by kernel_rfl) (by kernel_rfl) (fun K hK => ?_)
                go_simp
                refine hK.out _ _ ?_
                clear hK K
                try simp only [Act.put, List.setIfInBounds_toArray, List.set_cons_zero, List.set_cons_succ]
                refine wpAnyG_done (by kernel_rfl) ?_ _
                go_wp2
                go_roundw
                case rel => exact ⟨i + 1, by omega, by go_num, HB7.out⟩
                case measure => simp [intOf]; omega
            · obtain rfl : i = vn := by omega
              have HKW : Hid (Below w1.heap.size w1 wr) := H6.out.k.trans (HB.out.mono H6.out.k.size)
              by_cases h3000 : 3000 < N
              · go_wp2
                go_ret
                exact ⟨rfl, HK1.out.trans (HKW.out.mono HK1.out.size)⟩
              · obtain ⟨W7, hW7⟩ : ∃ W7, W7 = wr := ⟨_, rfl⟩
                go_wp2
                go_loopw [12, 13] (fun mv xv wx => ∃ z m : Nat, z ≤ N ∧ m ≤ z ∧ xv = .int .i64 z ∧ mv = .int .i64 m ∧ Hid (m = (cntR l N z).length ∧ Below w1.heap.size w1 wx)) (fun _ xv _ => N - (intOf xv).toNat)
                case atStart => exact ⟨0, 0, Nat.zero_le _, Nat.le_refl _, rfl, rfl, rfl, HKW.out⟩
                case round =>
                  obtain ⟨z, m, hz, hm, rfl, rfl, HC⟩ := hrel
                  by_cases hzl : z < N
                  · have v0 := Int.emod_nonneg (pv l (z : Int)) (show (N : Int) ≠ 0 by omega)
                    have v1 := Int.emod_lt_of_pos (pv l (z : Int)) (show 0 < (N : Int) by omega)
                    obtain ⟨V, hV⟩ : ∃ V, V = pv l (z : Int) % (N : Int) := ⟨_, rfl⟩
                    have HA : Hid (∀ w, IS w (.slice aa l.length cap) l → Calls Tryz.prog 9 #[.slice aa l.length cap, .int .i64 z, .int .i64 N] w fun e w' => e = .returned (.int .i64 V) ∧ Below w.heap.size w w') := by
                      rw [hV]; exact HAt.out z (by omega) (by omega)
                    have HVE : Hid (V = pv l (z : Int) % (N : Int)) := hV
                    rw [← hV] at v0 v1
                    clear hV
                    go_wp2_with fail
                    refine (HA.out _ (HIL.out.belowP HC.out.2)).mono ?_
                    rintro e V8 ⟨rfl, kV⟩
                    have HK8 : Hid (Below w1.heap.size w1 V8) := HC.out.2.trans (kV.mono HC.out.2.size)
                    clear kV
                    by_cases h0 : V = 0
                    · have hvb : (V == 0) = true := by rw [h0]; rfl
                      have HN1 : Hid (m + 1 = (cntR l N (z + 1)).length) := by show _ = _; rw [cntR_succ, if_pos (by rw [← HVE.out]; exact h0), ← HC.out.1]
                      subst h0
                      go_wp2
                      go_roundw
                      case rel => exact ⟨z + 1, m + 1, by omega, by omega, by go_num, by go_num, HN1.out, HK8.out⟩
                      case measure => simp [intOf]; omega
                    · have hvb : (V == 0) = false := beq_eq_false_iff_ne.2 h0
                      have HN1 : Hid (m = (cntR l N (z + 1)).length) := by show _ = _; rw [cntR_succ, if_neg (by rw [← HVE.out]; exact h0), Nat.add_zero]; exact HC.out.1
                      clear h0
                      go_wp2
                      go_roundw
                      case rel => exact ⟨z + 1, m, by omega, by omega, by go_num, rfl, HN1.out, HK8.out⟩
                      case measure => simp [intOf]; omega
                  · obtain rfl : z = N := by omega
                    have hmv : m = i := by
                      have h1 := HLr.out.root.len (cntR_root l z)
                      have h2 := HC.out.1
                      have h3 := HLr.out.len
                      omega
                    subst hmv
                    go_wp2
                    go_ret
                    exact ⟨rfl, HK1.out.trans (HC.out.2.mono HK1.out.size)⟩
      · have hcn : (c' != 0) = true := by simp [bne]; exact hc'
        have hce : (c' == 0) = false := beq_eq_false_iff_ne.2 hc'
        obtain ⟨rfl, rfl, rfl, rfl, rfl⟩ : va = none ∧ vn = 0 ∧ vc = 0 ∧ c1 = c' ∧ a1 = a' := by
          rcases hR2 with ⟨h1, h2, h3, _, h5⟩ | ⟨h, _⟩
          · obtain ⟨e1, e2⟩ := h5.uniq hpl
            exact ⟨h1, h2, h3, e1, e2⟩
          · exact absurd (h.uniq hpl).1.symm hc'
        clear hR2 hc' hpl
        go_wp2_with fail
        have hq := H2.out.set2 c1 a1
        generalize hN : ((V2.setCell ⟨w3.heap.size, 0, none⟩ (.int .i64 c1)).setCell ⟨w3.heap.size, 1, none⟩ (.int .i64 a1)) = V3 at hq ⊢
        clear hN x0 x1 x2 x3 x4 x5
        have H3 : Hid (Bh w1 V3 w1.heap.size w3.heap.size c1 a1 c1 a1) := hq
        clear hq
        refine (HBg.out _ (HT1.out.below H3.out.k)).mono ?_
        rintro e V4 ⟨rfl, kV⟩
        have H4 : Hid (Bh w1 V4 w1.heap.size w3.heap.size c1 a1 c1 a1) := H3.out.below kV
        clear kV
        have x0 := H4.out.s1.c0
        have x1 := H4.out.s1.c1
        have x2 := H4.out.s2.c0
        have x3 := H4.out.s2.c1
        go_wp2
        go_ret
        exact ⟨rfl, HK1.out.trans (H4.out.k.mono HK1.out.size)⟩
    · obtain ⟨rfl, rfl, rfl, rfl, rfl⟩ : va = none ∧ vn = 0 ∧ vc = 0 ∧ c1 = c ∧ a1 = at' := by
        rcases HRs.out with ⟨h1, h, M', hp⟩ | ⟨M', P', K', hg', h⟩
        · obtain ⟨_, e1, e2⟩ := hp.uniq HPf.out
          simp only [Value.slice.injEq] at h1
          exact ⟨h1.1, h1.2.1, h1.2.2, e1, e2⟩
        · exact absurd (HPf.out.uniq hg'.pf).2.1 hc0
      have hcn : (c1 != 0) = true := by simp [bne]; exact hc0
      have hce : (c1 == 0) = false := beq_eq_false_iff_ne.2 hc0
      clear HRs HPf hc0
      go_wp2_with fail
      generalize hV1 : w3.alloc (.cells #[.int .i64 c1, .int .i64 a1] 25) = V1 at HQ ⊢
      clear hV1
      refine (HBg.out _ (HT1.out.below HQ.out.k)).mono ?_
      rintro e V4 ⟨rfl, kV⟩
      have H4 : Hid (Bh w1 V4 w1.heap.size w3.heap.size c1 a1 c1 a1) := HQ.out.below kV
      clear kV
      have x0 := H4.out.s1.c0
      have x1 := H4.out.s1.c1
      have x2 := H4.out.s2.c0
      have x3 := H4.out.s2.c1
      go_wp2
      go_ret
      exact ⟨rfl, HK1.out.trans (H4.out.k.mono HK1.out.size)⟩

end Go.Proofs.YtidndbdjhapfaaaGreatDoor
