import Derived.Test.YtcnfhndejkngkaaGreatDoorHoB
set_option linter.unusedSimpArgs false
set_option linter.unusedVariables false
set_option maxRecDepth 100000
namespace Go.Proofs.YtcnfhndejkngkaaGreatDoor
open Go.RowKit
theorem len50 {l n : Nat} (h : 2 ^ l ≤ n) (hn : n ≤ 1000000) : l ≤ 50 := by
  rcases Nat.lt_or_ge 50 l with h2 | h2
  · have : 2 ^ 50 ≤ 2 ^ l := Nat.pow_le_pow_right (by decide) (by omega)
    have h2 : (2 : Nat) ^ 50 = 1125899906842624 := by decide
    omega
  · exact h2
structure Og (U m n : Nat) (T : List (Int × Int)) : Prop where
  u1 : 1 ≤ U
  u6 : U ≤ 1000000
  hn : n = T.length
  n5 : n ≤ 50
  tp : OR.Tp T
  p6 : ∀ x ∈ T, x.1 ≤ 1000000
  e : 10 ^ U % m = 1 % m
  all : ∀ q, Pr q → q ∣ U → ∃ x ∈ T, x.1 = (q : Int)
theorem og_ex {m : Nat} (hm : 2 ≤ m) (hm6 : m ≤ 1000000) (hc : Nat.gcd 10 m = 1) : ∃ fs fs2, Pmv fs ∧ fs.length ≤ 50 ∧ prd fs = (m : Int) ∧ Pmv fs2 ∧ fs2.length ≤ 50 ∧ prd fs2 = ((OR.phN (tly fs) : Nat) : Int) ∧ OR.phN (tly fs) ≤ 1000000 ∧ 1 ≤ OR.phN (tly fs) ∧ Og (OR.phN (tly fs)) m (tly fs2).length (tly fs2) := by
  obtain ⟨fs, hfs, hprd, _, hlen⟩ := pm_ex m (by omega)
  obtain ⟨t1, t2, _⟩ := OR.tly_tp fs hfs
  have hpw : OR.pwT (tly fs) = m := by rw [hprd] at t2; omega
  obtain ⟨l1, l2⟩ := OR.phN_le _ t1
  rw [hpw] at l2
  obtain ⟨fs2, hfs2, hprd2, _, hlen2⟩ := pm_ex (OR.phN (tly fs)) (by omega)
  obtain ⟨s1, s2, _, s4, s5, _⟩ := OR.tly_tp fs2 hfs2
  have h50 := len50 hlen2 (by omega)
  refine ⟨fs, fs2, hfs, len50 hlen hm6, hprd, hfs2, h50, hprd2, by omega, l1, l1, by omega, rfl, ?_, s1, fun x hx => ?_, ?_, fun q hq hd => ?_⟩
  · have := tly_len fs2; omega
  · have h1 := prd_dvd (s5 x hx)
    rw [hprd2] at h1
    have := Int.le_of_dvd (by omega) h1
    omega
  · have h := OR.euler t1 (b := 10) (by decide) (fun x hx h0 => by
      obtain ⟨p, t, rfl, hp, ht⟩ := t1.mem x hx
      have h1 := OR.pq_mem _ _ hx
      rw [hpw] at h1
      have h2 : p ∣ OR.pq ((p : Int), (t : Int)) := by
        unfold OR.pq
        simp only [Int.toNat_natCast]
        obtain ⟨s, rfl⟩ : ∃ s, t = s + 1 := ⟨t - 1, by omega⟩
        exact ⟨p ^ s, by rw [Nat.pow_succ, Nat.mul_comm]⟩
      have h3 : p ∣ 10 := Nat.dvd_of_mod_eq_zero (by simpa using h0)
      have h4 := Nat.dvd_gcd h3 (Nat.dvd_trans h2 h1)
      rw [hc] at h4
      have := Nat.le_of_dvd (by decide) h4
      have := hp.1
      omega)
    rw [hpw] at h
    exact h
  · exact s4 q (pm_mem hfs2 hq (by rw [hprd2]; exact Int.natCast_dvd_natCast.2 hd))
set_option maxHeartbeats 4000000 in
theorem ordersBy_any (m : Nat) (hm : 2 ≤ m) (hm6 : m ≤ 1000000) (hc : Nat.gcd 10 m = 1) (w : World) (hT : Tb w) :
    Calls Tryz.prog 144 #[.int .i64 (m : Int)] w fun e w' => ∃ bU bP bM U n a c T, e = .returned (.func (.func 157) #[] #[.pointer (some ⟨bU, 0, none⟩), .pointer (some ⟨bP, 0, none⟩), .pointer (some ⟨bM, 0, none⟩)]) ∧ Og U m n T ∧ Oc bU bP bM U m n a c T w' ∧ Below w.heap.size w w' := by
  obtain ⟨fs, fs2, a1, a2, a3, a4, a5, a6, a7, a8, a9⟩ := og_ex hm hm6 hc
  obtain ⟨U, hU⟩ : ∃ U, U = OR.phN (tly fs) := ⟨_, rfl⟩
  obtain ⟨T, hTl⟩ : ∃ T, T = tly fs2 := ⟨_, rfl⟩
  obtain ⟨n, hn⟩ : ∃ n, n = T.length := ⟨_, rfl⟩
  rw [← hU] at a6 a7 a8 a9
  rw [← hTl, ← hn] at a9
  have HG : Hid (Og U m n T) := a9
  have HPh : Hid (∀ W, Tb W → Calls Tryz.prog 155 #[.int .i64 (m : Int)] W fun e w' => e = .returned (.tuple #[.int .i64 (U : Int), .agg #[.int .i64 0, .int .i64 0]]) ∧ Below W.heap.size W w') := fun W h => by
    rw [hU]; exact Phi_any m fs a1 a2 a3 hm6 W h
  have HFc : Hid (∀ W, Tb W → Calls Tryz.prog 156 #[.int .i64 (U : Int)] W (FctPost fs2 W)) := fun W h => Factor_pm fs2 U a4 a5 a6.symm (by omega) W h
  have HTl : Hid (tly fs2 = T ∧ n = T.length) := ⟨hTl.symm, hn⟩
  have HT : Hid (Tb w) := hT
  clear a1 a2 a3 a4 a5 a6 a7 a8 a9 hU hTl hn hT hc
  obtain ⟨bM, hbM⟩ : ∃ b, b = w.heap.size := ⟨_, rfl⟩
  obtain ⟨W0, hW0⟩ : ∃ W, W = w.alloc (.cells #[.int .i64 (m : Int)] 3) := ⟨_, rfl⟩
  have K0 : Hid (Cl bM [.int .i64 (m : Int)] 3 W0 ∧ Below w.heap.size w W0) := by
    show _ ∧ _
    rw [hW0, hbM]
    exact ⟨Cl.new [.int .i64 (m : Int)] _ w, (Below.refl _ _).alloc (Nat.le_refl _) _⟩
  go_enter Tryz.func144, Tryz.ntmps144
  go_wp2_with fail
  rw [← hW0]
  simp only [← hbM]
  clear hW0 hbM
  refine (HPh.out W0 (HT.out.below K0.out.2)).mono ?_
  rintro e w1 ⟨rfl, k1⟩
  obtain ⟨bU, hbU⟩ : ∃ b, b = w1.heap.size := ⟨_, rfl⟩
  obtain ⟨W2, hW2⟩ : ∃ W, W = (w1.alloc (.cells #[.int .i64 (U : Int)] 3)).alloc (.cells #[.int .i64 0, .int .i64 0] 25) := ⟨_, rfl⟩
  have K2 : Hid (Cl bM [.int .i64 (m : Int)] 3 W2 ∧ Cl bU [.int .i64 (U : Int)] 3 W2 ∧ Below w.heap.size w W2) := by
    have h := K0.out.2.trans (k1.mono K0.out.2.size)
    show _ ∧ _
    rw [hW2, hbU]
    exact ⟨((K0.out.1.below k1).alloc _).alloc _, (Cl.new [.int .i64 (U : Int)] _ w1).alloc _, (h.alloc h.size _).alloc (by have := h.size; simp; omega) _⟩
  clear k1 K0
  go_wp2_with fail
  rw [← hW2]
  simp only [← hbU]
  clear hW2 hbU
  refine (HFc.out W2 (HT.out.below K2.out.2.2)).mono ?_
  rintro e w3 ⟨a, c, rfl, row, k3⟩
  rw [HTl.out.1, ← HTl.out.2] at row ⊢
  have HC : Hid (∀ i, i < n → ∃ g, a = some ⟨g, 0, none⟩ ∧ g < w3.heap.size ∧ w3.cell? ⟨g, i * 2, none⟩ = some (.int .i64 (T.getD i (0, 0)).1) ∧ w3.cell? ⟨g, i * 2 + 1, none⟩ = some (.int .i64 (T.getD i (0, 0)).2)) := by
    intro i hi
    obtain ⟨n', hn'⟩ : ∃ n', n = n' + 1 := ⟨n - 1, by omega⟩
    obtain ⟨h1, h2⟩ := pvals_at T i (by have := HTl.out.2; omega)
    have row2 := row
    rw [hn'] at row2
    obtain ⟨g, cap, he⟩ := ownsRow_succ row2
    simp only [Value.slice.injEq] at he
    obtain ⟨rfl, _, rfl⟩ := he
    exact ⟨g, rfl, (row.lt g rfl).2, by rw [row.cellAt (i * 2) (by omega)]; exact h1, by rw [row.cellAt (i * 2 + 1) (by omega)]; exact h2⟩
  obtain ⟨bP, hbP⟩ : ∃ b, b = w3.heap.size := ⟨_, rfl⟩
  obtain ⟨W4, hW4⟩ : ∃ W, W = (w3.alloc (.cells #[.slice a n c] 185)).alloc (.cells #[.int .i64 0, .int .i64 0] 25) := ⟨_, rfl⟩
  have K4 : Hid (Oc bU bP bM U m n a c T W4 ∧ Below w.heap.size w W4) := by
    have h := K2.out.2.2.trans (k3.mono K2.out.2.2.size)
    have k4 : Below w3.heap.size w3 W4 := by rw [hW4]; exact ((Below.refl _ _).alloc (Nat.le_refl _) _).alloc (by simp) _
    refine ⟨⟨(K2.out.2.1.below k3).below k4, ?_, (K2.out.1.below k3).below k4, fun i hi => ?_⟩, h.trans (k4.mono h.size)⟩
    · rw [hW4, hbP]; exact (Cl.new [.slice a n c] _ w3).alloc _
    · obtain ⟨g, h1, h2, h3, h4⟩ := HC.out i hi
      exact ⟨g, h1, Nat.lt_of_lt_of_le h2 k4.size, (k4.cell (p := ⟨g, i * 2, none⟩) h2).trans h3, (k4.cell (p := ⟨g, i * 2 + 1, none⟩) h2).trans h4⟩
  clear row k3 K2 HC
  go_wp2_with fail
  rw [← hW4]
  simp only [← hbP]
  clear hW4 hbP
  go_wp2
  go_ret
  exact ⟨bU, bP, bM, U, n, a, c, T, rfl, HG.out, K4.out.1, K4.out.2⟩
theorem isUnit_ten (m : Nat) (hm6 : m ≤ 1000000) (hc : Nat.gcd 10 m = 1) (w : World) :
    Calls Tryz.prog 143 #[.int .i64 10, .int .i64 (m : Int)] w fun e w' => e = .returned (.bool true) ∧ Below w.heap.size w w' := by
  have HG : Hid (∀ W, Calls Tryz.prog 65 #[.int .i64 10, .int .i64 (m : Int)] W fun e w' => e = .returned (.tuple #[.int .i64 1, .agg #[.int .i64 0, .int .i64 0]]) ∧ Below W.heap.size W w') := fun W => by
    have h := Gcd_ok 10 (m : Int) W (by unfold okB; rw [numB_mk (by decide) (by decide), numB_mk (by omega) (by omega)]; rfl)
    rw [show Int.gcd 10 (m : Int) = Nat.gcd 10 m from rfl, hc] at h
    exact h
  clear hc
  go_enter Tryz.func143, Tryz.ntmps143
  go_wp2_with fail
  refine (HG.out _).mono ?_
  rintro e w1 ⟨rfl, k1⟩
  go_wp2
  go_ret
  exact ⟨rfl, k1.alloc k1.size _⟩
set_option maxHeartbeats 4000000 in
theorem Order_ten (m : Nat) (hm : 2 ≤ m) (hm6 : m ≤ 1000000) (hc : Nat.gcd 10 m = 1) (w : World) (hT : Tb w) :
    Calls Tryz.prog 122 #[.int .i64 10, .int .i64 (m : Int)] w fun e w' => ∃ o : Nat, e = .returned (.tuple #[.int .i64 (o : Int), .agg #[.int .i64 0, .int .i64 0]]) ∧ (1 ≤ o ∧ o ≤ 1000000 ∧ 10 ^ o % m = 1 % m ∧ ∀ k, 1 ≤ k → 10 ^ k % m = 1 % m → o ≤ k) ∧ Below w.heap.size w w' := by
  have hok : okB 10 (m : Int) = true := by unfold okB; rw [numB_mk (by decide) (by decide), numB_mk (by omega) (by omega)]; rfl
  have HCD : Hid (nf 0 [10, (m : Int)] = (0, 0)) := okB_nf hok
  have HUn : Hid (∀ W, Calls Tryz.prog 143 #[.int .i64 10, .int .i64 (m : Int)] W fun e w' => e = .returned (.bool true) ∧ Below W.heap.size W w') := fun W => isUnit_ten m hm6 hc W
  have HBy : Hid (∀ W, Tb W → Calls Tryz.prog 144 #[.int .i64 (m : Int)] W fun e w' => ∃ bU bP bM U n a c T, e = .returned (.func (.func 157) #[] #[.pointer (some ⟨bU, 0, none⟩), .pointer (some ⟨bP, 0, none⟩), .pointer (some ⟨bM, 0, none⟩)]) ∧ Og U m n T ∧ Oc bU bP bM U m n a c T w' ∧ Below W.heap.size W w') := fun W h => ordersBy_any m hm hm6 hc W h
  have HT : Hid (Tb w) := hT
  have d1 : decide ((m : Int) < 1) = false := decide_eq_false (by omega)
  clear hok hT hc
  go_enter Tryz.func122, Tryz.ntmps122
  go_wp2_with fail
  refine (numbersFault_any [10, (m : Int)] _ 0 _ _ (by simp) ?_ ?_).mono ?_
  · simp
  · exact two_cells 10 (m : Int) _ _ (by simp) (by simp)
  rw [HCD.out]
  rintro e w1 ⟨rfl, hb⟩
  obtain ⟨W2, hW2⟩ : ∃ W, W = w1.alloc (.cells #[.int .i64 0, .int .i64 0] 25) := ⟨_, rfl⟩
  have HB1 : Below w.heap.size w w1 := Below.trans (Below.alloc (Below.alloc (Below.refl _ _) (Nat.le_refl _) _) (by simp) _) (hb.mono (by simp; omega))
  have K2 : Hid (Cl w.heap.size [.int .i64 0, .int .i64 0] 25 W2 ∧ Below w.heap.size w W2) := by
    show _ ∧ _
    rw [hW2]
    exact ⟨(((Cl.new [.int .i64 0, .int .i64 0] 25 w).alloc _).below hb).alloc _, HB1.alloc HB1.size _⟩
  clear hb HB1
  go_wp2_with fail
  rw [← hW2]
  clear hW2
  refine (HUn.out W2).mono ?_
  rintro e w3 ⟨rfl, k3⟩
  have K3 : Hid (Cl w.heap.size [.int .i64 0, .int .i64 0] 25 w3 ∧ Below w.heap.size w w3) := ⟨K2.out.1.below k3, K2.out.2.trans (k3.mono K2.out.2.size)⟩
  clear k3 K2
  go_wp2_with fail
  refine (HBy.out w3 (HT.out.below K3.out.2)).mono ?_
  rintro e w4 ⟨bU, bP, bM, U, n, a, c, T, rfl, hg, ho, k4⟩
  have HG : Hid (Og U m n T ∧ Oc bU bP bM U m n a c T w4) := ⟨hg, ho⟩
  have K4 : Hid (Cl w.heap.size [.int .i64 0, .int .i64 0] 25 w4 ∧ Below w.heap.size w w4) := ⟨K3.out.1.below k4, K3.out.2.trans (k4.mono K3.out.2.size)⟩
  clear k4 K3 hg ho
  go_wp2_with fail
  have g := HG.out.1
  refine (orders1_any U m n T a c bU bP bM w4 hm hm6 g.u1 g.u6 g.hn g.n5 g.tp g.p6 g.e g.all HG.out.2).mono ?_
  rintro e w5 ⟨o, rfl, ⟨h1, h2, h3, h4⟩, k5⟩
  have HO : Hid (1 ≤ o ∧ o ≤ 1000000 ∧ 10 ^ o % m = 1 % m ∧ ∀ k, 1 ≤ k → 10 ^ k % m = 1 % m → o ≤ k) := ⟨h1, by have := g.u6; omega, h3, h4⟩
  have F5 := K4.out.1.below k5
  have HF5 : Hid (Cl w.heap.size [.int .i64 0, .int .i64 0] 25 w5) := F5
  have HK5 : Hid (Below w.heap.size w w5) := K4.out.2.trans (k5.mono K4.out.2.size)
  have f0 := F5.cell 0
  have f1 := F5.cell 1
  have f2 := F5.frozen 0
  have f3 := F5.frozen 1
  simp at f0 f1
  clear F5 k5 K4 HG g h1 h2 h3 h4
  go_wp2
  have Z := (HF5.out.set 0 (.int .i64 0)).set 1 (.int .i64 0)
  have z0 := Z.cell 0
  have z1 := Z.cell 1
  simp at z0 z1
  exact bodyPost_ret (v := .tuple #[.int .i64 (o : Int), .agg #[.int .i64 0, .int .i64 0]]) (by simp [results, Tryz.results122, go_sem, z0, z1]) rfl ⟨o, rfl, HO.out, (HK5.out.setCell (Nat.le_refl _) _).setCell (Nat.le_refl _) _⟩
end Go.Proofs.YtcnfhndejkngkaaGreatDoor
