import Derived.Test.YtcnfhndejkngkaaGreatDoorJpAa
import Derived.Test.YtcnfhndejkngkaaGreatDoorHoC
import Derived.Test.YtcnfhndejkngkaaGreatDoorJpX
set_option linter.unusedSimpArgs false
set_option linter.unusedVariables false
set_option maxRecDepth 100000
namespace Go.Proofs.YtcnfhndejkngkaaGreatDoor
open Go.RowKit LgM
theorem DC.el_le : ∀ f d, (DC.el f d).1 ≤ f
  | 0, _ => Nat.le_refl _
  | f + 1, d => by
    unfold DC.el
    split
    · have := DC.el_le f (d / Nat.gcd d 10)
      show (DC.el f (d / Nat.gcd d 10)).1 + 1 ≤ f + 1
      omega
    · exact Nat.zero_le _
set_option maxHeartbeats 4000000 in
theorem lengths_any (d : Nat) (h1 : 1 ≤ d) (h2 : d ≤ 5000) (w : World) (hT : Tb w) :
    Calls Tryz.prog 93 #[.int .i64 (d : Int)] w fun e w' => ∃ m t : Nat, e = .returned (.tuple #[.int .i64 ((DC.el 13 d).1 : Int), .int .i64 (m : Int)]) ∧ DC.Len d (DC.el 13 d).1 m (DC.el 13 d).2 t ∧ m ≤ 1000000 ∧ Below w.heap.size w w' := by
  have HGc : Hid (∀ (x : Nat) (W : World), x ≤ 5000 → Calls Tryz.prog 65 #[.int .i64 (x : Int), .int .i64 10] W fun e w' => e = .returned (.tuple #[.int .i64 ((Nat.gcd x 10 : Nat) : Int), .agg #[.int .i64 0, .int .i64 0]]) ∧ Below W.heap.size W w') := fun x W hx => Gcd_ok (x : Int) 10 W (by unfold okB; rw [numB_mk (by omega) (by omega), numB_mk (by decide) (by decide)]; rfl)
  obtain ⟨t0, e1, e2, e3, e4, e5, e6⟩ := DC.el_is h1 h2
  have HEl : Hid (1 ≤ (DC.el 13 d).2 ∧ Nat.Coprime (DC.el 13 d).2 10 ∧ (DC.el 13 d).2 ≤ 5000) := ⟨e1, e3, by
    have := Nat.le_of_dvd (by omega) (show (DC.el 13 d).2 ∣ d from ⟨t0, e2.symm⟩)
    omega⟩
  have HT : Hid (Tb w) := hT
  have HD : Hid (1 ≤ d ∧ d ≤ 5000) := ⟨h1, h2⟩
  clear hT e1 e2 e3 e4 e5 e6
  go_enter Tryz.func93, Tryz.ntmps93
  go_wp2_with fail
  refine (HGc.out d w h2).mono ?_
  rintro e w1 ⟨rfl, k1⟩
  have HK : Hid (Below w.heap.size w (w1.alloc (.cells #[.int .i64 0, .int .i64 0] 25))) := k1.alloc k1.size _
  clear k1
  go_wp2
  go_loopg [0, 2, 4] 13 (fun gk dv nv gv wx => ∃ (f x n : Nat), dv = .int .i64 (x : Int) ∧ nv = .int .i64 (n : Int) ∧ gv = .int .i64 ((Nat.gcd x 10 : Nat) : Int) ∧ Hid (gk = f ∧ n + f = 13 ∧ x ≤ 5000 ∧ DC.el 13 d = (n + (DC.el f x).1, (DC.el f x).2) ∧ Below w.heap.size w wx))
  case atStart => exact ⟨13, d, 0, rfl, rfl, rfl, rfl, rfl, h2, by rw [Nat.zero_add], HK.out⟩
  case round =>
    clear HK
    obtain ⟨f, x, n, rfl, rfl, rfl, HR⟩ := hrel
    obtain ⟨r1, r2, r3, r4, r5⟩ := HR.out
    have HF : Hid (gk = f ∧ DC.el 13 d = (n + (DC.el f x).1, (DC.el f x).2)) := ⟨r1, r4⟩
    have HB : Hid (Below w.heap.size w wr) := r5
    clear HR r1 r4 r5
    obtain ⟨g, hg⟩ : ∃ g, g = Nat.gcd x 10 := ⟨_, rfl⟩
    rw [← hg]
    have HGg : Hid (g = Nat.gcd x 10) := hg
    have hg10 : g ≤ 10 := by rw [hg]; exact Nat.le_of_dvd (by decide) (Nat.gcd_dvd_right x 10)
    clear hg
    by_cases hg1 : 1 < g
    · have tg : decide (1 < (g : Int)) = true := decide_eq_true (by omega)
      obtain ⟨f', rfl⟩ : ∃ f', f = f' + 1 := by
        rcases Nat.eq_zero_or_pos f with h | h
        · exfalso
          subst h
          have h3 := HF.out.2
          have h4 := HEl.out.2.1
          rw [h3] at h4
          have h5 : Nat.gcd x 10 = 1 := h4
          rw [← HGg.out] at h5
          omega
        · exact ⟨f - 1, by omega⟩
      obtain ⟨y, hy⟩ : ∃ y, y = x / g := ⟨_, rfl⟩
      have ty : Int.tdiv (x : Int) (g : Int) = (y : Int) := by rw [hy]; rfl
      have hyx : y ≤ x := by rw [hy]; exact Nat.div_le_self _ _
      have wy : IntKind.i64.wrap (y : Int) = (y : Int) := by rw [IntKind.wrap_i64]; omega
      have ng : ¬ g = 0 := by omega
      have ngi : ¬ (g : Int) = 0 := by omega
      have HN : Hid (DC.el 13 d = (n + 1 + (DC.el f' y).1, (DC.el f' y).2)) := by
        show _ = _
        rw [HF.out.2]
        show (n + (if 1 < Nat.gcd x 10 then ((DC.el f' (x / Nat.gcd x 10)).1 + 1, (DC.el f' (x / Nat.gcd x 10)).2) else (0, x)).1, (if 1 < Nat.gcd x 10 then ((DC.el f' (x / Nat.gcd x 10)).1 + 1, (DC.el f' (x / Nat.gcd x 10)).2) else (0, x)).2) = _
        rw [← HGg.out, if_pos hg1, ← hy, Nat.add_right_comm n 1 _, Nat.add_assoc]
      clear hy hg1
      go_wp2_with fail
      refine (HGc.out y wr (by omega)).mono ?_
      rintro e w2 ⟨rfl, k2⟩
      have HK2 : Hid (Below w.heap.size w w2) := HB.out.trans (k2.mono HB.out.size)
      clear k2
      go_wp2
      go_roundg f'
      case rel => exact ⟨f', y, n + 1, rfl, by go_num, rfl, rfl, by omega, by omega, HN.out, HK2.out⟩
      case measure => have := HF.out.1; omega
    · have tg : decide (1 < (g : Int)) = false := decide_eq_false (by omega)
      have HE : Hid (DC.el 13 d = (n, x)) := by
        show _ = _
        rw [HF.out.2]
        cases f with
        | zero => rfl
        | succ f' =>
          unfold DC.el
          rw [← HGg.out, if_neg hg1]
          rfl
      have hn13 : n ≤ 13 := by omega
      by_cases hx1 : x = 1
      · have t1 : ((x : Int) == 1) = true := by rw [hx1]; rfl
        have HX : Hid (x = 1) := hx1
        clear hx1 hg1
        go_wp2
        have hl : ∃ t, DC.Len d (DC.el 13 d).1 0 (DC.el 13 d).2 t := DC.len_of HD.out.1 HD.out.2 0 (fun _ => rfl) (fun h => absurd (by rw [HE.out]; exact HX.out) h)
        obtain ⟨t, L⟩ := hl
        exact bodyPost_ret (v := .tuple #[.int .i64 (n : Int), .int .i64 0]) (by simp [results, Tryz.results93, go_sem]) rfl ⟨0, t, by rw [HE.out]; rfl, L, by omega, HB.out⟩
      · have t1 : ((x : Int) == 1) = false := by rw [beq_eq_false_iff_ne]; omega
        have hx2 : 2 ≤ x := by
          have := HEl.out.1
          rw [HE.out] at this
          have h3 : 1 ≤ x := this
          omega
        have HO : Hid (∀ W, Tb W → Calls Tryz.prog 122 #[.int .i64 10, .int .i64 (x : Int)] W fun e w' => ∃ o : Nat, e = .returned (.tuple #[.int .i64 (o : Int), .agg #[.int .i64 0, .int .i64 0]]) ∧ (1 ≤ o ∧ o ≤ 1000000 ∧ 10 ^ o % x = 1 % x ∧ ∀ k, 1 ≤ k → 10 ^ k % x = 1 % x → o ≤ k) ∧ Below W.heap.size W w') := fun W h => Order_ten x hx2 (by omega) (by
          have := HEl.out.2.1
          rw [HE.out] at this
          have h3 : Nat.gcd x 10 = 1 := this
          rw [Nat.gcd_comm]
          exact h3) W h
        have HX : Hid (x ≠ 1 ∧ 2 ≤ x) := ⟨hx1, hx2⟩
        clear hx1 hg1 hx2
        go_wp2_with fail
        refine (HO.out wr (HT.out.below HB.out)).mono ?_
        rintro e w2 ⟨o, rfl, ⟨o1, o2, o3, o4⟩, k2⟩
        have HK2 : Hid (Below w.heap.size w w2) := HB.out.trans (k2.mono HB.out.size)
        have HOo : Hid (1 ≤ o ∧ o ≤ 1000000 ∧ 10 ^ o % x = 1 % x ∧ ∀ k, 1 ≤ k → 10 ^ k % x = 1 % x → o ≤ k) := ⟨o1, o2, o3, o4⟩
        clear k2 o1 o2 o3 o4
        go_wp2
        have hl : ∃ t, DC.Len d (DC.el 13 d).1 o (DC.el 13 d).2 t := DC.len_of HD.out.1 HD.out.2 o (fun h => absurd (by rw [HE.out] at h; exact h) HX.out.1) (fun _ => by rw [HE.out]; exact ⟨HOo.out.1, HOo.out.2.2.1, HOo.out.2.2.2⟩)
        obtain ⟨t, L⟩ := hl
        exact bodyPost_ret (v := .tuple #[.int .i64 (n : Int), .int .i64 (o : Int)]) (by simp [results, Tryz.results93, go_sem]) rfl ⟨o, t, by rw [HE.out], L, HOo.out.2.1, HK2.out⟩
set_option maxRecDepth 100000 in
set_option maxHeartbeats 4000000 in
theorem decimal_any (x : Int) (N : Nat) (w : World) (hx : x.natAbs ≤ 1000000000000000000) (hN : 1 ≤ N) (hN5 : N ≤ 5000) (hg : Int.gcd x (N : Int) = 1) (hTb : Tb w) (hTq : Tq w) :
    Calls Tryz.prog 62 #[.agg #[.int .i64 x, .int .i64 (N : Int)]] w fun e w' => e = .returned (.string ⟨(DC.text x N).toArray⟩) ∧ Below w.heap.size w w' := by
  obtain ⟨U, hU⟩ : ∃ U, U = x.natAbs := ⟨_, rfl⟩
  have HG : Hid (Nat.gcd U N = 1) := by show _ = _; rw [hU]; exact hg
  obtain ⟨Q, hQ⟩ : ∃ Q, Q = U / N := ⟨_, rfl⟩
  obtain ⟨R0, hR0⟩ : ∃ R, R = U % N := ⟨_, rfl⟩
  obtain ⟨SG, hSG⟩ : ∃ S : ByteArray, S = ⟨(if x < 0 then [45] else [] : List UInt8).toArray⟩ := ⟨_, rfl⟩
  obtain ⟨SQ, hSQ⟩ : ∃ S : ByteArray, S = ⟨(Lib.decDigits Q).toArray⟩ := ⟨_, rfl⟩
  obtain ⟨S1, hS1⟩ : ∃ S : ByteArray, S = SG ++ SQ := ⟨_, rfl⟩
  have hQl : Q ≤ 1000000000000000000 := by rw [hQ]; exact Nat.le_trans (Nat.div_le_self _ _) (by omega)
  have hRl : R0 < N := by rw [hR0]; exact Nat.mod_lt _ (by omega)
  have HQ : Hid (Q = U / N ∧ Q ≤ 1000000000000000000) := ⟨hQ, hQl⟩
  have HIt : Hid (∀ W, Tq W → Calls Tryz.prog 92 #[.int .i64 (Q : Int)] W fun e w' => e = .returned (.string SQ) ∧ Below W.heap.size W w') := fun W h => by rw [hSQ]; exact Itoa_nat Q (by omega) W h
  have HLe : Hid (∀ W, Tb W → Calls Tryz.prog 93 #[.int .i64 (N : Int)] W fun e w' => ∃ m t : Nat, e = .returned (.tuple #[.int .i64 ((DC.el 13 N).1 : Int), .int .i64 (m : Int)]) ∧ DC.Len N (DC.el 13 N).1 m (DC.el 13 N).2 t ∧ m ≤ 1000000 ∧ Below W.heap.size W w') := fun W h => lengths_any N hN hN5 W h
  have HTb : Hid (Tb w) := hTb
  have z1 : SG.size ≤ 1 := by rw [hSG]; split <;> decide
  have z2 : SQ.size ≤ 30 := by
    rw [hSQ]
    have := dec_len Q 19 (by omega) (Nat.lt_of_le_of_lt hQl (by decide))
    show (Lib.decDigits Q).toArray.size ≤ 30
    simp; omega
  have hadd1 : ∀ w : World, (Op.stringOp .add SG SQ).run Tryz.prog w = .ok (.string S1) w := fun w => by
    rw [hS1]
    exact run_string_add_sum w _ _ (by omega)
  have z3 : S1.size ≤ 31 := by rw [hS1, ByteArray.size_append]; omega
  have HZ : Hid (S1.size ≤ 31) := z3
  have HTX : Hid ((N = 1 → S1 = (⟨(DC.text x N).toArray⟩ : ByteArray)) ∧ S1 = ⟨((if x < 0 then [45] else []) ++ Lib.decDigits Q).toArray⟩) := by
    have e : S1 = ⟨((if x < 0 then [45] else []) ++ Lib.decDigits Q).toArray⟩ := by rw [hS1, hSG, hSQ, DC.sapp]
    refine ⟨fun h => ?_, e⟩
    rw [e, text_zero (by rw [h, Nat.mod_one]), hQ, hU]
  have HR0 : Hid (R0 = U % N) := hR0
  have nN : ¬ N = 0 := by omega
  have nNi : ¬ (N : Int) = 0 := by omega
  have tq : Int.tdiv (U : Int) (N : Int) = (Q : Int) := by rw [hQ]; rfl
  have trm : Int.tmod (U : Int) (N : Int) = (R0 : Int) := by rw [hR0]; rfl
  have wq : IntKind.i64.wrap (Q : Int) = (Q : Int) := by rw [IntKind.wrap_i64]; omega
  have wr0 : IntKind.i64.wrap (R0 : Int) = (R0 : Int) := by rw [IntKind.wrap_i64]; omega
  clear hQ hR0 hSQ hS1 z1 z2 z3 hQl
  obtain ⟨W0, hW0⟩ : ∃ W, W = w.alloc (.cells #[.int .i64 x, .int .i64 (N : Int)] 23) := ⟨_, rfl⟩
  have K0 : Hid (Cl w.heap.size [.int .i64 x, .int .i64 (N : Int)] 23 W0 ∧ Below w.heap.size w W0 ∧ Tq W0) := by
    show _ ∧ _
    rw [hW0]
    exact ⟨Cl.new [.int .i64 x, .int .i64 (N : Int)] _ w, (Below.refl _ _).alloc (Nat.le_refl _) _, hTq.below ((Below.refl _ _).alloc (Nat.le_refl _) _)⟩
  clear hTb hTq hg
  go_enter Tryz.func62, Tryz.ntmps62
  by_cases hneg : x < 0
  · have tn : decide (x < 0) = true := decide_eq_true hneg
    have eU : -x = (U : Int) := by omega
    have wU : IntKind.i64.wrap (U : Int) = (U : Int) := by rw [IntKind.wrap_i64]; omega
    rw [if_pos hneg] at hSG
    have hSG2 : SG = ⟨#[45]⟩ := hSG
    subst hSG2
    have HUx : Hid (U = x.natAbs) := hU
    clear hneg hU hSG hx
    go_wp2_with fail
    rw [← hW0]
    clear hW0
    refine (HIt.out W0 K0.out.2.2).mono ?_
    rintro e w1 ⟨rfl, k1⟩
    have K1 : Hid (Cl w.heap.size [.int .i64 x, .int .i64 (N : Int)] 23 w1 ∧ Below w.heap.size w w1) := ⟨K0.out.1.below k1, K0.out.2.1.trans (k1.mono K0.out.2.1.size)⟩
    clear k1 K0 HIt
    have p0 := K1.out.1.cell 0
    have p1 := K1.out.1.cell 1
    simp at p0 p1
    by_cases hN1 : N = 1
    · have t1 : ((N : Int) == 1) = true := by rw [hN1]; rfl
      have HN1 : Hid (N = 1) := hN1
      clear hN1
      go_wp2
      go_ret
      refine ⟨?_, K1.out.2⟩
      rw [HTX.out.1 HN1.out]
      rfl
    · have t1 : ((N : Int) == 1) = false := by rw [beq_eq_false_iff_ne]; omega
      have HN1 : Hid (N ≠ 1) := hN1
      clear hN1
      go_wp2_with fail
      refine (HLe.out w1 (HTb.out.below K1.out.2)).mono ?_
      rintro e w2 ⟨m, t, rfl, L, hm5, k2⟩
      have K2 : Hid (Cl w.heap.size [.int .i64 x, .int .i64 (N : Int)] 23 w2 ∧ Below w.heap.size w w2) := ⟨K1.out.1.below k2, K1.out.2.trans (k2.mono K1.out.2.size)⟩
      have HL : Hid (DC.Len N (DC.el 13 N).1 m (DC.el 13 N).2 t ∧ m ≤ 1000000) := ⟨L, hm5⟩
      obtain ⟨n, hn⟩ : ∃ n, n = (DC.el 13 N).1 := ⟨_, rfl⟩
      have HTl := L.tail HG.out HN1.out
      rw [← hn] at HTl
      rw [← hn]
      have hn13 : n ≤ 13 := by rw [hn]; exact DC.el_le 13 N
      have HTl : Hid (DC.tail U N = 46 :: (if (DC.el 13 N).2 = 1 then DC.dtl U N n else DC.dtl U N n ++ 40 :: DC.dtl (DC.rs U N n) N m ++ [41])) := HTl
      have HE0 : Hid ((DC.el 13 N).2 = 1 → m = 0) := L.one
      have HE1 : Hid ((DC.el 13 N).2 ≠ 1 → 1 ≤ m) := fun h => (L.ord h).1
      clear k2 L K1 HLe hn p0 p1
      have p0 := K2.out.1.cell 0
      have p1 := K2.out.1.cell 1
      simp at p0 p1
      have hrs0 : DC.rs U N 0 = R0 := HR0.out.symm
      have HD1 : Hid (∀ W, Calls Tryz.prog 94 #[.int .i64 (R0 : Int), .int .i64 (N : Int), .int .i64 (n : Int)] W fun e w' => e = .returned (.tuple #[.string ⟨(DC.dtl U N n).toArray⟩, .int .i64 ((DC.rs U N n : Nat) : Int)]) ∧ Below W.heap.size W w') := fun W => by
        have h := digits_any R0 N n W hRl hN5 (by omega)
        have e1 : DC.dtl R0 N n = DC.dtl U N n := by
          have := DC.dtl_drop U N 0 n
          rw [hrs0, List.drop_zero, Nat.zero_add] at this
          exact this.symm
        have e2 : DC.rs R0 N n = DC.rs U N n := by
          have := DC.rs_shift U N 0 n
          rw [hrs0, Nat.zero_add] at this
          exact this
        rw [e1, e2] at h
        exact h
      clear hrs0
      go_wp2_with fail
      refine wp_region_G (fun W => W.cell? ⟨w.heap.size, 1, none⟩ = some (.int .i64 (N : Int))) 12 (by kernel_rfl) p1 (fun hHeld => ?_)
      refine wpAnyG_take (i := 0) (v := ?v0x1) rfl (by kernel_rfl) (fun _ _ _ h => h) (Or.inl ⟨by rfl, ?y0x1⟩) hHeld ?r0x1
      case y0x1 => (intro wS hSw; obtain s1 := hSw; go_simp; try with_reducible rfl)
      try simp only [Act.put, List.setIfInBounds_toArray, List.set_cons_zero, List.set_cons_succ]
      refine wpAnyG_take (i := 1) (v := ?v1x2) rfl (by kernel_rfl) (fun _ _ _ h => h) (Or.inl ⟨by rfl, ?y1x2⟩) hHeld ?r1x2
      case y1x2 => (intro wS hSw; obtain s1 := hSw; go_simp; try with_reducible rfl)
      try simp only [Act.put, List.setIfInBounds_toArray, List.set_cons_zero, List.set_cons_succ]
      refine wpAnyG_take (i := 2) (v := ?v2x3) rfl (by kernel_rfl) (fun _ _ _ h => h) (Or.inl ⟨by rfl, ?y2x3⟩) hHeld ?r2x3
      case y2x3 => (intro wS hSw; obtain s1 := hSw; go_simp; try with_reducible rfl)
      try simp only [Act.put, List.setIfInBounds_toArray, List.set_cons_zero, List.set_cons_succ]
      refine wpAnyG_take (i := 3) (v := ?v3x4) rfl (by kernel_rfl) (fun _ _ _ h => h) (Or.inl ⟨by rfl, ?y3x4⟩) hHeld ?r3x4
      case y3x4 => (intro wS hSw; obtain s1 := hSw; go_simp; try with_reducible rfl)
      try simp only [Act.put, List.setIfInBounds_toArray, List.set_cons_zero, List.set_cons_succ]
      refine wpAnyG_take (i := 4) (v := ?v4x5) rfl (by kernel_rfl) (fun _ _ _ h => h) (Or.inl ⟨by rfl, ?y4x5⟩) hHeld ?r4x5
      case y4x5 => (intro wS hSw; obtain s1 := hSw; go_simp; try with_reducible rfl)
      try simp only [Act.put, List.setIfInBounds_toArray, List.set_cons_zero, List.set_cons_succ]
      refine wpAnyG_take (i := 5) (v := ?v5x6) rfl (by kernel_rfl) (fun _ _ _ h => h) (Or.inl ⟨by rfl, ?y5x6⟩) hHeld ?r5x6
      case y5x6 => (intro wS hSw; obtain s1 := hSw; go_simp; try with_reducible rfl)
      try simp only [Act.put, List.setIfInBounds_toArray, List.set_cons_zero, List.set_cons_succ]
      refine wpAnyG_take (i := 6) (v := ?v6x7) rfl (by kernel_rfl) (fun _ _ _ h => h) (Or.inl ⟨by rfl, ?y6x7⟩) hHeld ?r6x7
      case y6x7 => (intro wS hSw; obtain s1 := hSw; go_simp; try with_reducible rfl)
      try simp only [Act.put, List.setIfInBounds_toArray, List.set_cons_zero, List.set_cons_succ]
      refine wpAnyG_one (i := 7) rfl (by kernel_rfl) (fun K hK => ?_)
      go_simp
      refine (HD1.out _).mono ?_
      rintro e w3 ⟨rfl, k3⟩
      have HK3 : Hid (Below w2.heap.size w2 w3) := (Below.refl _ _).drew.trans k3
      have hq : w3.cell? ⟨w.heap.size, 1, none⟩ = some (.int .i64 (N : Int)) := by
        have := (K2.out.1.below HK3.out).cell 1
        simpa using this
      refine hK.out _ _ hq ?_
      clear k3
      clear hK K
      try simp only [Act.put, List.setIfInBounds_toArray, List.set_cons_zero, List.set_cons_succ]
      clear hHeld
      have hHeld := hq
      refine wpAnyG_take (i := 8) (v := ?v8x8) rfl (by kernel_rfl) (fun _ _ _ h => h) (Or.inl ⟨by rfl, ?y8x8⟩) hHeld ?r8x8
      case y8x8 => (intro wS hSw; obtain s1 := hSw; go_simp; try with_reducible rfl)
      try simp only [Act.put, List.setIfInBounds_toArray, List.set_cons_zero, List.set_cons_succ]
      refine wpAnyG_take (i := 9) (v := ?v9x9) rfl (by kernel_rfl) (fun _ _ _ h => h) (Or.inl ⟨by rfl, ?y9x9⟩) hHeld ?r9x9
      case y9x9 => (intro wS hSw; obtain s1 := hSw; go_simp; try with_reducible rfl)
      try simp only [Act.put, List.setIfInBounds_toArray, List.set_cons_zero, List.set_cons_succ]
      refine wpAnyG_take (i := 10) (v := ?v10x10) rfl (by kernel_rfl) (fun _ _ _ h => h) (Or.inl ⟨by rfl, ?y10x10⟩) hHeld ?r10x10
      case y10x10 => (intro wS hSw; obtain s1 := hSw; go_simp; try with_reducible rfl)
      try simp only [Act.put, List.setIfInBounds_toArray, List.set_cons_zero, List.set_cons_succ]
      refine wpAnyG_take (i := 11) (v := ?v11x11) rfl (by kernel_rfl) (fun _ _ _ h => h) (Or.inl ⟨by rfl, ?y11x11⟩) hHeld ?r11x11
      case y11x11 => (intro wS hSw; obtain s1 := hSw; go_simp; try with_reducible rfl)
      try simp only [Act.put, List.setIfInBounds_toArray, List.set_cons_zero, List.set_cons_succ]
      refine wpAnyG_last (i := 12) rfl (by kernel_rfl) (by kernel_rfl) (fun K hK => ?_)
      go_simp
      refine hK.out _ _ ?_
      clear hK K
      refine wpAnyG_done (by kernel_rfl) ?_ _
      clear hHeld hq p0 p1
      have K3 : Hid (Cl w.heap.size [.int .i64 x, .int .i64 (N : Int)] 23 w3 ∧ Below w.heap.size w w3) := ⟨K2.out.1.below HK3.out, K2.out.2.trans (HK3.out.mono K2.out.2.size)⟩
      clear K2 HK3
      have p0 := K3.out.1.cell 0
      have p1 := K3.out.1.cell 1
      simp at p0 p1
      obtain ⟨SD, hSD⟩ : ∃ S : ByteArray, S = ⟨(DC.dtl U N n).toArray⟩ := ⟨_, rfl⟩
      obtain ⟨S2, hS2⟩ : ∃ S : ByteArray, S = ⟨#[46]⟩ ++ SD := ⟨_, rfl⟩
      obtain ⟨S3, hS3⟩ : ∃ S : ByteArray, S = S1 ++ S2 := ⟨_, rfl⟩
      have z6 : SD.size = n := by rw [hSD]; exact DC.dtl_len U N n
      have z5 : S2.size = n + 1 := by rw [hS2, ByteArray.size_append, z6]; show 1 + n = _; omega
      have z7 : S3.size ≤ 50 := by rw [hS3, ByteArray.size_append]; have := HZ.out; omega
      have hadd2 : ∀ w : World, (Op.stringOp .add ⟨#[46]⟩ SD).run Tryz.prog w = .ok (.string S2) w := fun w => by
        rw [hS2]
        exact run_string_add_sum w _ _ (by have : (⟨#[46]⟩ : ByteArray).size = 1 := rfl; omega)
      have hadd3 : ∀ w : World, (Op.stringOp .add S1 S2).run Tryz.prog w = .ok (.string S3) w := fun w => by
        rw [hS3]
        exact run_string_add_sum w _ _ (by have := HZ.out; omega)
      have HS3 : Hid (S3 = ⟨((if x < 0 then [45] else []) ++ Lib.decDigits Q ++ (46 :: DC.dtl U N n)).toArray⟩) := by
        show _ = _
        rw [hS3, hS2, hSD, HTX.out.2, show (⟨#[46]⟩ : ByteArray) = ⟨[46].toArray⟩ from rfl, DC.sapp, DC.sapp]
        rfl
      have HZ3 : Hid (S3.size ≤ 50) := z7
      rw [← hSD]
      clear hSD hS2 hS3 z6 z5 z7
      by_cases he : (DC.el 13 N).2 = 1
      · have hm0 := HE0.out he
        have t2 : ((m : Int) == 0) = true := by rw [hm0]; rfl
        have HE : Hid (S3 = ⟨(DC.text x N).toArray⟩) := by
          show _ = _
          rw [HS3.out]
          unfold DC.text
          rw [← HUx.out, HTl.out, if_pos he, HQ.out.1]
        clear he hm0
        go_wp2
        go_ret
        exact ⟨by rw [HE.out]; rfl, K3.out.2⟩
      · have hm1 := HE1.out he
        have t2 : ((m : Int) == 0) = false := by rw [beq_eq_false_iff_ne]; omega
        have hrn : DC.rs U N n < N := DC.rs_lt (by omega) n
        have HD2 : Hid (∀ W, Calls Tryz.prog 94 #[.int .i64 ((DC.rs U N n : Nat) : Int), .int .i64 (N : Int), .int .i64 (m : Int)] W fun e w' => e = .returned (.tuple #[.string ⟨(DC.dtl (DC.rs U N n) N m).toArray⟩, .int .i64 ((DC.rs (DC.rs U N n) N m : Nat) : Int)]) ∧ Below W.heap.size W w') := fun W => digits_any _ N m W hrn hN5 HL.out.2
        have HEe : Hid ((DC.el 13 N).2 ≠ 1) := he
        clear he hm1 hrn
        go_wp2_with fail
        refine (HD2.out _).mono ?_
        rintro e w4 ⟨rfl, k4⟩
        have HK4 : Hid (Below w.heap.size w w4) := K3.out.2.trans (k4.mono K3.out.2.size)
        clear k4 K3 p0 p1 HD2
        obtain ⟨SC, hSC⟩ : ∃ S : ByteArray, S = ⟨(DC.dtl (DC.rs U N n) N m).toArray⟩ := ⟨_, rfl⟩
        obtain ⟨S4, hS4⟩ : ∃ S : ByteArray, S = S3 ++ ⟨#[40]⟩ := ⟨_, rfl⟩
        obtain ⟨S5, hS5⟩ : ∃ S : ByteArray, S = S4 ++ SC := ⟨_, rfl⟩
        obtain ⟨S6, hS6⟩ : ∃ S : ByteArray, S = S5 ++ ⟨#[41]⟩ := ⟨_, rfl⟩
        have z1 : SC.size = m := by rw [hSC]; exact DC.dtl_len _ N m
        have z2 : (⟨#[40]⟩ : ByteArray).size = 1 := rfl
        have z3 : (⟨#[41]⟩ : ByteArray).size = 1 := rfl
        have z4 : S4.size ≤ 51 := by rw [hS4, ByteArray.size_append]; have := HZ3.out; omega
        have z5 : S5.size ≤ 2000000 := by rw [hS5, ByteArray.size_append]; have := HL.out.2; omega
        have hadd4 : ∀ w : World, (Op.stringOp .add S3 ⟨#[40]⟩).run Tryz.prog w = .ok (.string S4) w := fun w => by
          rw [hS4]
          exact run_string_add_sum w _ _ (by have := HZ3.out; omega)
        have hadd5 : ∀ w : World, (Op.stringOp .add S4 SC).run Tryz.prog w = .ok (.string S5) w := fun w => by
          rw [hS5]
          exact run_string_add_sum w _ _ (by have := HL.out.2; omega)
        have hadd6 : ∀ w : World, (Op.stringOp .add S5 ⟨#[41]⟩).run Tryz.prog w = .ok (.string S6) w := fun w => by
          rw [hS6]
          exact run_string_add_sum w _ _ (by omega)
        have HE : Hid (S6 = ⟨(DC.text x N).toArray⟩) := by
          show _ = _
          rw [hS6, hS5, hS4, hSC, HS3.out, show (⟨#[40]⟩ : ByteArray) = ⟨[40].toArray⟩ from rfl, show (⟨#[41]⟩ : ByteArray) = ⟨[41].toArray⟩ from rfl, DC.sapp, DC.sapp, DC.sapp]
          unfold DC.text
          rw [← HUx.out, HTl.out, if_neg HEe.out, HQ.out.1]
          simp [List.append_assoc]
        rw [← hSC]
        clear hSC hS4 hS5 hS6 z1 z2 z3 z4 z5
        go_wp2
        go_ret
        exact ⟨by rw [HE.out]; rfl, HK4.out⟩
  · have tn : decide (x < 0) = false := decide_eq_false hneg
    have eX : x = (U : Int) := by omega
    have tqx : Int.tdiv x (N : Int) = (Q : Int) := by rw [eX]; exact tq
    have trx : Int.tmod x (N : Int) = (R0 : Int) := by rw [eX]; exact trm
    rw [if_neg hneg] at hSG
    have hSG2 : SG = ⟨#[]⟩ := hSG
    subst hSG2
    have HUx : Hid (U = x.natAbs) := hU
    clear hneg hU hSG hx eX tq trm
    go_wp2_with fail
    rw [← hW0]
    clear hW0
    refine (HIt.out W0 K0.out.2.2).mono ?_
    rintro e w1 ⟨rfl, k1⟩
    have K1 : Hid (Cl w.heap.size [.int .i64 x, .int .i64 (N : Int)] 23 w1 ∧ Below w.heap.size w w1) := ⟨K0.out.1.below k1, K0.out.2.1.trans (k1.mono K0.out.2.1.size)⟩
    clear k1 K0 HIt
    have p0 := K1.out.1.cell 0
    have p1 := K1.out.1.cell 1
    simp at p0 p1
    by_cases hN1 : N = 1
    · have t1 : ((N : Int) == 1) = true := by rw [hN1]; rfl
      have HN1 : Hid (N = 1) := hN1
      clear hN1
      go_wp2
      go_ret
      refine ⟨?_, K1.out.2⟩
      rw [HTX.out.1 HN1.out]
      rfl
    · have t1 : ((N : Int) == 1) = false := by rw [beq_eq_false_iff_ne]; omega
      have HN1 : Hid (N ≠ 1) := hN1
      clear hN1
      go_wp2_with fail
      refine (HLe.out w1 (HTb.out.below K1.out.2)).mono ?_
      rintro e w2 ⟨m, t, rfl, L, hm5, k2⟩
      have K2 : Hid (Cl w.heap.size [.int .i64 x, .int .i64 (N : Int)] 23 w2 ∧ Below w.heap.size w w2) := ⟨K1.out.1.below k2, K1.out.2.trans (k2.mono K1.out.2.size)⟩
      have HL : Hid (DC.Len N (DC.el 13 N).1 m (DC.el 13 N).2 t ∧ m ≤ 1000000) := ⟨L, hm5⟩
      obtain ⟨n, hn⟩ : ∃ n, n = (DC.el 13 N).1 := ⟨_, rfl⟩
      have HTl := L.tail HG.out HN1.out
      rw [← hn] at HTl
      rw [← hn]
      have hn13 : n ≤ 13 := by rw [hn]; exact DC.el_le 13 N
      have HTl : Hid (DC.tail U N = 46 :: (if (DC.el 13 N).2 = 1 then DC.dtl U N n else DC.dtl U N n ++ 40 :: DC.dtl (DC.rs U N n) N m ++ [41])) := HTl
      have HE0 : Hid ((DC.el 13 N).2 = 1 → m = 0) := L.one
      have HE1 : Hid ((DC.el 13 N).2 ≠ 1 → 1 ≤ m) := fun h => (L.ord h).1
      clear k2 L K1 HLe hn p0 p1
      have p0 := K2.out.1.cell 0
      have p1 := K2.out.1.cell 1
      simp at p0 p1
      have hrs0 : DC.rs U N 0 = R0 := HR0.out.symm
      have HD1 : Hid (∀ W, Calls Tryz.prog 94 #[.int .i64 (R0 : Int), .int .i64 (N : Int), .int .i64 (n : Int)] W fun e w' => e = .returned (.tuple #[.string ⟨(DC.dtl U N n).toArray⟩, .int .i64 ((DC.rs U N n : Nat) : Int)]) ∧ Below W.heap.size W w') := fun W => by
        have h := digits_any R0 N n W hRl hN5 (by omega)
        have e1 : DC.dtl R0 N n = DC.dtl U N n := by
          have := DC.dtl_drop U N 0 n
          rw [hrs0, List.drop_zero, Nat.zero_add] at this
          exact this.symm
        have e2 : DC.rs R0 N n = DC.rs U N n := by
          have := DC.rs_shift U N 0 n
          rw [hrs0, Nat.zero_add] at this
          exact this
        rw [e1, e2] at h
        exact h
      clear hrs0
      go_wp2_with fail
      refine wp_region_G (fun W => W.cell? ⟨w.heap.size, 1, none⟩ = some (.int .i64 (N : Int))) 12 (by kernel_rfl) p1 (fun hHeld => ?_)
      refine wpAnyG_take (i := 0) (v := ?v0x12) rfl (by kernel_rfl) (fun _ _ _ h => h) (Or.inl ⟨by rfl, ?y0x12⟩) hHeld ?r0x12
      case y0x12 => (intro wS hSw; obtain s1 := hSw; go_simp; try with_reducible rfl)
      try simp only [Act.put, List.setIfInBounds_toArray, List.set_cons_zero, List.set_cons_succ]
      refine wpAnyG_take (i := 1) (v := ?v1x13) rfl (by kernel_rfl) (fun _ _ _ h => h) (Or.inl ⟨by rfl, ?y1x13⟩) hHeld ?r1x13
      case y1x13 => (intro wS hSw; obtain s1 := hSw; go_simp; try with_reducible rfl)
      try simp only [Act.put, List.setIfInBounds_toArray, List.set_cons_zero, List.set_cons_succ]
      refine wpAnyG_take (i := 2) (v := ?v2x14) rfl (by kernel_rfl) (fun _ _ _ h => h) (Or.inl ⟨by rfl, ?y2x14⟩) hHeld ?r2x14
      case y2x14 => (intro wS hSw; obtain s1 := hSw; go_simp; try with_reducible rfl)
      try simp only [Act.put, List.setIfInBounds_toArray, List.set_cons_zero, List.set_cons_succ]
      refine wpAnyG_take (i := 3) (v := ?v3x15) rfl (by kernel_rfl) (fun _ _ _ h => h) (Or.inl ⟨by rfl, ?y3x15⟩) hHeld ?r3x15
      case y3x15 => (intro wS hSw; obtain s1 := hSw; go_simp; try with_reducible rfl)
      try simp only [Act.put, List.setIfInBounds_toArray, List.set_cons_zero, List.set_cons_succ]
      refine wpAnyG_take (i := 4) (v := ?v4x16) rfl (by kernel_rfl) (fun _ _ _ h => h) (Or.inl ⟨by rfl, ?y4x16⟩) hHeld ?r4x16
      case y4x16 => (intro wS hSw; obtain s1 := hSw; go_simp; try with_reducible rfl)
      try simp only [Act.put, List.setIfInBounds_toArray, List.set_cons_zero, List.set_cons_succ]
      refine wpAnyG_take (i := 5) (v := ?v5x17) rfl (by kernel_rfl) (fun _ _ _ h => h) (Or.inl ⟨by rfl, ?y5x17⟩) hHeld ?r5x17
      case y5x17 => (intro wS hSw; obtain s1 := hSw; go_simp; try with_reducible rfl)
      try simp only [Act.put, List.setIfInBounds_toArray, List.set_cons_zero, List.set_cons_succ]
      refine wpAnyG_take (i := 6) (v := ?v6x18) rfl (by kernel_rfl) (fun _ _ _ h => h) (Or.inl ⟨by rfl, ?y6x18⟩) hHeld ?r6x18
      case y6x18 => (intro wS hSw; obtain s1 := hSw; go_simp; try with_reducible rfl)
      try simp only [Act.put, List.setIfInBounds_toArray, List.set_cons_zero, List.set_cons_succ]
      refine wpAnyG_one (i := 7) rfl (by kernel_rfl) (fun K hK => ?_)
      go_simp
      refine (HD1.out _).mono ?_
      rintro e w3 ⟨rfl, k3⟩
      have HK3 : Hid (Below w2.heap.size w2 w3) := (Below.refl _ _).drew.trans k3
      have hq : w3.cell? ⟨w.heap.size, 1, none⟩ = some (.int .i64 (N : Int)) := by
        have := (K2.out.1.below HK3.out).cell 1
        simpa using this
      refine hK.out _ _ hq ?_
      clear k3
      clear hK K
      try simp only [Act.put, List.setIfInBounds_toArray, List.set_cons_zero, List.set_cons_succ]
      clear hHeld
      have hHeld := hq
      refine wpAnyG_take (i := 8) (v := ?v8x19) rfl (by kernel_rfl) (fun _ _ _ h => h) (Or.inl ⟨by rfl, ?y8x19⟩) hHeld ?r8x19
      case y8x19 => (intro wS hSw; obtain s1 := hSw; go_simp; try with_reducible rfl)
      try simp only [Act.put, List.setIfInBounds_toArray, List.set_cons_zero, List.set_cons_succ]
      refine wpAnyG_take (i := 9) (v := ?v9x20) rfl (by kernel_rfl) (fun _ _ _ h => h) (Or.inl ⟨by rfl, ?y9x20⟩) hHeld ?r9x20
      case y9x20 => (intro wS hSw; obtain s1 := hSw; go_simp; try with_reducible rfl)
      try simp only [Act.put, List.setIfInBounds_toArray, List.set_cons_zero, List.set_cons_succ]
      refine wpAnyG_take (i := 10) (v := ?v10x21) rfl (by kernel_rfl) (fun _ _ _ h => h) (Or.inl ⟨by rfl, ?y10x21⟩) hHeld ?r10x21
      case y10x21 => (intro wS hSw; obtain s1 := hSw; go_simp; try with_reducible rfl)
      try simp only [Act.put, List.setIfInBounds_toArray, List.set_cons_zero, List.set_cons_succ]
      refine wpAnyG_take (i := 11) (v := ?v11x22) rfl (by kernel_rfl) (fun _ _ _ h => h) (Or.inl ⟨by rfl, ?y11x22⟩) hHeld ?r11x22
      case y11x22 => (intro wS hSw; obtain s1 := hSw; go_simp; try with_reducible rfl)
      try simp only [Act.put, List.setIfInBounds_toArray, List.set_cons_zero, List.set_cons_succ]
      refine wpAnyG_last (i := 12) rfl (by kernel_rfl) (by kernel_rfl) (fun K hK => ?_)
      go_simp
      refine hK.out _ _ ?_
      clear hK K
      refine wpAnyG_done (by kernel_rfl) ?_ _
      clear hHeld hq p0 p1
      have K3 : Hid (Cl w.heap.size [.int .i64 x, .int .i64 (N : Int)] 23 w3 ∧ Below w.heap.size w w3) := ⟨K2.out.1.below HK3.out, K2.out.2.trans (HK3.out.mono K2.out.2.size)⟩
      clear K2 HK3
      have p0 := K3.out.1.cell 0
      have p1 := K3.out.1.cell 1
      simp at p0 p1
      obtain ⟨SD, hSD⟩ : ∃ S : ByteArray, S = ⟨(DC.dtl U N n).toArray⟩ := ⟨_, rfl⟩
      obtain ⟨S2, hS2⟩ : ∃ S : ByteArray, S = ⟨#[46]⟩ ++ SD := ⟨_, rfl⟩
      obtain ⟨S3, hS3⟩ : ∃ S : ByteArray, S = S1 ++ S2 := ⟨_, rfl⟩
      have z6 : SD.size = n := by rw [hSD]; exact DC.dtl_len U N n
      have z5 : S2.size = n + 1 := by rw [hS2, ByteArray.size_append, z6]; show 1 + n = _; omega
      have z7 : S3.size ≤ 50 := by rw [hS3, ByteArray.size_append]; have := HZ.out; omega
      have hadd2 : ∀ w : World, (Op.stringOp .add ⟨#[46]⟩ SD).run Tryz.prog w = .ok (.string S2) w := fun w => by
        rw [hS2]
        exact run_string_add_sum w _ _ (by have : (⟨#[46]⟩ : ByteArray).size = 1 := rfl; omega)
      have hadd3 : ∀ w : World, (Op.stringOp .add S1 S2).run Tryz.prog w = .ok (.string S3) w := fun w => by
        rw [hS3]
        exact run_string_add_sum w _ _ (by have := HZ.out; omega)
      have HS3 : Hid (S3 = ⟨((if x < 0 then [45] else []) ++ Lib.decDigits Q ++ (46 :: DC.dtl U N n)).toArray⟩) := by
        show _ = _
        rw [hS3, hS2, hSD, HTX.out.2, show (⟨#[46]⟩ : ByteArray) = ⟨[46].toArray⟩ from rfl, DC.sapp, DC.sapp]
        rfl
      have HZ3 : Hid (S3.size ≤ 50) := z7
      rw [← hSD]
      clear hSD hS2 hS3 z6 z5 z7
      by_cases he : (DC.el 13 N).2 = 1
      · have hm0 := HE0.out he
        have t2 : ((m : Int) == 0) = true := by rw [hm0]; rfl
        have HE : Hid (S3 = ⟨(DC.text x N).toArray⟩) := by
          show _ = _
          rw [HS3.out]
          unfold DC.text
          rw [← HUx.out, HTl.out, if_pos he, HQ.out.1]
        clear he hm0
        go_wp2
        go_ret
        exact ⟨by rw [HE.out]; rfl, K3.out.2⟩
      · have hm1 := HE1.out he
        have t2 : ((m : Int) == 0) = false := by rw [beq_eq_false_iff_ne]; omega
        have hrn : DC.rs U N n < N := DC.rs_lt (by omega) n
        have HD2 : Hid (∀ W, Calls Tryz.prog 94 #[.int .i64 ((DC.rs U N n : Nat) : Int), .int .i64 (N : Int), .int .i64 (m : Int)] W fun e w' => e = .returned (.tuple #[.string ⟨(DC.dtl (DC.rs U N n) N m).toArray⟩, .int .i64 ((DC.rs (DC.rs U N n) N m : Nat) : Int)]) ∧ Below W.heap.size W w') := fun W => digits_any _ N m W hrn hN5 HL.out.2
        have HEe : Hid ((DC.el 13 N).2 ≠ 1) := he
        clear he hm1 hrn
        go_wp2_with fail
        refine (HD2.out _).mono ?_
        rintro e w4 ⟨rfl, k4⟩
        have HK4 : Hid (Below w.heap.size w w4) := K3.out.2.trans (k4.mono K3.out.2.size)
        clear k4 K3 p0 p1 HD2
        obtain ⟨SC, hSC⟩ : ∃ S : ByteArray, S = ⟨(DC.dtl (DC.rs U N n) N m).toArray⟩ := ⟨_, rfl⟩
        obtain ⟨S4, hS4⟩ : ∃ S : ByteArray, S = S3 ++ ⟨#[40]⟩ := ⟨_, rfl⟩
        obtain ⟨S5, hS5⟩ : ∃ S : ByteArray, S = S4 ++ SC := ⟨_, rfl⟩
        obtain ⟨S6, hS6⟩ : ∃ S : ByteArray, S = S5 ++ ⟨#[41]⟩ := ⟨_, rfl⟩
        have z1 : SC.size = m := by rw [hSC]; exact DC.dtl_len _ N m
        have z2 : (⟨#[40]⟩ : ByteArray).size = 1 := rfl
        have z3 : (⟨#[41]⟩ : ByteArray).size = 1 := rfl
        have z4 : S4.size ≤ 51 := by rw [hS4, ByteArray.size_append]; have := HZ3.out; omega
        have z5 : S5.size ≤ 2000000 := by rw [hS5, ByteArray.size_append]; have := HL.out.2; omega
        have hadd4 : ∀ w : World, (Op.stringOp .add S3 ⟨#[40]⟩).run Tryz.prog w = .ok (.string S4) w := fun w => by
          rw [hS4]
          exact run_string_add_sum w _ _ (by have := HZ3.out; omega)
        have hadd5 : ∀ w : World, (Op.stringOp .add S4 SC).run Tryz.prog w = .ok (.string S5) w := fun w => by
          rw [hS5]
          exact run_string_add_sum w _ _ (by have := HL.out.2; omega)
        have hadd6 : ∀ w : World, (Op.stringOp .add S5 ⟨#[41]⟩).run Tryz.prog w = .ok (.string S6) w := fun w => by
          rw [hS6]
          exact run_string_add_sum w _ _ (by omega)
        have HE : Hid (S6 = ⟨(DC.text x N).toArray⟩) := by
          show _ = _
          rw [hS6, hS5, hS4, hSC, HS3.out, show (⟨#[40]⟩ : ByteArray) = ⟨[40].toArray⟩ from rfl, show (⟨#[41]⟩ : ByteArray) = ⟨[41].toArray⟩ from rfl, DC.sapp, DC.sapp, DC.sapp]
          unfold DC.text
          rw [← HUx.out, HTl.out, if_neg HEe.out, HQ.out.1]
          simp [List.append_assoc]
        rw [← hSC]
        clear hSC hS4 hS5 hS6 z1 z2 z3 z4 z5
        go_wp2
        go_ret
        exact ⟨by rw [HE.out]; rfl, HK4.out⟩
end Go.Proofs.YtcnfhndejkngkaaGreatDoor
