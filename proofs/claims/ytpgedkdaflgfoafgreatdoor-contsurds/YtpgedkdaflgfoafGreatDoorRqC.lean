/- The reference: IsSquare, PeriodOf, surdFault. -/
import Derived.Test.YtpgedkdaflgfoafGreatDoorJoinF
import Derived.Test.YtpgedkdaflgfoafGreatDoorCgI
set_option linter.unusedSimpArgs false
set_option linter.unusedVariables false
set_option maxRecDepth 100000
namespace Go.Proofs.YtpgedkdaflgfoafGreatDoor
open Go.RowKit LgM CfM

set_option maxHeartbeats 4000000 in
theorem IsSquare_small (n : Nat) (w : World) (hn : n < 1073741824) :
    Calls Tryz.prog 49 #[.int .i64 (n : Int)] w fun e w' => ∃ r : Nat, (r * r ≤ n ∧ n < (r + 1) * (r + 1)) ∧ e = .returned (.bool (decide (r * r = n))) ∧ Below w.heap.size w w' := by
  go_enter Tryz.func49, Tryz.ntmps49
  go_wp2_with fail
  obtain ⟨W0, hW0⟩ : ∃ W0, W0 = ((w.alloc (.cells #[.bool false, .slice none 0 0] 48)).alloc (.cells #[.bool false, .slice none 0 0] 48)) := ⟨_, rfl⟩
  have K0 : Below w.heap.size w W0 := by rw [hW0]; exact ((Below.refl _ _).alloc (Nat.le_refl _) _).alloc (by simp) _
  have S0 : Slot W0 w.heap.size := by rw [hW0]; exact (slot_new w _ _).below ((Below.refl _ _).alloc (Nat.le_refl _) _) (Nat.le_refl _)
  have S1 : Slot W0 (w.heap.size + 1) := by rw [hW0]; have := slot_new (w.alloc (.cells #[.bool false, .slice none 0 0] 48)) (.bool false) (.slice none 0 0); simpa using this
  rw [← hW0]
  have z0 : W0.heap.size = w.heap.size + 2 := by rw [hW0]; simp
  clear hW0
  refine (B_any (n : Int) W0 (by omega) (by omega)).mono ?_
  rintro e w1 ⟨b1, rfl, g1, h1, k1⟩
  have HS0 : Hid (Slot w1 w.heap.size) := S0.below k1 (Nat.le_refl _)
  have HS1 : Hid (Slot w1 (w.heap.size + 1)) := S1.below k1 (Nat.le_refl _)
  have HK1 : Hid (Below w.heap.size w w1) := K0.trans (k1.mono (by omega))
  have HB1 : Hid (BigAt w1 b1 (n : Int)) := h1
  have z1 : w.heap.size + 2 ≤ w1.heap.size := by have := k1.size; omega
  clear S0 S1 k1 h1 K0
  go_wp2_with fail
  refine (Sqrt_small (w.heap.size + 1) b1 n w1 HS1.out HB1.out hn).mono ?_
  rintro e w2 ⟨r, rfl, h2, hr, u2⟩
  have hr5 : r < 32768 := by
    rcases Nat.lt_or_ge r 32768 with h | h
    · exact h
    · have := Nat.mul_le_mul h h; omega
  have HS0 : Hid (Slot w2 w.heap.size) := HS0.out.upd u2 (by omega)
  have HB2 : Hid (BigAt w2 (w.heap.size + 1) (r : Int)) := h2
  have HK2 : Hid (Below w.heap.size w w2) := HK1.out.trans (u2.below (by omega) (by omega))
  have z2 : w.heap.size + 2 ≤ w2.heap.size := Nat.le_trans z1 u2.size
  have HRr : Hid (r * r ≤ n ∧ n < (r + 1) * (r + 1)) := hr
  clear HS1 h2 u2 hr HB1
  go_wp2_with fail
  refine (B_any 2 w2 (by omega) (by omega)).mono ?_
  rintro e w3 ⟨b3, rfl, g3, h3, k3⟩
  have HS3 : Hid (Slot w3 w.heap.size) := HS0.out.below k3 (Nat.le_refl _)
  have HB3 : Hid (BigAt w3 (w.heap.size + 1) (r : Int)) := HB2.out.below k3 (Nat.le_refl _)
  have HT3 : Hid (BigAt w3 b3 ((2 : Nat) : Int)) := h3
  have HK3 : Hid (Below w.heap.size w w3) := HK2.out.trans (k3.mono (by omega))
  have z3 : w.heap.size + 2 ≤ w3.heap.size := Nat.le_trans z2 k3.size
  clear HS0 HB2 k3 h3
  go_wp2_with fail
  refine (Exp_nil w.heap.size (w.heap.size + 1) b3 (r : Int) 2 1 1 w3 HS3.out HB3.out HT3.out (by rw [pw_one, Int.natAbs_natCast]; omega) (by rw [pw_one]; omega) (by omega) (by omega) (by omega)).mono ?_
  rintro e w4 ⟨rfl, h4, u4⟩
  obtain ⟨R, hR⟩ : ∃ R : Nat, R = r * r := ⟨_, rfl⟩
  have hRI : (r : Int) ^ 2 = (R : Int) := by rw [hR, Int.natCast_mul, Int.pow_succ, Int.pow_succ, Int.pow_zero, Int.one_mul]
  rw [hRI] at h4
  have HB4 : Hid (BigAt w4 w.heap.size (R : Int)) := h4
  have HK4 : Hid (Below w.heap.size w w4) := HK3.out.trans (u4.below (by omega) (Nat.le_refl _))
  have HR : Hid (R = r * r) := hR
  have hRb : R ≤ n := by have := HRr.out.1; omega
  have z4 : w.heap.size + 2 ≤ w4.heap.size := Nat.le_trans z3 u4.size
  clear h4 u4 HS3 HB3 HT3 hR hRI
  go_wp2_with fail
  refine (B_any (n : Int) w4 (by omega) (by omega)).mono ?_
  rintro e w5 ⟨b5, rfl, g5, h5, k5⟩
  have HB5 : Hid (BigAt w5 w.heap.size (R : Int)) := HB4.out.below k5 (Nat.le_refl _)
  have HN5 : Hid (BigAt w5 b5 (n : Int)) := h5
  have HK5 : Hid (Below w.heap.size w w5) := HK4.out.trans (k5.mono (by omega))
  clear h5 k5
  go_wp2_with fail
  refine (Cmp_any w.heap.size b5 (R : Int) (n : Int) 1 1 w5 HB5.out HN5.out (by rw [pw_one, Int.natAbs_natCast]; omega) (by rw [pw_one, Int.natAbs_natCast]; omega) (by omega) (by omega)).mono ?_
  rintro e w6 ⟨rfl, q, hw6⟩
  rw [hw6]
  clear hw6 w6
  have hcz : (cmpZ (R : Int) (n : Int) == 0) = decide (r * r = n) := by
    rw [← HR.out]
    by_cases h : R = n
    · subst h; simp [cmpZ]
    · have : R < n := by omega
      have e : cmpZ (R : Int) (n : Int) = -1 := by unfold cmpZ; rw [if_pos (by omega)]
      rw [e]; simp [h]
  generalize hbd : decide (r * r = n) = bd at hcz
  have HBd : Hid (decide (r * r = n) = bd) := hbd
  generalize cmpZ (R : Int) (n : Int) = cz at hcz ⊢
  clear hbd
  go_wp2
  go_ret
  exact ⟨r, HRr.out, by rw [HBd.out]; rfl, below_drewN' HK5.out⟩

def slLen : Value → Nat
  | .slice _ n _ => n
  | _ => 0

set_option maxHeartbeats 4000000 in
theorem PeriodOf_any (n r : Nat) (w : World) (hR : Rn n r) (hn : n ≤ 1000000) :
    Calls Tryz.prog 15 #[.int .i64 (n : Int)] w fun e w' => ∃ M a c, e = .returned (.slice a M c) ∧ IS w' (.slice a M c) (nz (kl r (cs n r) M)) ∧ ((1 ≤ M ∧ M ≤ 5000) ∧ (∀ i, i < M - 1 → (cs n r i).2 ≠ 1) ∧ (M = 5000 ∨ (cs n r (M - 1)).2 = 1)) ∧ Below w.heap.size w w' := by
  obtain ⟨i0, hi, hz0, hz1, hz2⟩ := info_parts Tryz.infoInt
  have HI : Hid (Tryz.prog.info? 3 = some i0 ∧ i0.zero = some (.int .i64 0) ∧ i0.size = 1 ∧ i0.bytes = 8) := ⟨hi, hz0, hz1, hz2⟩
  have hr := rn_small hR hn
  have HRn : Hid (Rn n r) := hR
  clear hi hz0 hz1 hz2 hR
  go_enter Tryz.func15, Tryz.ntmps15
  go_wp2_with fail
  have S0 := slot_new w (.bool false) (.slice none 0 0)
  have K0 := (Below.refl w.heap.size w).alloc (Nat.le_refl _) (.cells #[.bool false, .slice none 0 0] 48)
  refine (B_any (n : Int) _ (by omega) (by omega)).mono ?_
  rintro e w1 ⟨b1, rfl, g1, h1, k1⟩
  have HS1 : Hid (Slot w1 w.heap.size) := S0.below k1 (Nat.le_refl _)
  have HK1 : Hid (Below w.heap.size w w1) := K0.trans (k1.mono (by simp))
  have HB1 : Hid (BigAt w1 b1 (n : Int)) := h1
  clear S0 K0 k1 h1
  go_wp2_with fail
  refine (Sqrt_small w.heap.size b1 n w1 HS1.out HB1.out (by omega)).mono ?_
  rintro e w2 ⟨r', rfl, h2, hr', u2⟩
  have hrr : r' = r := by
    have a := HRn.out.lo; have b := HRn.out.hi
    rcases Nat.lt_trichotomy r' r with g | g | g
    · have := Nat.mul_le_mul (show r' + 1 ≤ r by omega) (show r' + 1 ≤ r by omega); omega
    · exact g
    · have := Nat.mul_le_mul (show r + 1 ≤ r' by omega) (show r + 1 ≤ r' by omega); omega
  subst hrr
  have HB2 : Hid (BigAt w2 w.heap.size (r' : Int)) := h2
  have HK2 : Hid (Below w.heap.size w w2) := HK1.out.trans (u2.below HK1.out.size (Nat.le_refl _))
  clear HS1 HB1 HK1 h2 u2 hr'
  go_wp2_with fail
  refine (Int64_any w.heap.size (r' : Int) w2 HB2.out (by rw [Int.natAbs_natCast]; omega)).mono ?_
  rintro e w3 ⟨rfl, q3, hw3⟩
  have HK3 : Hid (Below w.heap.size w w3) := by show Below _ _ _; rw [hw3]; exact below_drewN' HK2.out
  clear hw3 HB2 HK2
  obtain ⟨RR, hRR⟩ : ∃ RR : Nat, RR = r' * r' := ⟨_, rfl⟩
  have hRRI : (r' : Int) * (r' : Int) = (RR : Int) := by rw [hRR, Int.natCast_mul]
  have hRRn : RR < n := by rw [hRR]; exact HRn.out.lo
  obtain ⟨Q0, hQ0⟩ : ∃ Q0 : Nat, Q0 = n - RR := ⟨_, rfl⟩
  have hQ0I : (n : Int) - (RR : Int) = (Q0 : Int) := by omega
  have HQ0 : Hid ((r', Q0) = cs n r' 0) := by show _ = _; rw [hQ0, hRR]; rfl
  clear hRR hQ0
  go_wp2
  go_loopw [4, 5, 6] (fun ov pv qv wx => ∃ (i p q : Nat) (a : Option Addr) (c : Nat), i ≤ 5000 ∧ ov = .slice a i c ∧ pv = .int .i64 (p : Int) ∧ qv = .int .i64 (q : Int) ∧ Hid ((p, q) = cs n r' i ∧ (∀ j, j < i → (cs n r' j).2 ≠ 1) ∧ wx.ownsRow w.heap.size 3 1 (.slice a i c) i (ints (nz (kl r' (cs n r') i))) ∧ Below w.heap.size w wx)) (fun ov _ _ _ => 5000 - slLen ov)
  case atStart => exact ⟨0, r', Q0, none, 0, by omega, rfl, rfl, rfl, HQ0.out, fun j hj => by omega, World.ownsRow_nil _ _ _ _, HK3.out⟩
  case round =>
    clear HQ0 HK3 hQ0I hRRI hRRn
    obtain ⟨i, p, q, a, c, hi5, rfl, rfl, rfl, HR⟩ := hrel
    by_cases hlt : i < 5000
    · have hpq := HR.out.1
      have hp : p = (cs n r' i).1 := by rw [← hpq]
      have hq : q = (cs n r' i).2 := by rw [← hpq]
      obtain ⟨b1, b2, b3, b4, b5, b6, b7⟩ := cs_bd HRn.out i
      obtain ⟨d1, d2, d3, d4, d5, d6, d7⟩ := cs_bd HRn.out (i + 1)
      obtain ⟨c1, c2, c3, c4⟩ := cs_cq HRn.out i
      have hkq := np_def (r' : Int) ((cs n r' i).1 : Nat) ((cs n r' i).2 : Nat)
      rw [← c4, ← c2] at hkq
      obtain ⟨k, hk⟩ : ∃ k, k = cl n r' i := ⟨_, rfl⟩
      obtain ⟨P, hP⟩ : ∃ P, P = (cs n r' (i + 1)).1 := ⟨_, rfl⟩
      obtain ⟨Q, hQ⟩ : ∃ Q, Q = (cs n r' (i + 1)).2 := ⟨_, rfl⟩
      have hQd : (n - P * P) / q = Q := by rw [hQ, hP, hq]; rfl
      have hkd : (p + r') / q = k := by rw [hk, hp, hq]; rfl
      rw [← hp, ← hq, ← hk, ← hP] at hkq
      rw [← hp] at b1 b2
      rw [← hq] at b3 b4 b7
      rw [← hk] at b5 b6 b7
      rw [← hP] at d1 d2
      have hs1 : (p : Int) + (r' : Int) = ((p + r' : Nat) : Int) := by omega
      obtain ⟨S, hS⟩ : ∃ S, S = p + r' := ⟨_, rfl⟩
      rw [← hS] at hs1 hkd
      have hq0 : ((q : Int) == 0) = false := beq_eq_false_iff_ne.2 (by omega)
      have hk1 : Int.tdiv (S : Int) (q : Int) = (k : Int) := by rw [← hkd]; rfl
      have hk2 : (S : Int) / (q : Int) = (k : Int) := by rw [← hkd, Int.natCast_ediv]
      obtain ⟨KQ, hKQ⟩ : ∃ KQ : Nat, KQ = k * q := ⟨_, rfl⟩
      have hKQI : (k : Int) * (q : Int) = (KQ : Int) := by rw [hKQ, Int.natCast_mul]
      rw [hKQI] at hkq
      have hPI : (KQ : Int) - (p : Int) = (P : Int) := by omega
      obtain ⟨PP, hPP⟩ : ∃ PP : Nat, PP = P * P := ⟨_, rfl⟩
      have hPPI : (P : Int) * (P : Int) = (PP : Int) := by rw [hPP, Int.natCast_mul]
      have hPPb : PP < n := by
        rw [hPP]; have h1 := Nat.mul_le_mul d2 d2; have h2 := HRn.out.lo; omega
      rw [← hPP] at hQd
      obtain ⟨D, hD⟩ : ∃ D : Nat, D = n - PP := ⟨_, rfl⟩
      have hDI : (n : Int) - (PP : Int) = (D : Int) := by omega
      rw [← hD] at hQd
      have hQ1 : Int.tdiv (D : Int) (q : Int) = (Q : Int) := by rw [← hQd]; rfl
      have hQ2 : (D : Int) / (q : Int) = (Q : Int) := by rw [← hQd, Int.natCast_ediv]
      have hQb : Q ≤ 1000000 := by rw [← hQd]; exact Nat.le_trans (Nat.div_le_self _ _) (by omega)
      have hSb : S ≤ 2000 := by omega
      have hDb : D ≤ 1000000 := by omega
      have hwz := HR.out.2.2.2.size
      have HK : Hid (k = kth r' (cs n r') i) := hk
      have HPQ : Hid ((P, Q) = cs n r' (i + 1)) := by show _ = _; rw [hP, hQ]
      have HQi : Hid (q = (cs n r' i).2) := hq
      have HE : Hid (k = 2 * r' ↔ q = 1) := b7
      clear hpq hp hq hk hP hQ hQd hkd hS hKQ hPP hD hkq c1 c2 c3 c4 d3 d4 d5 d6 d7 b7
      have hap : Hid (Below w.heap.size w (wr.alloc (.cells #[.int .i64 (k : Int)] 3))) := HR.out.2.2.2.alloc hwz _
      by_cases hend : q = 1
      · have hk2r : ((k : Int) == 2 * (r' : Int)) = true := beq_iff_eq.2 (by have := HE.out.2 hend; omega)
        have HEnd : Hid (q = 1) := hend
        clear hend
        go_wp2_with (at_builtin; refine wpList_append_own _ rfl _ _ 34 rfl w.heap.size 3 i0 (.int .i64 0) 1 8 Tryz.underlying34 HI.out.1 HI.out.2.1 HI.out.2.2.1 HI.out.2.2.2 rfl (by decide) (.slice a i c) i (ints (nz (kl r' (cs n r') i))) rfl (HR.out.2.2.1.alloc _) ⟨wr.heap.size, 0, none⟩ 1 1 [.int .i64 (k : Int)] rfl rfl (cell_one_new _ _ _) (by simp [Value.oneCell']) (by simp only [maxLen]; omega) (by omega) (by simp; omega) ?_; intro v' w4 hown' hgrow _; obtain ⟨g', cap', rfl⟩ := ownsRow_succ hown')
        have hN : w4.ownsRow w.heap.size 3 1 (.slice (some ⟨g', 0, none⟩) (i + 1) cap') (i + 1) (ints (nz (kl r' (cs n r') (i + 1)))) := by
          rw [kl_succ, nz_append, ← HK.out]
          have e : nz [k] = [(k : Int)] := rfl
          rw [e, ← ints_snoc]
          exact hown'
        have hKB : Below w.heap.size w w4 := hap.out.grown hgrow (by simp; omega) (fun g e => (HR.out.2.2.1.lt g e).1)
        have HN : Hid (IS w4 (.slice (some ⟨g', 0, none⟩) (i + 1) cap') (nz (kl r' (cs n r') (i + 1)))) := IS.ownL (by rw [nz_len, kl_len]) hN
        have HKB : Hid (Below w.heap.size w w4) := hKB
        clear hown' hgrow hN hKB
        go_wp2
        go_ret
        exact ⟨i + 1, _, _, rfl, HN.out, ⟨⟨by omega, by omega⟩, fun j hj => HR.out.2.1 j (by omega), .inr (by show (cs n r' i).2 = 1; rw [← HQi.out]; exact HEnd.out)⟩, HKB.out⟩
      · have hk2r : ((k : Int) == 2 * (r' : Int)) = false := beq_eq_false_iff_ne.2 (by intro h; exact hend (HE.out.1 (by omega)))
        have HEnd : Hid (q ≠ 1) := hend
        clear hend
        go_wp2_with (at_builtin; refine wpList_append_own _ rfl _ _ 34 rfl w.heap.size 3 i0 (.int .i64 0) 1 8 Tryz.underlying34 HI.out.1 HI.out.2.1 HI.out.2.2.1 HI.out.2.2.2 rfl (by decide) (.slice a i c) i (ints (nz (kl r' (cs n r') i))) rfl (HR.out.2.2.1.alloc _) ⟨wr.heap.size, 0, none⟩ 1 1 [.int .i64 (k : Int)] rfl rfl (cell_one_new _ _ _) (by simp [Value.oneCell']) (by simp only [maxLen]; omega) (by omega) (by simp; omega) ?_; intro v' w4 hown' hgrow _; obtain ⟨g', cap', rfl⟩ := ownsRow_succ hown')
        have hN : w4.ownsRow w.heap.size 3 1 (.slice (some ⟨g', 0, none⟩) (i + 1) cap') (i + 1) (ints (nz (kl r' (cs n r') (i + 1)))) := by
          rw [kl_succ, nz_append, ← HK.out]
          have e : nz [k] = [(k : Int)] := rfl
          rw [e, ← ints_snoc]
          exact hown'
        have hKB : Below w.heap.size w w4 := hap.out.grown hgrow (by simp; omega) (fun g e => (HR.out.2.2.1.lt g e).1)
        have HN : Hid (w4.ownsRow w.heap.size 3 1 (.slice (some ⟨g', 0, none⟩) (i + 1) cap') (i + 1) (ints (nz (kl r' (cs n r') (i + 1))))) := hN
        have HKB : Hid (Below w.heap.size w w4) := hKB
        clear hown' hgrow hN hKB
        go_roundw
        case rel =>
          refine ⟨i + 1, P, Q, _, _, by omega, rfl, by go_num, by go_num, HPQ.out, fun j hj => ?_, HN.out, HKB.out⟩
          by_cases e : j = i
          · subst e; rw [← HQi.out]; exact HEnd.out
          · exact HR.out.2.1 j (by omega)
        case measure => simp [slLen]; omega
    · obtain rfl : i = 5000 := by omega
      have HN : Hid (IS wr (.slice a 5000 c) (nz (kl r' (cs n r') 5000))) := IS.ownL (by rw [nz_len, kl_len]) HR.out.2.2.1
      go_wp2
      go_ret
      exact ⟨5000, a, c, rfl, HN.out, ⟨⟨by omega, by omega⟩, fun j hj => HR.out.2.1 j (by omega), .inl rfl⟩, HR.out.2.2.2⟩

/-- The fault's code of a root. -/
def SfIs (d c : Int) : Prop := ((d < 2 ∨ 1000000 < d) ∧ c = 3) ∨ ((∃ r : Nat, (2 ≤ d ∧ d ≤ 1000000) ∧ (r : Int) * r = d) ∧ c = 7) ∨ (∃ n r : Nat, d = n ∧ n ≤ 1000000 ∧ Rn n r ∧ c = 0)

set_option maxHeartbeats 2000000 in
theorem surdFault_any (d : Int) (w : World) :
    Calls Tryz.prog 14 #[.int .i64 d] w fun e w' => ∃ c, e = .returned (.agg #[.int .i64 c, .int .i64 0]) ∧ SfIs d c ∧ Below w.heap.size w w' := by
  have hF : Cl w.heap.size [.int .i64 0, .int .i64 0] 25 (w.alloc (.cells #[.int .i64 0, .int .i64 0] 25)) := Cl.new [.int .i64 0, .int .i64 0] _ w
  by_cases h1 : d < 2 ∨ 1000000 < d
  · have HO : Hid (SfIs d 3) := .inl ⟨h1, rfl⟩
    rcases h1 with h1 | h1
    · have t1 : decide (d < 2) = true := decide_eq_true h1
      clear h1
      go_enter Tryz.func14, Tryz.ntmps14
      go_wp2_with fail
      refine (F_any 3 0 _).mono ?_
      rintro e w9 ⟨rfl, k9⟩
      have F9 := hF.below k9
      have HF9 : Hid (Cl w.heap.size [.int .i64 0, .int .i64 0] 25 w9) := F9
      have HK9 : Hid (Below w.heap.size w w9) := ((Below.refl _ w).alloc (Nat.le_refl _) _).trans (k9.mono (by simp))
      have y0 := F9.cell 0
      have y1 := F9.cell 1
      have y2 := F9.frozen 0
      have y3 := F9.frozen 1
      simp at y0 y1
      clear k9 F9
      go_wp2
      have Z := (HF9.out.set 0 (.int .i64 3)).set 1 (.int .i64 0)
      have z0 := Z.cell 0
      have z1 := Z.cell 1
      simp at z0 z1
      exact bodyPost_ret (v := .agg #[.int .i64 3, .int .i64 0]) (by simp [results, Tryz.results14, go_sem, z0, z1]) rfl ⟨3, rfl, HO.out, (HK9.out.setCell (Nat.le_refl _) _).setCell (Nat.le_refl _) _⟩
    · have t1 : decide (d < 2) = false := decide_eq_false (by omega)
      have t2 : decide (1000000 < d) = true := decide_eq_true h1
      clear h1
      go_enter Tryz.func14, Tryz.ntmps14
      go_wp2_with fail
      refine (F_any 3 0 _).mono ?_
      rintro e w9 ⟨rfl, k9⟩
      have F9 := hF.below k9
      have HF9 : Hid (Cl w.heap.size [.int .i64 0, .int .i64 0] 25 w9) := F9
      have HK9 : Hid (Below w.heap.size w w9) := ((Below.refl _ w).alloc (Nat.le_refl _) _).trans (k9.mono (by simp))
      have y0 := F9.cell 0
      have y1 := F9.cell 1
      have y2 := F9.frozen 0
      have y3 := F9.frozen 1
      simp at y0 y1
      clear k9 F9
      go_wp2
      have Z := (HF9.out.set 0 (.int .i64 3)).set 1 (.int .i64 0)
      have z0 := Z.cell 0
      have z1 := Z.cell 1
      simp at z0 z1
      exact bodyPost_ret (v := .agg #[.int .i64 3, .int .i64 0]) (by simp [results, Tryz.results14, go_sem, z0, z1]) rfl ⟨3, rfl, HO.out, (HK9.out.setCell (Nat.le_refl _) _).setCell (Nat.le_refl _) _⟩
  · obtain ⟨n, rfl⟩ := Int.eq_ofNat_of_zero_le (show 0 ≤ d by omega)
    have hn2 : 2 ≤ n ∧ n ≤ 1000000 := by omega
    have t1 : decide ((n : Int) < 2) = false := decide_eq_false (by omega)
    have t2 : decide (1000000 < (n : Int)) = false := decide_eq_false (by omega)
    clear h1
    go_enter Tryz.func14, Tryz.ntmps14
    go_wp2_with fail
    refine (IsSquare_small n _ (by omega)).mono ?_
    rintro e w1 ⟨r, hr, rfl, k1⟩
    have F1 := hF.below k1
    have f0 := F1.cell 0
    have f1 := F1.cell 1
    have f2 := F1.frozen 0
    have f3 := F1.frozen 1
    simp at f0 f1
    have HF1 : Hid (Cl w.heap.size [.int .i64 0, .int .i64 0] 25 w1) := F1
    have HK1 : Hid (Below w.heap.size w w1) := ((Below.refl _ w).alloc (Nat.le_refl _) _).trans (k1.mono (by simp))
    clear F1 k1 hF
    by_cases hsq : r * r = n
    · have HO : Hid (SfIs (n : Int) 7) := .inr (.inl ⟨⟨r, by omega, by rw [← Int.natCast_mul, hsq]⟩, rfl⟩)
      rw [decide_eq_true hsq]
      clear hsq hr
      clear f0 f1 f2 f3
      go_wp2_with fail
      refine (F_any 7 0 _).mono ?_
      rintro e w9 ⟨rfl, k9⟩
      have F9 := HF1.out.below k9
      have HF9 : Hid (Cl w.heap.size [.int .i64 0, .int .i64 0] 25 w9) := F9
      have HK9 : Hid (Below w.heap.size w w9) := HK1.out.trans (k9.mono HK1.out.size)
      have y0 := F9.cell 0
      have y1 := F9.cell 1
      have y2 := F9.frozen 0
      have y3 := F9.frozen 1
      simp at y0 y1
      clear k9 F9
      go_wp2
      have Z := (HF9.out.set 0 (.int .i64 7)).set 1 (.int .i64 0)
      have z0 := Z.cell 0
      have z1 := Z.cell 1
      simp at z0 z1
      exact bodyPost_ret (v := .agg #[.int .i64 7, .int .i64 0]) (by simp [results, Tryz.results14, go_sem, z0, z1]) rfl ⟨7, rfl, HO.out, (HK9.out.setCell (Nat.le_refl _) _).setCell (Nat.le_refl _) _⟩
    · have HO : Hid (SfIs (n : Int) 0) := .inr (.inr ⟨n, r, rfl, hn2.2, ⟨by rcases r with _ | r; (have := hr.2; omega); omega, by omega, hr.2⟩, rfl⟩)
      rw [decide_eq_false hsq]
      clear hsq hr
      go_wp2
      have HF9 := HF1
      have HK9 := HK1
      have Z := (HF9.out.set 0 (.int .i64 0)).set 1 (.int .i64 0)
      have z0 := Z.cell 0
      have z1 := Z.cell 1
      simp at z0 z1
      exact bodyPost_ret (v := .agg #[.int .i64 0, .int .i64 0]) (by simp [results, Tryz.results14, go_sem, z0, z1]) rfl ⟨0, rfl, HO.out, (HK9.out.setCell (Nat.le_refl _) _).setCell (Nat.le_refl _) _⟩

end Go.Proofs.YtpgedkdaflgfoafGreatDoor
