import Derived.Test.YtnkjadpmigpneaaGreatDoorJpY
import Derived.Test.YtnkjadpmigpneaaGreatDoorJpU
set_option linter.unusedSimpArgs false
set_option linter.unusedVariables false
set_option maxRecDepth 100000
namespace Go.Proofs.YtnkjadpmigpneaaGreatDoor
open Go.RowKit
theorem fac_pw {k : Nat} (h : k ≤ 200) : BN.fac k < pw 51 := Nat.lt_of_le_of_lt (BN.fac_le k 200 h h) (by decide +kernel)
theorem tm_parts {n k j : Nat} (h : j ≤ k) : BN.tm n k j = if j % 2 = 1 then -(((BN.ch k j : Nat) : Int) * ((k : Int) - (j : Int)) ^ n) else ((BN.ch k j : Nat) : Int) * ((k : Int) - (j : Int)) ^ n := by
  unfold BN.tm
  rw [BN.sgn_even]
  by_cases hj : j % 2 = 1
  · rw [if_pos hj, if_pos hj]; omega
  · rw [if_neg hj, if_neg hj]; omega
theorem pow_pw {n k j : Nat} (hn : n ≤ 200) (hk : k ≤ 200) (hj : j ≤ k) : (((k : Int) - (j : Int)) ^ n).natAbs < pw 51 := by
  rw [BN.int_pow_abs]
  refine Nat.lt_of_le_of_lt (Nat.le_trans (Nat.pow_le_pow_left (show ((k : Int) - j).natAbs ≤ 256 by omega) n) (Nat.pow_le_pow_right (by decide) hn)) ?_
  decide +kernel
theorem fac_cast (j : Nat) : ((BN.fac j : Nat) : Int) * ((j + 1 : Nat) : Int) = ((BN.fac (j + 1) : Nat) : Int) := by
  show _ = ((BN.fac j * (j + 1) : Nat) : Int)
  rw [Int.natCast_mul]
theorem sets_quo (n k : Nat) : (BN.sm (BN.tm n k) (k + 1)).tdiv ((BN.fac k : Nat) : Int) = ((BN.st n k : Nat) : Int) := by
  have h : BN.sm (BN.tm n k) (k + 1) = ((BN.fac k * BN.st n k : Nat) : Int) := BN.al_is n k
  have h0 := BN.fac_pos k
  rw [h, Int.natCast_mul, Int.mul_comm]
  exact Int.mul_tdiv_cancel _ (by omega)
structure Sj (w W : World) (s f n k j : Nat) : Prop where
  sum : BigAt W s (BN.sm (BN.tm n k) j)
  fac : BigAt W f ((BN.fac (j - 1) : Nat) : Int)
  ne : s ≠ f
  s0 : w.heap.size ≤ s
  f0 : w.heap.size ≤ f
  k : Below w.heap.size w W
theorem Sj.below {w W W' : World} {s f n k j : Nat} (h : Sj w W s f n k j) (l : Below W.heap.size W W') : Sj w W' s f n k j :=
  ⟨h.sum.below l (Nat.le_refl _), h.fac.below l (Nat.le_refl _), h.ne, h.s0, h.f0, h.k.trans (l.mono h.k.size)⟩
theorem Sj.upd {w W W' : World} {s f n k j b : Nat} (h : Sj w W s f n k j) (u : Upd b W W') (hb : Slot W b) (h1 : s ≠ b) (h2 : f ≠ b) (h3 : w.heap.size ≤ b) : Sj w W' s f n k j :=
  ⟨h.sum.upd u hb h1, h.fac.upd u hb h2, h.ne, h.s0, h.f0, h.k.trans (u.below h.k.size h3)⟩
set_option maxHeartbeats 4000000 in
theorem SetsOf_any (n k : Nat) (w : World) (hn : n ≤ 200) (hk : k ≤ 200) :
    Calls Tryz.prog 34 #[.int .i64 (n : Int), .int .i64 (k : Int)] w fun e w' => ∃ b, e = .returned (.pointer (some ⟨b, 0, none⟩)) ∧ Made w w' b ((BN.st n k : Nat) : Int) := by
  go_enter Tryz.func34, Tryz.ntmps34
  go_wp2_with fail
  refine (B_any 0 w (by omega) (by omega)).mono ?_
  rintro e w1 ⟨s, rfl, m1⟩
  have H1 : Hid (w.heap.size ≤ s ∧ BigAt w1 s 0 ∧ Below w.heap.size w w1) := ⟨m1.1, m1.2.1, m1.2.2⟩
  clear m1
  go_wp2_with fail
  refine (B_any 1 w1 (by omega) (by omega)).mono ?_
  rintro e w2 ⟨f, rfl, m2⟩
  have H2 : Hid (Sj w w2 s f n k 0) := ⟨H1.out.2.1.below m2.2.2 (Nat.le_refl _), m2.2.1, by have := H1.out.2.1.slot.lt; have := m2.1; show s ≠ f; omega, H1.out.1, by have := H1.out.2.2.size; have := m2.1; omega, H1.out.2.2.trans (m2.2.2.mono H1.out.2.2.size)⟩
  clear m2 H1
  go_wp2
  go_loopg [7, 8] (k + 1) (fun gk jv tv wx => ∃ j : Nat, jv = .int .i64 (j : Int) ∧ Hid (gk = k + 1 - j ∧ j ≤ k + 1 ∧ Sj w wx s f n k j))
  case atStart => exact ⟨0, rfl, rfl, by omega, H2.out⟩
  case round =>
    clear H2
    obtain ⟨j, rfl, HR⟩ := hrel
    obtain ⟨h1, h2, h3⟩ := HR.out
    have HK : Hid (gk = k + 1 - j) := h1
    have HS : Hid (Sj w wr s f n k j) := h3
    clear HR h1 h3
    by_cases hj : j ≤ k
    · have ti : decide ((j : Int) ≤ (k : Int)) = true := decide_eq_true (by omega)
      have g0 := HS.out.k.size
      have gs := HS.out.sum.slot.lt
      have gf := HS.out.fac.slot.lt
      go_wp2_with fail
      have S0 : Hid (Slot (wr.alloc (.cells #[.bool false, .slice none 0 0] 37)) wr.heap.size ∧ Sj w (wr.alloc (.cells #[.bool false, .slice none 0 0] 37)) s f n k j) := ⟨slot_new _ _ _, HS.out.below (Below.alloc_self _ _)⟩
      refine (Choose_any k j _ hj (by omega)).mono ?_
      rintro e w3 ⟨b3, rfl, m3⟩
      have g3 := m3.2.2.size
      simp at g3
      have H3 : Hid (Slot w3 wr.heap.size ∧ Sj w w3 s f n k j ∧ BigAt w3 b3 ((BN.ch k j : Nat) : Int) ∧ wr.heap.size < b3) := ⟨S0.out.1.below m3.2.2 (Nat.le_refl _), S0.out.2.below m3.2.2, m3.2.1, by have := m3.1; simp at this; omega⟩
      clear m3 S0 HS
      go_wp2_with fail
      have S4 : Hid (Slot (w3.alloc (.cells #[.bool false, .slice none 0 0] 37)) wr.heap.size ∧ Slot (w3.alloc (.cells #[.bool false, .slice none 0 0] 37)) w3.heap.size ∧ Sj w (w3.alloc (.cells #[.bool false, .slice none 0 0] 37)) s f n k j ∧ BigAt (w3.alloc (.cells #[.bool false, .slice none 0 0] 37)) b3 ((BN.ch k j : Nat) : Int)) := ⟨H3.out.1.below (Below.alloc_self _ _) (Nat.le_refl _), slot_new _ _ _, H3.out.2.1.below (Below.alloc_self _ _), H3.out.2.2.1.below (Below.alloc_self _ _) (Nat.le_refl _)⟩
      refine (B_any ((k : Int) - (j : Int)) _ (by omega) (by omega)).mono ?_
      rintro e w5 ⟨b5, rfl, m5⟩
      have g5 := m5.2.2.size
      simp at g5
      have H5 : Hid (Slot w5 wr.heap.size ∧ Slot w5 w3.heap.size ∧ Sj w w5 s f n k j ∧ BigAt w5 b3 ((BN.ch k j : Nat) : Int) ∧ BigAt w5 b5 ((k : Int) - (j : Int))) := ⟨S4.out.1.below m5.2.2 (Nat.le_refl _), S4.out.2.1.below m5.2.2 (Nat.le_refl _), S4.out.2.2.1.below m5.2.2, S4.out.2.2.2.below m5.2.2 (Nat.le_refl _), m5.2.1⟩
      clear m5 S4
      go_wp2_with fail
      refine (B_any (n : Int) w5 (by omega) (by omega)).mono ?_
      rintro e w6 ⟨b6, rfl, m6⟩
      have g6 := m6.2.2.size
      have H6 : Hid (Slot w6 wr.heap.size ∧ Slot w6 w3.heap.size ∧ Sj w w6 s f n k j ∧ BigAt w6 b3 ((BN.ch k j : Nat) : Int) ∧ BigAt w6 b5 ((k : Int) - (j : Int)) ∧ BigAt w6 b6 (n : Int)) := ⟨H5.out.1.below m6.2.2 (Nat.le_refl _), H5.out.2.1.below m6.2.2 (Nat.le_refl _), H5.out.2.2.1.below m6.2.2, H5.out.2.2.2.1.below m6.2.2 (Nat.le_refl _), H5.out.2.2.2.2.below m6.2.2 (Nat.le_refl _), m6.2.1⟩
      clear m6 H5
      have L3 := H3.out.2.2.1.slot.lt
      have L3' := H3.out.2.2.2
      go_wp2_with fail
      refine (Exp_nil w3.heap.size b5 b6 ((k : Int) - (j : Int)) n 1 1 w6 H6.out.2.1 H6.out.2.2.2.2.1 H6.out.2.2.2.2.2 (by rw [show pw 1 = 4294967296 from by decide]; omega) (by rw [show pw 1 = 4294967296 from by decide]; omega) (by omega) (by omega) (by omega)).mono ?_
      rintro e w7 ⟨rfl, m7, u7⟩
      have g7 := u7.size
      have H7 : Hid (Slot w7 wr.heap.size ∧ Sj w w7 s f n k j ∧ BigAt w7 b3 ((BN.ch k j : Nat) : Int) ∧ BigAt w7 w3.heap.size (((k : Int) - (j : Int)) ^ n)) := ⟨H6.out.1.upd u7 (by omega), H6.out.2.2.1.upd u7 H6.out.2.1 (by omega) (by omega) (by omega), H6.out.2.2.2.1.upd u7 H6.out.2.1 (by omega), m7⟩
      clear m7 u7 H6
      go_wp2_with fail
      refine (Mul_any wr.heap.size b3 w3.heap.size _ _ 7 51 w7 H7.out.1 H7.out.2.2.1 H7.out.2.2.2 (by have := @ch_pw k j (by omega); omega) (pow_pw hn hk hj) (by omega) (by omega)).mono ?_
      rintro e w8 ⟨rfl, m8, u8⟩
      have g8 := u8.size
      obtain ⟨T, hT⟩ : ∃ T, T = ((BN.ch k j : Nat) : Int) * ((k : Int) - (j : Int)) ^ n := ⟨_, rfl⟩
      have HT : Hid (T = ((BN.ch k j : Nat) : Int) * ((k : Int) - (j : Int)) ^ n ∧ T.natAbs < pw 58) := ⟨hT, by rw [hT]; exact mulN_lt (show (((BN.ch k j : Nat) : Int)).natAbs < pw 7 by have := @ch_pw k j (by omega); omega) (pow_pw hn hk hj)⟩
      rw [← hT] at m8
      have H8 : Hid (Sj w w8 s f n k j ∧ BigAt w8 wr.heap.size T) := ⟨H7.out.2.1.upd u8 H7.out.1 (by omega) (by omega) g0, m8⟩
      clear m8 u8 H7 hT H3
      have ht : (BN.tm n k j).natAbs < pw 58 := by
        rw [tm_parts hj, ← HT.out.1]
        have := HT.out.2
        split
        · rw [Int.natAbs_neg]; exact this
        · exact this
      obtain ⟨U, hU⟩ : ∃ U, U = BN.tm n k j := ⟨_, rfl⟩
      rw [← hU] at ht
      have HU : Hid (U = BN.tm n k j ∧ U.natAbs < pw 58) := ⟨hU, ht⟩
      clear hU ht
      by_cases ho : j % 2 = 1
      · have e2 : ((j : Int) % 2 == 1) = true := by rw [show (j : Int) % 2 = ((j % 2 : Nat) : Int) from rfl, ho]; rfl
        go_wp2_with fail
        refine (Neg_any wr.heap.size wr.heap.size T 58 w8 H8.out.2.slot H8.out.2 HT.out.2 (by omega)).mono ?_
        rintro e w9 ⟨rfl, m9, u9⟩
        have g9 := u9.size
        have H9 : Hid (Sj w w9 s f n k j ∧ BigAt w9 wr.heap.size U) := ⟨H8.out.1.upd u9 H8.out.2.slot (by omega) (by omega) g0, by rw [HU.out.1, tm_parts hj, if_pos ho, ← HT.out.1]; exact m9⟩
        clear m9 u9 H8
        go_wp2_with fail
        refine (Add_any s s wr.heap.size _ _ 64 58 w9 H9.out.1.sum.slot H9.out.1.sum H9.out.2 (BN.sm_pw hn hk (by omega)) HU.out.2 (by omega) (by omega)).mono ?_
        rintro e wa ⟨rfl, ma, ua⟩
        have ga := ua.size
        have HA : Hid (BigAt wa s (BN.sm (BN.tm n k) (j + 1)) ∧ BigAt wa f ((BN.fac (j - 1) : Nat) : Int) ∧ Below w.heap.size w wa) := ⟨by rw [BN.sm_succ, ← HU.out.1]; exact ma, H9.out.1.fac.upd ua H9.out.1.sum.slot (fun e => H9.out.1.ne e.symm), H9.out.1.k.trans (ua.below H9.out.1.k.size H9.out.1.s0)⟩
        have HN : Hid (s ≠ f ∧ w.heap.size ≤ s ∧ w.heap.size ≤ f) := ⟨H9.out.1.ne, H9.out.1.s0, H9.out.1.f0⟩
        clear ma ua H9 HU HT
        have t0 : decide (0 < j) = true := decide_eq_true (by omega)
        have t0' : decide (((0 : Nat) : Int) < (j : Int)) = true := decide_eq_true (by omega)
        go_wp2_with fail
        refine (B_any (j : Int) wa (by omega) (by omega)).mono ?_
        rintro e wb ⟨bb, rfl, mb⟩
        have HB : Hid (BigAt wb s (BN.sm (BN.tm n k) (j + 1)) ∧ BigAt wb f ((BN.fac (j - 1) : Nat) : Int) ∧ BigAt wb bb (j : Int) ∧ Below w.heap.size w wb) := ⟨HA.out.1.below mb.2.2 (Nat.le_refl _), HA.out.2.1.below mb.2.2 (Nat.le_refl _), mb.2.1, HA.out.2.2.trans (mb.2.2.mono HA.out.2.2.size)⟩
        clear mb HA
        go_wp2_with fail
        refine (Mul_any f f bb _ _ 51 1 wb HB.out.2.1.slot HB.out.2.1 HB.out.2.2.1 (by rw [Int.natAbs_natCast]; exact fac_pw (by omega)) (by rw [show pw 1 = 4294967296 from by decide]; omega) (by omega) (by omega)).mono ?_
        rintro e wc ⟨rfl, mc, uc⟩
        have HC : Hid (Sj w wc s f n k (j + 1)) := by
          refine ⟨HB.out.1.upd uc HB.out.2.1.slot HN.out.1, ?_, HN.out.1, HN.out.2.1, HN.out.2.2, HB.out.2.2.2.trans (uc.below HB.out.2.2.2.size HN.out.2.2)⟩
          have h := fac_cast (j - 1)
          rw [show j - 1 + 1 = j by omega] at h
          rw [show j + 1 - 1 = j by omega, ← h]
          exact mc
        clear mc uc HB HN
        go_wp2
        go_roundg (k + 1 - (j + 1))
        case rel => exact ⟨j + 1, by go_num, rfl, by omega, HC.out⟩
        case measure => have := HK.out; omega
      · have e2 : ((j : Int) % 2 == 1) = false := beq_eq_false_iff_ne.2 (by omega)
        have H9 : Hid (Sj w w8 s f n k j ∧ BigAt w8 wr.heap.size U) := ⟨H8.out.1, by rw [HU.out.1, tm_parts hj, if_neg ho, ← HT.out.1]; exact H8.out.2⟩
        clear H8
        go_wp2_with fail
        refine (Add_any s s wr.heap.size _ _ 64 58 w8 H9.out.1.sum.slot H9.out.1.sum H9.out.2 (BN.sm_pw hn hk (by omega)) HU.out.2 (by omega) (by omega)).mono ?_
        rintro e wa ⟨rfl, ma, ua⟩
        have ga := ua.size
        have HA : Hid (BigAt wa s (BN.sm (BN.tm n k) (j + 1)) ∧ BigAt wa f ((BN.fac (j - 1) : Nat) : Int) ∧ Below w.heap.size w wa) := ⟨by rw [BN.sm_succ, ← HU.out.1]; exact ma, H9.out.1.fac.upd ua H9.out.1.sum.slot (fun e => H9.out.1.ne e.symm), H9.out.1.k.trans (ua.below H9.out.1.k.size H9.out.1.s0)⟩
        have HN : Hid (s ≠ f ∧ w.heap.size ≤ s ∧ w.heap.size ≤ f) := ⟨H9.out.1.ne, H9.out.1.s0, H9.out.1.f0⟩
        clear ma ua H9 HU HT
        by_cases h0 : 0 < j
        · have t0 : decide (0 < j) = true := decide_eq_true (by omega)
          have t0' : decide (((0 : Nat) : Int) < (j : Int)) = true := decide_eq_true (by omega)
          go_wp2_with fail
          refine (B_any (j : Int) wa (by omega) (by omega)).mono ?_
          rintro e wb ⟨bb, rfl, mb⟩
          have HB : Hid (BigAt wb s (BN.sm (BN.tm n k) (j + 1)) ∧ BigAt wb f ((BN.fac (j - 1) : Nat) : Int) ∧ BigAt wb bb (j : Int) ∧ Below w.heap.size w wb) := ⟨HA.out.1.below mb.2.2 (Nat.le_refl _), HA.out.2.1.below mb.2.2 (Nat.le_refl _), mb.2.1, HA.out.2.2.trans (mb.2.2.mono HA.out.2.2.size)⟩
          clear mb HA
          go_wp2_with fail
          refine (Mul_any f f bb _ _ 51 1 wb HB.out.2.1.slot HB.out.2.1 HB.out.2.2.1 (by rw [Int.natAbs_natCast]; exact fac_pw (by omega)) (by rw [show pw 1 = 4294967296 from by decide]; omega) (by omega) (by omega)).mono ?_
          rintro e wc ⟨rfl, mc, uc⟩
          have HC : Hid (Sj w wc s f n k (j + 1)) := by
            refine ⟨HB.out.1.upd uc HB.out.2.1.slot HN.out.1, ?_, HN.out.1, HN.out.2.1, HN.out.2.2, HB.out.2.2.2.trans (uc.below HB.out.2.2.2.size HN.out.2.2)⟩
            have h := fac_cast (j - 1)
            rw [show j - 1 + 1 = j by omega] at h
            rw [show j + 1 - 1 = j by omega, ← h]
            exact mc
          clear mc uc HB HN
          go_wp2
          go_roundg (k + 1 - (j + 1))
          case rel => exact ⟨j + 1, by go_num, rfl, by omega, HC.out⟩
          case measure => have := HK.out; omega
        · have t0 : decide (0 < j) = false := decide_eq_false (by omega)
          obtain rfl : j = 0 := by omega
          have HC : Hid (Sj w wa s f n k (0 + 1)) := ⟨HA.out.1, HA.out.2.1, HN.out.1, HN.out.2.1, HN.out.2.2, HA.out.2.2⟩
          clear HA HN
          go_wp2
          go_roundg (k + 1 - (0 + 1))
          case rel => exact ⟨0 + 1, by go_num, rfl, by omega, HC.out⟩
          case measure => have := HK.out; omega
    · have ti : decide ((j : Int) ≤ (k : Int)) = false := decide_eq_false (by omega)
      obtain rfl : j = k + 1 := by omega
      go_wp2_with fail
      refine (Quo_any s s f _ _ 64 51 wr HS.out.sum.slot HS.out.sum HS.out.fac (by have := BN.fac_pos (k + 1 - 1); omega) (BN.sm_pw hn hk (by omega)) (by rw [Int.natAbs_natCast]; exact fac_pw (by omega)) (by omega) (by omega)).mono ?_
      rintro e w5 ⟨rfl, m5, u5⟩
      rw [show k + 1 - 1 = k from rfl, sets_quo] at m5
      have HE : Hid (Made w w5 s ((BN.st n k : Nat) : Int)) := ⟨HS.out.s0, m5, HS.out.k.trans (u5.below HS.out.k.size HS.out.s0)⟩
      clear m5 u5 HS
      go_wp2
      go_ret
      exact ⟨s, rfl, HE.out⟩
end Go.Proofs.YtnkjadpmigpneaaGreatDoor
