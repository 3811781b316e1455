/- The reference's IsPrime: of a prime it says so. -/
import Derived.Test.YtknmfohipdjlpabGreatDoorBigR
import Derived.Test.YtknmfohipdjlpabGreatDoorCertM
set_option linter.unusedSimpArgs false
set_option linter.unusedVariables false
set_option maxRecDepth 100000
namespace Go.Proofs.YtknmfohipdjlpabGreatDoor
open Go.RowKit

/-- The bases of Miller's test. -/
def bs : List Int := [2, 3, 5, 7, 11, 13, 17, 19, 23, 29, 31, 37]
theorem bs_at : ∀ j, j < 12 → 2 ≤ bs.getD j 0 ∧ bs.getD j 0 ≤ 37 := by decide

theorem pr_mod {X p : Nat} (h : Pr X) (h1 : 2 ≤ p) (h2 : p < X) : X % p ≠ 0 := by
  intro h0
  rcases h.2 p (Nat.dvd_of_mod_eq_zero h0) with h3 | h3 <;> omega

/-- The number and the bases, where they lie. -/
structure PB (w : World) (bx G X : Nat) : Prop where
  x : BigAt w bx (X : Int)
  lt : G < w.heap.size
  bases : ∀ j, j < 12 → w.cell? ⟨G, j, none⟩ = some (.int .i64 (bs.getD j 0))
theorem PB.under {w w' : World} {bx G X : Nat} (h : PB w bx G X) (k : Below w.heap.size w w') : PB w' bx G X :=
  ⟨h.x.below k (Nat.le_refl _), Nat.lt_of_lt_of_le h.lt k.size, fun j hj => (k.cell (p := ⟨G, j, none⟩) h.lt).trans (h.bases j hj)⟩

/-- Beside them 1 and the number less 1. -/
structure PL (w : World) (b1 bl X : Nat) : Prop where
  one : BigAt w b1 1
  less : BigAt w bl ((X : Int) - 1)
theorem PL.under {w w' : World} {b1 bl X : Nat} (h : PL w b1 bl X) (k : Below w.heap.size w w') : PL w' b1 bl X :=
  ⟨h.one.below k (Nat.le_refl _), h.less.below k (Nat.le_refl _)⟩

theorem cmpZ_gt {a b : Int} (h : b < a) : cmpZ a b = 1 := by unfold cmpZ; rw [if_neg (by omega), if_pos h]
theorem cmpZ_eq (a b : Int) : (cmpZ a b == 0) = decide (a = b) := by
  unfold cmpZ
  split
  · rw [decide_eq_false (by omega)]; rfl
  · split
    · rw [decide_eq_false (by omega)]; rfl
    · rw [decide_eq_true (by omega)]; rfl

theorem cell_new_b (x : World) (C : Array Value) (t : TypeId) (z i : Nat) (hz : x.heap.size = z) : (x.alloc (.cells C t)).cell? ⟨z, i, none⟩ = C[i]? := by
  have h : (x.alloc (.cells C t)).heap[z]? = some (.cells C t) := by subst hz; show (x.heap.push _)[x.heap.size]? = _; simp
  simp only [World.cell?, h]; rfl
theorem sign_pos {a : Int} (h : 0 < a) : a.sign = 1 := Int.sign_eq_one_of_pos h
theorem slot_in (w : World) : Slot (w.alloc (.cells #[.bool false, .slice none 0 0] 51)) w.heap.size := slot_new w _ _

theorem Cmp_val (bx by' : Nat) (x y c : Int) (m n : Nat) (w : World) (hx : BigAt w bx x) (hy : BigAt w by' y) (hm : x.natAbs < pw m) (hn : y.natAbs < pw n) (hm' : m ≤ 100000000) (hn' : n ≤ 100000000) (hc : cmpZ x y = c) :
    Calls Tryz.prog 29 #[.pointer (some ⟨bx, 0, none⟩), .pointer (some ⟨by', 0, none⟩)] w fun e w' => e = .returned (.int .i64 c) ∧ Below w.heap.size w w' := by
  refine (Cmp_any bx by' x y m n w hx hy hm hn hm' hn').mono ?_
  rw [hc]
  rintro e w' ⟨rfl, k, rfl⟩
  exact ⟨rfl, below_drewN' (Below.refl _ _)⟩

theorem miller_step (P D k X : Nat) (hk : 1 ≤ k) : P ^ (D * 2 ^ (k - 1)) % X * (P ^ (D * 2 ^ (k - 1)) % X) % X = P ^ (D * 2 ^ k) % X := by
  rw [← Nat.mul_mod, ← Nat.pow_add]
  congr 2
  obtain ⟨j, rfl⟩ : ∃ j, k = j + 1 := ⟨k - 1, by omega⟩
  rw [Nat.add_sub_cancel, Nat.pow_succ, ← Nat.mul_assoc]; omega

structure Ys (X Y D s : Nat) : Prop where
  e1 : X = Y + 1
  e2 : (Y : Int) < 1000000000000000000
  e3 : D * 2 ^ s = Y

theorem Bit_low (bx A m : Nat) (b : Int) (w : World) (hx : BigAt w bx (A : Int)) (hm : A < pw m) (hm' : m ≤ 100000000) (hb : ((A % 2 : Nat) : Int) = b) :
    Calls Tryz.prog 32 #[.pointer (some ⟨bx, 0, none⟩), .int .i64 0] w fun e w' => e = .returned (.int .u64 b) ∧ ∃ q, w' = w.drewN q := by
  have h := Bit_nat bx A 0 m w hx hm hm' (by omega)
  rw [Nat.pow_zero, Nat.div_one, hb] at h
  exact h

set_option maxHeartbeats 2000000 in
theorem Probably_prime (bx X : Nat) (w : World) (hx : BigAt w bx (X : Int)) (hp : Fp X) (h1 : 37 < X) (h2 : (X : Int) ≤ 1000000000000000000) :
    Calls Tryz.prog 19 #[.pointer (some ⟨bx, 0, none⟩), .int .i64 20] w fun e w' => e = .returned (.bool true) ∧ Below w.heap.size w w' := by
  have HP : Hid (Fp X) := hp
  have LX : Hid ((X : Int).natAbs < pw 2) := lt_pw2 (by omega) (by omega)
  have HX : Hid (BigAt w bx (X : Int)) := hx
  have L1 : Hid ((1 : Int).natAbs < pw 2) := lt_pw2 (by omega) (by omega)
  clear hx hp
  go_enter Tryz.func19, Tryz.ntmps19
  go_wp2_with fail
  refine (Sign_any bx X _ HX.out).mono ?_
  rw [sign_pos (show (0 : Int) < X by omega)]
  rintro e w' ⟨rfl, rfl⟩
  go_wp2_with fail
  refine (NewInt_any 1 w' (by omega) (by omega)).mono ?_
  rintro e w1 ⟨b1, rfl, p1, i1, k1⟩
  have K1 : Hid (Below w'.heap.size w' w1) := k1
  have X1 : Hid (BigAt w1 bx (X : Int)) := HX.out.below k1 (Nat.le_refl _)
  have I1 : Hid (BigAt w1 b1 1) := i1
  have z1 := k1.size
  clear i1 k1 p1 HX
  go_wp2_with fail
  refine (Cmp_any bx b1 X 1 2 2 w1 X1.out I1.out LX.out L1.out (by omega) (by omega)).mono ?_
  rw [cmpZ_gt (show (1 : Int) < X by omega)]
  rintro e w2 ⟨rfl, q2, rfl⟩
  obtain ⟨w2, hw2⟩ : ∃ w2, w2 = w1.drewN q2 := ⟨_, rfl⟩
  rw [← hw2]
  have K2 : Hid (Below w'.heap.size w' w2) := by rw [hw2]; exact below_drewN' K1.out
  have X2 : Hid (BigAt w2 bx (X : Int)) := by rw [hw2]; exact X1.out.below (below_drewN' (Below.refl _ _)) (Nat.le_refl _)
  have z2 : w'.heap.size ≤ w2.heap.size := K2.out.size
  clear hw2 K1 X1 I1 z1
  have HPB : Hid (PB (w2.alloc (.cells #[.int .i64 2, .int .i64 3, .int .i64 5, .int .i64 7, .int .i64 11, .int .i64 13, .int .i64 17, .int .i64 19, .int .i64 23, .int .i64 29, .int .i64 31, .int .i64 37] 2)) bx w2.heap.size X) := by
    refine ⟨X2.out.below (Below.alloc_self _ _) (Nat.le_refl _), by simp, fun j hj => ?_⟩
    rw [cell_new_b _ _ _ _ _ rfl]
    have h12 : j = 0 ∨ j = 1 ∨ j = 2 ∨ j = 3 ∨ j = 4 ∨ j = 5 ∨ j = 6 ∨ j = 7 ∨ j = 8 ∨ j = 9 ∨ j = 10 ∨ j = 11 := by omega
    rcases h12 with rfl | rfl | rfl | rfl | rfl | rfl | rfl | rfl | rfl | rfl | rfl | rfl <;> rfl
  have K3 : Hid (Below w'.heap.size w' (w2.alloc (.cells #[.int .i64 2, .int .i64 3, .int .i64 5, .int .i64 7, .int .i64 11, .int .i64 13, .int .i64 17, .int .i64 19, .int .i64 23, .int .i64 29, .int .i64 31, .int .i64 37] 2))) := K2.out.alloc z2 _
  clear X2 K2
  go_wp2
  go_loopw [29] (fun iv wx => ∃ i : Nat, i ≤ 12 ∧ iv = .int .i64 i ∧ Hid (PB wx bx w2.heap.size X ∧ Below w'.heap.size w' wx)) (fun iv _ => 12 - (intOf iv).toNat)
  case atStart => exact ⟨0, by omega, rfl, HPB.out, K3.out⟩
  case round =>
    obtain ⟨i, hi, rfl, HR⟩ := hrel
    have zr := HR.out.2.size
    by_cases hlt : i < 12
    · have hc := HR.out.1.bases i hlt
      obtain ⟨hp1, hp2⟩ := bs_at i hlt
      obtain ⟨p, hp⟩ : ∃ p, p = bs.getD i 0 := ⟨_, rfl⟩
      rw [← hp] at hc hp1 hp2
      clear hp
      obtain ⟨P, rfl⟩ : ∃ P : Nat, p = P := ⟨p.toNat, by omega⟩
      have LP : Hid ((P : Int).natAbs < pw 2) := lt_pw2 (by omega) (by omega)
      have XR : Hid (PB wr bx w2.heap.size X) := HR.out.1
      have KR : Hid (Below w'.heap.size w' wr) := HR.out.2
      have hmod : 0 < X % P := Nat.pos_of_ne_zero (pr_mod HP.out.1 (by omega) (by omega))
      have HMod : Hid (0 < X % P) := hmod
      clear hmod HR
      go_wp2_with fail
      refine (NewInt_any P wr (by omega) (by omega)).mono ?_
      rintro e w4 ⟨b4, rfl, p4, i4, k4⟩
      have X4 : Hid (PB w4 bx w2.heap.size X) := XR.out.under k4
      have I4 : Hid (BigAt w4 b4 (P : Int)) := i4
      have K4 : Hid (Below w'.heap.size w' w4) := KR.out.trans (k4.mono zr)
      have z4 := k4.size
      clear i4 k4 p4 XR KR hc
      go_wp2_with fail
      refine (Cmp_any bx b4 X P 2 2 w4 X4.out.x I4.out LX.out LP.out (by omega) (by omega)).mono ?_
      rw [cmpZ_gt (show (P : Int) < X by omega)]
      rintro e w5 ⟨rfl, q5, rfl⟩
      obtain ⟨w5, hw5⟩ : ∃ w5, w5 = w4.drewN q5 := ⟨_, rfl⟩
      rw [← hw5]
      have D5 : Below w4.heap.size w4 w5 := by rw [hw5]; exact below_drewN' (Below.refl _ _)
      have X5 : Hid (PB w5 bx w2.heap.size X) := X4.out.under D5
      have K5 : Hid (Below w'.heap.size w' w5) := K4.out.trans (D5.mono (by omega))
      have z5 := D5.size
      clear hw5 D5 X4 I4 K4
      go_wp2_with fail
      refine (NewInt_any P _ (by omega) (by omega)).mono ?_
      rintro e w6 ⟨b6, rfl, p6, i6, k6⟩
      have S6 : Hid (Slot w6 w5.heap.size) := (slot_in w5).below k6 (Nat.le_refl _)
      have k6' : Below w5.heap.size w5 w6 := (Below.alloc_self w5 _).trans (k6.mono (by simp))
      have X6 : Hid (PB w6 bx w2.heap.size X) := X5.out.under k6'
      have I6 : Hid (BigAt w6 b6 (P : Int)) := i6
      have K6 : Hid (Below w'.heap.size w' w6) := K5.out.trans (k6'.mono (by omega))
      have z6 := k6.size
      simp at z6
      have KK6 : Hid (Below w5.heap.size w5 w6) := k6'
      clear i6 k6 k6' p6
      go_wp2_with fail
      refine (Mod_any w5.heap.size bx b6 X P 2 2 w6 S6.out X6.out.x I6.out (by omega) LX.out LP.out (by omega) (by omega)).mono ?_
      rintro e w7 ⟨rfl, i7, u7⟩
      have hm7 : (X : Int) % (P : Int) = ((X % P : Nat) : Int) := by simp
      rw [hm7] at i7
      have I7 : Hid (BigAt w7 w5.heap.size ((X % P : Nat) : Int)) := i7
      have KK7 : Hid (Below w5.heap.size w5 w7) := KK6.out.trans (u7.below (by omega) (Nat.le_refl _))
      have X7 : Hid (PB w7 bx w2.heap.size X) := X5.out.under KK7.out
      have K7 : Hid (Below w'.heap.size w' w7) := K5.out.trans (KK7.out.mono (by omega))
      clear i7 u7 hm7 S6 X6 I6 K6 KK6 KK7 K5 X5
      go_wp2_with fail
      refine (Sign_any w5.heap.size _ w7 I7.out).mono ?_
      rw [sign_pos (show (0 : Int) < ((X % P : Nat) : Int) by have := HMod.out; omega)]
      rintro e w8 ⟨rfl, rfl⟩
      go_wp2
      go_roundw
      case rel => exact ⟨i + 1, by omega, by go_num, X7.out, K7.out⟩
      case measure => simp [intOf]; omega
    · obtain rfl : i = 12 := by omega
      have XR : Hid (PB wr bx w2.heap.size X) := HR.out.1
      have KR : Hid (Below w'.heap.size w' wr) := HR.out.2
      clear HR HPB K3
      obtain ⟨wa, hwa⟩ : ∃ wa, wa = wr := ⟨_, rfl⟩
      subst hwa
      have zA := KR.out.size
      go_wp2_with fail
      rename_i Qa Kd Qb Kc ac Kb ab Ka aa
      clear ac Kc Qb Kd hi hlt
      refine (NewInt_any 1 wa (by omega) (by omega)).mono ?_
      rintro e w3 ⟨bo, rfl, po, io, ko⟩
      have XO : Hid (PB w3 bx w2.heap.size X) := XR.out.under ko
      have IO : Hid (BigAt w3 bo 1) := io
      have KO : Hid (Below w'.heap.size w' w3) := KR.out.trans (ko.mono zA)
      have zO := ko.size
      clear io ko po XR KR
      go_wp2_with fail
      refine (Sub_any w3.heap.size bx bo X 1 2 2 _ (slot_in w3) (XO.out.x.below (Below.alloc_self _ _) (Nat.le_refl _)) (IO.out.below (Below.alloc_self _ _) (Nat.le_refl _)) LX.out L1.out (by omega) (by omega)).mono ?_
      rintro e w4 ⟨rfl, i4, u4'⟩
      have k4 : Below w3.heap.size w3 w4 := (Below.alloc_self w3 _).trans (u4'.below (by simp) (Nat.le_refl _))
      have X4 : Hid (PB w4 bx w2.heap.size X) := XO.out.under k4
      have P4 : Hid (PL w4 bo w3.heap.size X) := ⟨IO.out.below k4 (Nat.le_refl _), i4⟩
      have K4 : Hid (Below w'.heap.size w' w4) := KO.out.trans (k4.mono (by omega))
      have z4 := k4.size
      have LL : Hid (((X : Int) - 1).natAbs < pw 2) := lt_pw2 (by omega) (by omega)
      clear i4 u4' k4 XO IO KO
      go_wp2_with fail
      refine (Set_any w4.heap.size w3.heap.size ((X : Int) - 1) 2 _ (slot_in w4) (P4.out.less.below (Below.alloc_self _ _) (Nat.le_refl _)) LL.out (by omega)).mono ?_
      rintro e w5 ⟨rfl, i5, u5'⟩
      have k5 : Below w4.heap.size w4 w5 := (Below.alloc_self w4 _).trans (u5'.below (by simp) (Nat.le_refl _))
      have X5 : Hid (PB w5 bx w2.heap.size X) := X4.out.under k5
      have P5 : Hid (PL w5 bo w3.heap.size X) := P4.out.under k5
      have K5 : Hid (Below w'.heap.size w' w5) := K4.out.trans (k5.mono (by omega))
      have z5 := k5.size
      obtain ⟨Y, hY⟩ : ∃ Y : Nat, X = Y + 1 := ⟨X - 1, by omega⟩
      have HY : Hid (X = Y + 1) := hY
      have I5 : Hid (BigAt w5 w4.heap.size (Y : Int)) := by
        have e : (X : Int) - 1 = (Y : Int) := by omega
        rw [e] at i5; exact i5
      have hYl : (Y : Int) < 1000000000000000000 := by omega
      have hY1 : 36 < Y := by omega
      have HYL : Hid ((Y : Int) < 1000000000000000000) := hYl
      clear i5 u5' k5 X4 P4 K4 hY hYl h2
      go_wp2
      go_loopw [10, 11] (fun dv sv wx => ∃ (bd D s : Nat), dv = .pointer (some ⟨bd, 0, none⟩) ∧ sv = .int .i64 s ∧ s ≤ 60 ∧ 1 ≤ D ∧ D ≤ Y ∧ Hid (D * 2 ^ s = Y ∧ BigAt wx bd (D : Int) ∧ PB wx bx w2.heap.size X ∧ PL wx bo w3.heap.size X ∧ Below w'.heap.size w' wx)) (fun _ sv _ => 61 - (intOf sv).toNat)
      case atStart => exact ⟨w4.heap.size, Y, 0, rfl, rfl, by omega, by omega, Nat.le_refl _, by simp, I5.out, X5.out, P5.out, K5.out⟩
      case round =>
        obtain ⟨bd, D, s, rfl, rfl, hs, hD1, hDY, HR⟩ := hrel
        obtain ⟨hE, iD, xR, pR, kR⟩ := HR.out
        have HE : Hid (D * 2 ^ s = Y) := hE
        have ID : Hid (BigAt wr bd (D : Int)) := iD
        have XR : Hid (PB wr bx w2.heap.size X) := xR
        have PR' : Hid (PL wr bo w3.heap.size X) := pR
        have KR : Hid (Below w'.heap.size w' wr) := kR
        have LD : Hid (D < pw 2) := by have := HYL.out; show D < pw 2; rw [pw_two]; omega
        have zR := kR.size
        clear hE iD xR pR kR HR
        rcases Nat.mod_two_eq_zero_or_one D with hb | hb
        · have HB : Hid (((D % 2 : Nat) : Int) = 0) := by show _ = _; rw [hb]; rfl
          have hs2 : decide ((s : Int) < 1048576) = true := decide_eq_true (by omega)
          have HE2 : Hid (D / 2 * 2 ^ (s + 1) = Y) := by
            show _ = _
            rw [← HE.out, Nat.pow_succ, Nat.mul_comm (2 ^ s) 2, ← Nat.mul_assoc, Nat.div_mul_cancel (Nat.dvd_of_mod_eq_zero hb)]
          have hD2 : 1 ≤ D / 2 := by omega
          have hD3 : D / 2 ≤ Y := by omega
          have hs3 : s + 1 ≤ 60 := by
            rcases Nat.lt_or_ge s 60 with h | h
            · omega
            · exfalso
              have e1 := HE2.out
              have e0 := HYL.out
              have e2 : 2 ^ 61 ≤ 2 ^ (s + 1) := Nat.pow_le_pow_right (by decide) (by omega)
              have e3 : 1 * 2 ^ (s + 1) ≤ D / 2 * 2 ^ (s + 1) := Nat.mul_le_mul_right _ hD2
              have e4 : (2 : Nat) ^ 61 = 2305843009213693952 := by decide
              omega
          clear hb HE
          go_wp2_with fail
          refine (Bit_low bd D 2 0 wr ID.out LD.out (by omega) HB.out).mono ?_
          rintro e w6 ⟨rfl, q6, rfl⟩
          obtain ⟨w6, hw6⟩ : ∃ w6, w6 = wr.drewN q6 := ⟨_, rfl⟩
          rw [← hw6]
          have D6 : Below wr.heap.size wr w6 := by rw [hw6]; exact below_drewN' (Below.refl _ _)
          have X6 : Hid (PB w6 bx w2.heap.size X) := XR.out.under D6
          have P6 : Hid (PL w6 bo w3.heap.size X) := PR'.out.under D6
          have I6 : Hid (BigAt w6 bd (D : Int)) := ID.out.below D6 (Nat.le_refl _)
          have K6 : Hid (Below w'.heap.size w' w6) := KR.out.trans (D6.mono (by omega))
          have z6 := D6.size
          clear hw6 D6 XR PR' ID KR
          go_wp2_with fail
          refine (Rsh_nat w6.heap.size bd D 1 2 _ (slot_in w6) (I6.out.below (Below.alloc_self _ _) (Nat.le_refl _)) LD.out (by omega) (by omega)).mono ?_
          rw [Nat.pow_one]
          rintro e w7 ⟨rfl, i7, u7⟩
          have k7 : Below w6.heap.size w6 w7 := (Below.alloc_self w6 _).trans (u7.below (by simp) (Nat.le_refl _))
          have X7 : Hid (PB w7 bx w2.heap.size X) := X6.out.under k7
          have P7 : Hid (PL w7 bo w3.heap.size X) := P6.out.under k7
          have I7 : Hid (BigAt w7 w6.heap.size ((D / 2 : Nat) : Int)) := i7
          have K7 : Hid (Below w'.heap.size w' w7) := K6.out.trans (k7.mono (by omega))
          clear i7 u7 k7 X6 P6 I6 K6
          go_wp2
          go_roundw
          case rel => exact ⟨w6.heap.size, D / 2, s + 1, rfl, by go_num, hs3, hD2, hD3, HE2.out, I7.out, X7.out, P7.out, K7.out⟩
          case measure => simp [intOf]; omega
        · have HB : Hid (((D % 2 : Nat) : Int) = 1) := by show _ = _; rw [hb]; rfl
          have HOdd : Hid (D % 2 = 1) := hb
          clear hb
          go_wp2_with fail
          refine (Bit_low bd D 2 1 wr ID.out LD.out (by omega) HB.out).mono ?_
          rintro e w6 ⟨rfl, q6, rfl⟩
          obtain ⟨w6, hw6⟩ : ∃ w6, w6 = wr.drewN q6 := ⟨_, rfl⟩
          rw [← hw6]
          have D6 : Below wr.heap.size wr w6 := by rw [hw6]; exact below_drewN' (Below.refl _ _)
          have X6 : Hid (PB w6 bx w2.heap.size X) := XR.out.under D6
          have P6 : Hid (PL w6 bo w3.heap.size X) := PR'.out.under D6
          have I6 : Hid (BigAt w6 bd (D : Int)) := ID.out.below D6 (Nat.le_refl _)
          have K6 : Hid (Below w'.heap.size w' w6) := KR.out.trans (D6.mono (by omega))
          have z6 := D6.size
          clear hw6 D6 XR PR' ID KR
          obtain ⟨wb, hwb⟩ : ∃ wb, wb = wr := ⟨_, rfl⟩
          subst hwb
          have z0 : w'.heap.size ≤ w6.heap.size := K6.out.size
          go_wp2
          rename_i Kg Qd Kf af Ke ae
          have YS : Ys X Y D s := ⟨HY.out, HYL.out, HE.out⟩
          clear af Kf Qd Kg X5 P5 K5 I5 HB HY HYL HE HOdd
          go_loopw [68] (fun iv wx => ∃ i : Nat, i ≤ 12 ∧ iv = .int .i64 i ∧ Hid (PB wx bx w2.heap.size X ∧ PL wx bo w3.heap.size X ∧ BigAt wx bd (D : Int) ∧ Below w'.heap.size w' wx)) (fun iv _ => 12 - (intOf iv).toNat)
          case atStart => exact ⟨0, by omega, rfl, X6.out, P6.out, I6.out, K6.out⟩
          case round =>
            obtain ⟨wc, hwc⟩ : ∃ wc, wc = wr := ⟨_, rfl⟩
            subst hwc
            obtain ⟨i, hi2, rfl, HR⟩ := hrel
            have zr2 := HR.out.2.2.2.size
            have XR : Hid (PB wc bx w2.heap.size X) := HR.out.1
            have PR2 : Hid (PL wc bo w3.heap.size X) := HR.out.2.1
            have IR : Hid (BigAt wc bd (D : Int)) := HR.out.2.2.1
            have KR : Hid (Below w'.heap.size w' wc) := HR.out.2.2.2
            clear HR
            by_cases hlt2 : i < 12
            · have hc := XR.out.bases i hlt2
              obtain ⟨hp1, hp2⟩ := bs_at i hlt2
              obtain ⟨p, hp⟩ : ∃ p, p = bs.getD i 0 := ⟨_, rfl⟩
              rw [← hp] at hc hp1 hp2
              clear hp
              obtain ⟨P, rfl⟩ : ∃ P : Nat, p = P := ⟨p.toNat, by omega⟩
              have LP : Hid ((P : Int).natAbs < pw 2) := lt_pw2 (by omega) (by omega)
              have HMil : Hid (P ^ D % X = 1 ∨ ∃ j, j < s ∧ P ^ (D * 2 ^ j) % X = X - 1) := by
                refine miller HP.out.1 s ?_
                rw [YS.e3, show Y = X - 1 by have := YS.e1; omega]
                exact HP.out.2 P (by omega) (by omega)
              obtain ⟨Y0, hY0⟩ : ∃ Y0, P ^ D % X = Y0 := ⟨_, rfl⟩
              have HY0 : Hid (P ^ D % X = Y0) := hY0
              have hY0l : Y0 < X := by rw [← hY0]; exact Nat.mod_lt _ (by omega)
              have LY0 : Hid ((Y0 : Int).natAbs < pw 2) := lt_pw2 (by omega) (by have := YS.e2; have := YS.e1; omega)
              clear hY0
              go_wp2_with fail
              refine (NewInt_any P _ (by omega) (by omega)).mono ?_
              rintro e w8 ⟨b8, rfl, p8, i8, k8⟩
              have S8 : Hid (Slot w8 wc.heap.size) := (slot_in wc).below k8 (Nat.le_refl _)
              have k8' : Below wc.heap.size wc w8 := (Below.alloc_self wc _).trans (k8.mono (by simp))
              have X8 : Hid (PB w8 bx w2.heap.size X) := XR.out.under k8'
              have D8 : Hid (BigAt w8 bd (D : Int)) := IR.out.below k8' (Nat.le_refl _)
              have I8 : Hid (BigAt w8 b8 (P : Int)) := i8
              have z8 := k8.size
              simp at z8
              have KK8 : Hid (Below wc.heap.size wc w8) := k8'
              clear i8 k8 k8' p8 hc
              go_wp2_with fail
              refine (Exp_mod wc.heap.size b8 bd bx P D X 2 2 2 w8 S8.out I8.out D8.out X8.out.x (by omega) LP.out LD.out (by have := LX.out; simpa using this) (by omega) (by omega) (by omega)).mono ?_
              rintro e w9 ⟨rfl, i9, u9⟩
              have hm9 : (P : Int) ^ D % (X : Int) = (Y0 : Int) := by rw [← HY0.out]; simp
              rw [hm9] at i9
              have I9 : Hid (BigAt w9 wc.heap.size (Y0 : Int)) := i9
              have KK9 : Hid (Below wc.heap.size wc w9) := KK8.out.trans (u9.below (by omega) (Nat.le_refl _))
              have X9 : Hid (PB w9 bx w2.heap.size X) := XR.out.under KK9.out
              have P9 : Hid (PL w9 bo w3.heap.size X) := PR2.out.under KK9.out
              have D9 : Hid (BigAt w9 bd (D : Int)) := IR.out.below KK9.out (Nat.le_refl _)
              have K9 : Hid (Below w'.heap.size w' w9) := KR.out.trans (KK9.out.mono zr2)
              have z9 := KK9.out.size
              clear i9 u9 hm9 S8 X8 D8 I8 KK8 KK9 XR PR2 IR KR
              by_cases hy1 : Y0 = 1
              · go_wp2_with fail
                refine (Cmp_val wc.heap.size bo Y0 1 0 2 2 w9 I9.out P9.out.one LY0.out L1.out (by omega) (by omega) (by unfold cmpZ; rw [if_neg (by omega), if_neg (by omega)])).mono ?_
                rintro e w10 ⟨rfl, k10⟩
                have X10 : Hid (PB w10 bx w2.heap.size X) := X9.out.under k10
                have P10 : Hid (PL w10 bo w3.heap.size X) := P9.out.under k10
                have D10 : Hid (BigAt w10 bd (D : Int)) := D9.out.below k10 (Nat.le_refl _)
                have K10 : Hid (Below w'.heap.size w' w10) := K9.out.trans (k10.mono (by omega))
                clear k10 X9 P9 D9 K9 I9
                go_wp2
                go_roundw
                case rel => exact ⟨i + 1, by omega, by go_num, X10.out, P10.out, D10.out, K10.out⟩
                case measure => simp [intOf]; omega
              obtain ⟨c1, hc1⟩ : ∃ c1, cmpZ (Y0 : Int) 1 = c1 := ⟨_, rfl⟩
              have hc1b : (c1 == 0) = false := by rw [← hc1, cmpZ_eq]; exact decide_eq_false (by omega)
              have hc1r : -1 ≤ c1 ∧ c1 ≤ 1 := by rw [← hc1]; exact cmpZ_bounds _ _
              have HC1 : Hid (cmpZ (Y0 : Int) 1 = c1) := hc1
              clear hc1
              go_wp2_with fail
              refine (Cmp_val wc.heap.size bo Y0 1 c1 2 2 w9 I9.out P9.out.one LY0.out L1.out (by omega) (by omega) HC1.out).mono ?_
              rintro e w10 ⟨rfl, k10⟩
              have X10 : Hid (PB w10 bx w2.heap.size X) := X9.out.under k10
              have P10 : Hid (PL w10 bo w3.heap.size X) := P9.out.under k10
              have D10 : Hid (BigAt w10 bd (D : Int)) := D9.out.below k10 (Nat.le_refl _)
              have I10 : Hid (BigAt w10 wc.heap.size (Y0 : Int)) := I9.out.below k10 (Nat.le_refl _)
              have K10 : Hid (Below w'.heap.size w' w10) := K9.out.trans (k10.mono (by omega))
              have z10 := k10.size
              clear k10 X9 P9 D9 K9 I9
              by_cases hyl : Y0 = X - 1
              · go_wp2_with fail
                refine (Cmp_val wc.heap.size w3.heap.size Y0 ((X : Int) - 1) 0 2 2 w10 I10.out P10.out.less LY0.out LL.out (by omega) (by omega) (by unfold cmpZ; rw [if_neg (by omega), if_neg (by omega)])).mono ?_
                rintro e w11 ⟨rfl, k11⟩
                have X11 : Hid (PB w11 bx w2.heap.size X) := X10.out.under k11
                have P11 : Hid (PL w11 bo w3.heap.size X) := P10.out.under k11
                have D11 : Hid (BigAt w11 bd (D : Int)) := D10.out.below k11 (Nat.le_refl _)
                have K11 : Hid (Below w'.heap.size w' w11) := K10.out.trans (k11.mono (by omega))
                clear k11 X10 P10 D10 K10 I10
                go_wp2
                go_roundw
                case rel => exact ⟨i + 1, by omega, by go_num, X11.out, P11.out, D11.out, K11.out⟩
                case measure => simp [intOf]; omega
              obtain ⟨c2, hc2⟩ : ∃ c2, cmpZ (Y0 : Int) ((X : Int) - 1) = c2 := ⟨_, rfl⟩
              have hc2b : (c2 == 0) = false := by rw [← hc2, cmpZ_eq]; exact decide_eq_false (by omega)
              have hc2r : -1 ≤ c2 ∧ c2 ≤ 1 := by rw [← hc2]; exact cmpZ_bounds _ _
              have HC2 : Hid (cmpZ (Y0 : Int) ((X : Int) - 1) = c2) := hc2
              clear hc2
              go_wp2_with fail
              refine (Cmp_val wc.heap.size w3.heap.size Y0 ((X : Int) - 1) c2 2 2 w10 I10.out P10.out.less LY0.out LL.out (by omega) (by omega) HC2.out).mono ?_
              rintro e w11 ⟨rfl, k11⟩
              have X11 : Hid (PB w11 bx w2.heap.size X) := X10.out.under k11
              have P11 : Hid (PL w11 bo w3.heap.size X) := P10.out.under k11
              have D11 : Hid (BigAt w11 bd (D : Int)) := D10.out.below k11 (Nat.le_refl _)
              have I11 : Hid (BigAt w11 wc.heap.size (Y0 : Int)) := I10.out.below k11 (Nat.le_refl _)
              have K11 : Hid (Below w'.heap.size w' w11) := K10.out.trans (k11.mono (by omega))
              have HNot : Hid (Y0 ≠ 1 ∧ Y0 ≠ X - 1) := ⟨hy1, hyl⟩
              clear k11 X10 P10 D10 K10 I10 hy1 hyl
              go_wp2
              go_loopw [14, 15, 16] (fun yv wv kv wx => ∃ (b k Z : Nat) (wh : Bool), yv = .pointer (some ⟨b, 0, none⟩) ∧ wv = .bool wh ∧ kv = .int .i64 k ∧ 1 ≤ k ∧ k ≤ 61 ∧ Z < X ∧ Hid (Z = P ^ (D * 2 ^ (k - 1)) % X ∧ BigAt wx b (Z : Int) ∧ (wh = false → ∀ j, j < k → P ^ (D * 2 ^ j) % X ≠ X - 1) ∧ PB wx bx w2.heap.size X ∧ PL wx bo w3.heap.size X ∧ BigAt wx bd (D : Int) ∧ Below w'.heap.size w' wx)) (fun _ _ kv _ => 62 - (intOf kv).toNat)
              case atStart =>
                refine ⟨wc.heap.size, 1, Y0, false, rfl, rfl, rfl, by omega, by omega, hY0l, ?_, I11.out, fun _ j hj => ?_, X11.out, P11.out, D11.out, K11.out⟩
                · rw [← HY0.out]; simp
                · obtain rfl : j = 0 := by omega
                  rw [Nat.pow_zero, Nat.mul_one, HY0.out]; exact HNot.out.2
              case round =>
                obtain ⟨b, k, Z, wh, rfl, rfl, rfl, hk1, hk2, hZ, HRk⟩ := hrel
                obtain ⟨eZ, iZ, nZ, xZ, pZ, dZ, kZ⟩ := HRk.out
                have EZ : Hid (Z = P ^ (D * 2 ^ (k - 1)) % X) := eZ
                have IZ : Hid (BigAt wr b (Z : Int)) := iZ
                have NZ : Hid (wh = false → ∀ j, j < k → P ^ (D * 2 ^ j) % X ≠ X - 1) := nZ
                have XZ : Hid (PB wr bx w2.heap.size X) := xZ
                have PZ : Hid (PL wr bo w3.heap.size X) := pZ
                have DZ : Hid (BigAt wr bd (D : Int)) := dZ
                have KZ : Hid (Below w'.heap.size w' wr) := kZ
                have zZ := kZ.size
                have LZ : Hid ((Z : Int).natAbs < pw 2) := lt_pw2 (by omega) (by have := YS.e2; have := YS.e1; omega)
                clear eZ iZ nZ xZ pZ dZ kZ HRk
                cases wh
                · by_cases hks : k < s
                  · go_wp2_with fail
                    have S1 : Hid (Slot ((wr.alloc (.cells #[.bool false, .slice none 0 0] 51)).alloc (.cells #[.bool false, .slice none 0 0] 51)) wr.heap.size) := (slot_in wr).below (Below.alloc_self _ _) (Nat.le_refl _)
                    have S2 : Hid (Slot ((wr.alloc (.cells #[.bool false, .slice none 0 0] 51)).alloc (.cells #[.bool false, .slice none 0 0] 51)) (wr.heap.size + 1)) := by
                      have h := slot_in (wr.alloc (.cells #[.bool false, .slice none 0 0] 51))
                      rw [World.size_alloc] at h; exact h
                    have kA : Below wr.heap.size wr ((wr.alloc (.cells #[.bool false, .slice none 0 0] 51)).alloc (.cells #[.bool false, .slice none 0 0] 51)) := (Below.alloc_self wr _).trans ((Below.alloc_self _ _).mono (by simp))
                    have KA : Hid (Below wr.heap.size wr ((wr.alloc (.cells #[.bool false, .slice none 0 0] 51)).alloc (.cells #[.bool false, .slice none 0 0] 51))) := kA
                    clear kA
                    refine (Mul_any (wr.heap.size + 1) b b Z Z 2 2 _ S2.out (IZ.out.below KA.out (Nat.le_refl _)) (IZ.out.below KA.out (Nat.le_refl _)) LZ.out LZ.out (by omega) (by omega)).mono ?_
                    rintro e v1 ⟨rfl, j1, u1⟩
                    have J1 : Hid (BigAt v1 (wr.heap.size + 1) ((Z : Int) * Z)) := j1
                    have SS1 : Hid (Slot v1 wr.heap.size) := S1.out.upd u1 (by omega)
                    have KK1 : Hid (Below wr.heap.size wr v1) := KA.out.trans (u1.below (by simp; omega) (by omega))
                    have X1' : Hid (PB v1 bx w2.heap.size X) := XZ.out.under KK1.out
                    have zz1 : wr.heap.size + 2 ≤ v1.heap.size := by have := u1.size; simp at this; omega
                    clear j1 u1 S1 S2 KA
                    go_wp2_with fail
                    refine (Mod_any wr.heap.size (wr.heap.size + 1) bx ((Z : Int) * Z) X 4 2 v1 SS1.out J1.out X1'.out.x (by omega) (mul_lt_pw LZ.out LZ.out) LX.out (by omega) (by omega)).mono ?_
                    rintro e v2 ⟨rfl, j2, u2⟩
                    obtain ⟨Z2, hZ2⟩ : ∃ Z2, P ^ (D * 2 ^ k) % X = Z2 := ⟨_, rfl⟩
                    have eZ2 : (Z : Int) * Z % (X : Int) = (Z2 : Int) := by
                      rw [← hZ2, ← miller_step P D k X hk1, ← EZ.out]; simp
                    rw [eZ2] at j2
                    have HZ2 : Hid (P ^ (D * 2 ^ k) % X = Z2) := hZ2
                    have hZ2l : Z2 < X := by rw [← hZ2]; exact Nat.mod_lt _ (by omega)
                    have LZ2 : Hid ((Z2 : Int).natAbs < pw 2) := lt_pw2 (by omega) (by have := YS.e2; have := YS.e1; omega)
                    have J2 : Hid (BigAt v2 wr.heap.size (Z2 : Int)) := j2
                    have KK2 : Hid (Below wr.heap.size wr v2) := KK1.out.trans (u2.below (by omega) (Nat.le_refl _))
                    have X2' : Hid (PB v2 bx w2.heap.size X) := XZ.out.under KK2.out
                    have P2' : Hid (PL v2 bo w3.heap.size X) := PZ.out.under KK2.out
                    have D2' : Hid (BigAt v2 bd (D : Int)) := DZ.out.below KK2.out (Nat.le_refl _)
                    have K2' : Hid (Below w'.heap.size w' v2) := KZ.out.trans (KK2.out.mono zZ)
                    have zz2 := KK2.out.size
                    clear j2 u2 eZ2 hZ2 J1 SS1 KK1 X1'
                    obtain ⟨c3, hc3⟩ : ∃ c3, cmpZ (Z2 : Int) ((X : Int) - 1) = c3 := ⟨_, rfl⟩
                    have HC3 : Hid (cmpZ (Z2 : Int) ((X : Int) - 1) = c3) := hc3
                    have hc3b : (c3 == 0) = decide (Z2 = X - 1) := by rw [← hc3, cmpZ_eq]; rw [Bool.eq_iff_iff, decide_eq_true_iff, decide_eq_true_iff]; omega
                    have HC3b : Hid ((c3 == 0) = decide (Z2 = X - 1)) := hc3b
                    clear hc3 hc3b
                    go_wp2_with fail
                    refine (Cmp_val wr.heap.size w3.heap.size Z2 ((X : Int) - 1) c3 2 2 v2 J2.out P2'.out.less LZ2.out LL.out (by omega) (by omega) HC3.out).mono ?_
                    rintro e v3 ⟨rfl, k3⟩
                    have X3' : Hid (PB v3 bx w2.heap.size X) := X2'.out.under k3
                    have P3' : Hid (PL v3 bo w3.heap.size X) := P2'.out.under k3
                    have D3' : Hid (BigAt v3 bd (D : Int)) := D2'.out.below k3 (Nat.le_refl _)
                    have J3 : Hid (BigAt v3 wr.heap.size (Z2 : Int)) := J2.out.below k3 (Nat.le_refl _)
                    have K3' : Hid (Below w'.heap.size w' v3) := K2'.out.trans (k3.mono (by omega))
                    clear k3 X2' P2' D2' J2 K2'
                    go_wp2
                    go_roundw
                    case rel =>
                      refine ⟨wr.heap.size, k + 1, Z2, c3 == 0, rfl, rfl, by go_num, by omega, by omega, hZ2l, ?_, J3.out, fun hf j hj => ?_, X3'.out, P3'.out, D3'.out, K3'.out⟩
                      · rw [Nat.add_sub_cancel]; exact HZ2.out.symm
                      · by_cases hjk : j = k
                        · subst hjk
                          rw [HC3b.out] at hf
                          rw [HZ2.out]; exact of_decide_eq_false hf
                        · exact NZ.out (by simp) j (by omega)
                    case measure => simp [intOf]; omega
                  · exfalso
                    rcases HMil.out with h | ⟨j, hj, h⟩
                    · rw [HY0.out] at h; exact HNot.out.1 h
                    · exact NZ.out rfl j (by omega) h
                · by_cases hks : k < s
                  all_goals
                    go_wp2
                    go_roundw
                    case rel => exact ⟨i + 1, by omega, by go_num, XZ.out, PZ.out, DZ.out, KZ.out⟩
                    case measure => simp [intOf]; omega
            · obtain rfl : i = 12 := by omega
              go_wp2
              go_ret
              exact ⟨rfl, KR.out⟩

end Go.Proofs.YtknmfohipdjlpabGreatDoor
