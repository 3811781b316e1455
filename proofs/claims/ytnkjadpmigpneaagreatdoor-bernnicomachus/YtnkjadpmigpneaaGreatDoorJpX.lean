import Derived.Test.YtnkjadpmigpneaaGreatDoorJpW
import Derived.Test.YtnkjadpmigpneaaGreatDoorJpV
import Derived.Test.YtnkjadpmigpneaaGreatDoorJpE
import Derived.Test.YtnkjadpmigpneaaGreatDoorBrJ
import Derived.Test.YtnkjadpmigpneaaGreatDoorJpU
section
set_option linter.unusedSimpArgs false
set_option linter.unusedVariables false
set_option maxRecDepth 100000
namespace Go.Proofs.YtnkjadpmigpneaaGreatDoor
open Go.RowKit
theorem pk_one : ∀ n : Nat, 2 * BN.pk 1 n = n * (n + 1)
  | 0 => rfl
  | n + 1 => by
    have h := pk_one n
    show 2 * (BN.pk 1 n + (n + 1) ^ 1) = (n + 1) * (n + 1 + 1)
    rw [Nat.mul_add, h]
    grind
theorem nicomachus : ∀ n : Nat, BN.pk 1 n * BN.pk 1 n = BN.pk 3 n
  | 0 => rfl
  | n + 1 => by
    have h := nicomachus n
    have h1 := pk_one n
    show (BN.pk 1 n + (n + 1) ^ 1) * (BN.pk 1 n + (n + 1) ^ 1) = BN.pk 3 n + (n + 1) ^ 3
    rw [← h]
    generalize BN.pk 1 n = a at *
    grind
theorem pk_big {k n : Nat} (hk : k ≤ 60) (hn : n ≤ 1000000000000000000) : BN.pk k n < pw 128 := by
  have h1 := BN.pk_le k n
  have h2 : n * n ^ k ≤ 2 ^ 60 * (2 ^ 60) ^ 60 := Nat.mul_le_mul (by omega) (Nat.le_trans (Nat.pow_le_pow_left (show n ≤ 2 ^ 60 by omega) k) (Nat.pow_le_pow_right (by decide) hk))
  have h3 : 2 ^ 60 * (2 ^ 60) ^ 60 < pw 128 := by decide +kernel
  omega
structure N2 (w W : World) (b6 b8 : Nat) : Prop where
  f : Sv b6 0 0 W
  v : Sv b8 0 0 W
  ne : b6 ≠ b8
  l6 : w.heap.size ≤ b6
  l8 : w.heap.size ≤ b8
  k : Below w.heap.size w W
theorem N2.below {w W W' : World} {b6 b8 : Nat} (h : N2 w W b6 b8) (l : Below W.heap.size W W') : N2 w W' b6 b8 :=
  ⟨h.f.below l, h.v.below l, h.ne, h.l6, h.l8, h.k.trans (l.mono h.k.size)⟩
theorem N2.set6 {w W : World} {b6 b8 : Nat} (h : N2 w W b6 b8) : N2 w ((W.setCell ⟨b6, 0, none⟩ (.int .i64 0)).setCell ⟨b6, 1, none⟩ (.int .i64 0)) b6 b8 :=
  ⟨h.f.set 0 0, h.v.other _ _ h.ne, h.ne, h.l6, h.l8, (h.k.setCell h.l6 _).setCell h.l6 _⟩
theorem N2.set8 {w W : World} {b6 b8 : Nat} (h : N2 w W b6 b8) : N2 w ((W.setCell ⟨b8, 0, none⟩ (.int .i64 0)).setCell ⟨b8, 1, none⟩ (.int .i64 0)) b6 b8 :=
  ⟨h.f.other _ _ (Ne.symm h.ne), h.v.set 0 0, h.ne, h.l6, h.l8, (h.k.setCell h.l8 _).setCell h.l8 _⟩
def SumOk (w : World) : Prop := ∀ (k n : Nat) (W : World), Below w.heap.size w W → k ≤ 60 → n ≤ 1000000000000000000 → Calls Tryz.prog 20 #[.int .i64 (k : Int), .int .i64 (n : Int)] W fun e w' => e = .returned (.tuple #[.string ⟨(Lib.decDigits (BN.pk k n)).toArray⟩, .agg #[.int .i64 0, .int .i64 0]]) ∧ Below W.heap.size W w'
def Dn (S : ByteArray) (x : Nat) : Prop := ∀ W : World, Calls Tryz.prog 27 #[.string S] W fun e w' => ∃ b, e = .returned (.tuple #[.pointer (some ⟨b, 0, none⟩), .bool true]) ∧ W.heap.size ≤ b ∧ BigAt w' b (x : Int) ∧ Below W.heap.size W w'
theorem sum_text (k n : Nat) (hk : k ≤ 60) (hn : n ≤ 1000000000000000000) : ∃ S : ByteArray, S = ⟨(Lib.decDigits (BN.pk k n)).toArray⟩ ∧ Dn S (BN.pk k n) :=
  ⟨_, rfl, fun W => Digits_nat _ 128 W (pk_big hk hn) (by omega) (by omega)⟩
set_option maxHeartbeats 4000000 in
theorem nico_out (k n : Int) (w : World) (hn : n < 0 ∨ 1000000000000000000 ≤ n) (hBg : Calls Tryz.prog 8 #[] w fun e w' => e = .returned (.bool true) ∧ Below w.heap.size w w') :
    Calls Tryz.prog 5 #[.int .i64 k, .int .i64 n] w fun e w' => e = .returned (.bool true) ∧ Below w.heap.size w w' := by
  go_enter Tryz.func5, Tryz.ntmps5
  go_wp2_with fail
  refine hBg.mono ?_
  rintro e w1 ⟨rfl, k1⟩
  by_cases h0 : n < 0
  · have d0 : decide (n < 0) = true := decide_eq_true h0
    go_wp2
    go_ret
    exact ⟨rfl, k1⟩
  · have d0 : decide (n < 0) = false := decide_eq_false h0
    have d1 : decide (1000000000000000000 ≤ n) = true := decide_eq_true (by omega)
    go_wp2
    go_ret
    exact ⟨rfl, k1⟩
set_option maxHeartbeats 4000000 in
theorem nico_half (k : Int) (n : Nat) (w : World) (hn : n < 1000000000000000000) (hk : k < 0 ∨ 60 < k) (hBg : Calls Tryz.prog 8 #[] w fun e w' => e = .returned (.bool true) ∧ Below w.heap.size w w') (hSm : SumOk w) :
    Calls Tryz.prog 5 #[.int .i64 k, .int .i64 (n : Int)] w fun e w' => e = .returned (.bool true) ∧ Below w.heap.size w w' := by
  have HBg : Hid (Calls Tryz.prog 8 #[] w fun e w' => e = .returned (.bool true) ∧ Below w.heap.size w w') := hBg
  have HSm : Hid (SumOk w) := hSm
  clear hBg hSm
  obtain ⟨S1, hS1, hD1⟩ := sum_text 1 n (by omega) (by omega)
  obtain ⟨S3, hS3, hD3⟩ := sum_text 3 n (by omega) (by omega)
  have HT : Hid ((S1 = ⟨(Lib.decDigits (BN.pk 1 n)).toArray⟩ ∧ Dn S1 (BN.pk 1 n)) ∧ (S3 = ⟨(Lib.decDigits (BN.pk 3 n)).toArray⟩ ∧ Dn S3 (BN.pk 3 n))) := ⟨⟨hS1, hD1⟩, ⟨hS3, hD3⟩⟩
  clear hS1 hD1 hS3 hD3
  have d0 : decide ((n : Int) < 0) = false := decide_eq_false (by omega)
  have d1 : decide (1000000000000000000 ≤ (n : Int)) = false := decide_eq_false (by omega)
  go_enter Tryz.func5, Tryz.ntmps5
  go_wp2_with fail
  refine HBg.out.mono ?_
  rintro e w1 ⟨rfl, k1⟩
  have K1 : Hid (Below w.heap.size w w1) := k1
  clear k1 HBg
  go_wp2_with fail
  have hq := HSm.out 1 n w1 K1.out (by omega) (by omega)
  rw [← HT.out.1.1] at hq
  refine hq.mono ?_
  rintro e w2 ⟨rfl, k2⟩
  have K2 : Hid (Below w.heap.size w w2) := K1.out.trans (k2.mono K1.out.size)
  clear k2 K1 hq
  have z2 := K2.out.size
  have K3 : Hid (Sv w2.heap.size 0 0 (w2.alloc (.cells #[.int .i64 0, .int .i64 0] 23)) ∧ Below w.heap.size w (w2.alloc (.cells #[.int .i64 0, .int .i64 0] 23))) := ⟨Sv.new 0 0 w2, K2.out.alloc z2 _⟩
  clear K2
  go_wp2_with fail
  have hq := HSm.out 3 n _ K3.out.2 (by omega) (by omega)
  rw [← HT.out.2.1] at hq
  refine hq.mono ?_
  rintro e w3 ⟨rfl, k3⟩
  have K4 : Hid (Sv w2.heap.size 0 0 w3 ∧ Below w.heap.size w w3) := ⟨K3.out.1.below k3, K3.out.2.trans (k3.mono K3.out.2.size)⟩
  clear k3 K3 hq
  have z3 := K4.out.2.size
  have z4 := K4.out.1.lt
  have K5 : Hid (N2 w (w3.alloc (.cells #[.int .i64 0, .int .i64 0] 23)) w2.heap.size w3.heap.size) := ⟨K4.out.1.alloc _ _, Sv.new 0 0 w3, by omega, z2, z3, K4.out.2.alloc z3 _⟩
  clear K4
  obtain ⟨b6, hb6⟩ : ∃ b, b = w2.heap.size := ⟨_, rfl⟩
  obtain ⟨b8, hb8⟩ : ∃ b, b = w3.heap.size := ⟨_, rfl⟩
  go_wp2_with fail
  rw [← hb6, ← hb8]
  have K5' : Hid (N2 w (w3.alloc (.cells #[.int .i64 0, .int .i64 0] 23)) b6 b8) := by show N2 _ _ _ _; rw [hb6, hb8]; exact K5.out
  refine (HT.out.1.2 _).mono ?_
  rintro e w5 ⟨x1, rfl, hx1, i5, k5⟩
  have K6 : Hid (N2 w w5 b6 b8 ∧ BigAt w5 x1 ((BN.pk 1 n : Nat) : Int)) := ⟨K5'.out.below k5, i5⟩
  clear k5 i5 hx1 K5 K5' z2 z3 z4 hb6 hb8
  go_wp2_with fail
  refine (HT.out.2.2 _).mono ?_
  rintro e w6 ⟨x3, rfl, hx3, i6, k6⟩
  have K7 : Hid (N2 w w6 b6 b8 ∧ BigAt w6 x1 ((BN.pk 1 n : Nat) : Int) ∧ BigAt w6 x3 ((BN.pk 3 n : Nat) : Int)) := ⟨K6.out.1.below k6, K6.out.2.below k6 (Nat.le_refl _), i6⟩
  clear k6 i6 hx3 K6
  obtain ⟨u0, u1, u2, u3, u4⟩ := K7.out.1.f
  obtain ⟨v0, v1, v2, v3, v4⟩ := K7.out.1.v
  go_wp2_with fail
  have S0 : Hid (Slot (w6.alloc (.cells #[.bool false, .slice none 0 0] 37)) w6.heap.size) := slot_new _ _ _
  have zs := K7.out.1.k.size
  have K8 : Hid (N2 w (w6.alloc (.cells #[.bool false, .slice none 0 0] 37)) b6 b8 ∧ BigAt (w6.alloc (.cells #[.bool false, .slice none 0 0] 37)) x1 ((BN.pk 1 n : Nat) : Int) ∧ BigAt (w6.alloc (.cells #[.bool false, .slice none 0 0] 37)) x3 ((BN.pk 3 n : Nat) : Int)) := ⟨K7.out.1.below (Below.alloc_self _ _), K7.out.2.1.below (Below.alloc_self _ _) (Nat.le_refl _), K7.out.2.2.below (Below.alloc_self _ _) (Nat.le_refl _)⟩
  have HN : Hid (x3 ≠ w6.heap.size ∧ N2 w w6 b6 b8) := ⟨by have := K7.out.2.2.slot.lt; omega, K7.out.1⟩
  clear u0 u1 u2 u3 u4 v0 v1 v2 v3 v4 K7
  refine (Mul_any w6.heap.size x1 x1 _ _ 128 128 _ S0.out K8.out.2.1 K8.out.2.1 (by rw [Int.natAbs_natCast]; exact pk_big (by omega) (by omega)) (by rw [Int.natAbs_natCast]; exact pk_big (by omega) (by omega)) (by omega) (by omega)).mono ?_
  rintro e w7 ⟨rfl, i7, u7⟩
  have i7' : BigAt w7 w6.heap.size ((BN.pk 3 n : Nat) : Int) := by rw [← nicomachus, Int.natCast_mul]; exact i7
  have kz : Below w6.heap.size (w6.alloc (.cells #[.bool false, .slice none 0 0] 37)) w7 := u7.below (by simp) (Nat.le_refl _)
  have K9 : Hid (N2 w w7 b6 b8 ∧ BigAt w7 w6.heap.size ((BN.pk 3 n : Nat) : Int) ∧ BigAt w7 x3 ((BN.pk 3 n : Nat) : Int)) := ⟨HN.out.2.below ((Below.alloc_self _ _).trans kz), i7', K8.out.2.2.upd u7 S0.out HN.out.1⟩
  clear i7 i7' u7 kz K8 S0 HN zs
  go_wp2_with fail
  refine (Cmp_any w6.heap.size x3 _ _ 128 128 w7 K9.out.2.1 K9.out.2.2 (by rw [Int.natAbs_natCast]; exact pk_big (by omega) (by omega)) (by rw [Int.natAbs_natCast]; exact pk_big (by omega) (by omega)) (by omega) (by omega)).mono ?_
  rintro e w8 ⟨rfl, q8, rfl⟩
  have cz : cmpZ ((BN.pk 3 n : Nat) : Int) ((BN.pk 3 n : Nat) : Int) = 0 := by unfold cmpZ; simp
  rw [cz]
  have KA : Hid (N2 w (w7.drewN q8) b6 b8) := K9.out.1.below (below_drewN' (Below.refl _ _))
  clear K9 cz HT
  obtain ⟨w8, hw8⟩ : ∃ w8, w8 = w7.drewN q8 := ⟨_, rfl⟩
  rw [← hw8] at KA ⊢
  clear hw8
  by_cases h0 : k < 0
  · have d2 : decide (k < 0) = true := decide_eq_true h0
    go_wp2
    go_ret
    exact ⟨rfl, KA.out.k⟩
  · have d2 : decide (k < 0) = false := decide_eq_false h0
    have d3 : decide (60 < k) = true := decide_eq_true (by omega)
    go_wp2
    go_ret
    exact ⟨rfl, KA.out.k⟩
theorem sum_next (k n : Nat) : ((BN.pk k (n + 1) : Nat) : Int) - ((BN.pk k n : Nat) : Int) = ((n : Int) + 1) ^ k := by
  have h := pk_cast k n
  omega
set_option maxHeartbeats 4000000 in
theorem nico_all (k n : Nat) (w : World) (hn : n < 1000000000000000000) (hk : k ≤ 60) (hBg : Calls Tryz.prog 8 #[] w fun e w' => e = .returned (.bool true) ∧ Below w.heap.size w w') (hSm : SumOk w) :
    Calls Tryz.prog 5 #[.int .i64 (k : Int), .int .i64 (n : Int)] w fun e w' => e = .returned (.bool true) ∧ Below w.heap.size w w' := by
  have HBg : Hid (Calls Tryz.prog 8 #[] w fun e w' => e = .returned (.bool true) ∧ Below w.heap.size w w') := hBg
  have HSm : Hid (SumOk w) := hSm
  clear hBg hSm
  obtain ⟨S1, hS1, hD1⟩ := sum_text 1 n (by omega) (by omega)
  obtain ⟨S3, hS3, hD3⟩ := sum_text 3 n (by omega) (by omega)
  have HT : Hid ((S1 = ⟨(Lib.decDigits (BN.pk 1 n)).toArray⟩ ∧ Dn S1 (BN.pk 1 n)) ∧ (S3 = ⟨(Lib.decDigits (BN.pk 3 n)).toArray⟩ ∧ Dn S3 (BN.pk 3 n))) := ⟨⟨hS1, hD1⟩, ⟨hS3, hD3⟩⟩
  clear hS1 hD1 hS3 hD3
  have d0 : decide ((n : Int) < 0) = false := decide_eq_false (by omega)
  have d1 : decide (1000000000000000000 ≤ (n : Int)) = false := decide_eq_false (by omega)
  go_enter Tryz.func5, Tryz.ntmps5
  go_wp2_with fail
  refine HBg.out.mono ?_
  rintro e w1 ⟨rfl, k1⟩
  have K1 : Hid (Below w.heap.size w w1) := k1
  clear k1 HBg
  go_wp2_with fail
  have hq := HSm.out 1 n w1 K1.out (by omega) (by omega)
  rw [← HT.out.1.1] at hq
  refine hq.mono ?_
  rintro e w2 ⟨rfl, k2⟩
  have K2 : Hid (Below w.heap.size w w2) := K1.out.trans (k2.mono K1.out.size)
  clear k2 K1 hq
  have z2 := K2.out.size
  have K3 : Hid (Sv w2.heap.size 0 0 (w2.alloc (.cells #[.int .i64 0, .int .i64 0] 23)) ∧ Below w.heap.size w (w2.alloc (.cells #[.int .i64 0, .int .i64 0] 23))) := ⟨Sv.new 0 0 w2, K2.out.alloc z2 _⟩
  clear K2
  go_wp2_with fail
  have hq := HSm.out 3 n _ K3.out.2 (by omega) (by omega)
  rw [← HT.out.2.1] at hq
  refine hq.mono ?_
  rintro e w3 ⟨rfl, k3⟩
  have K4 : Hid (Sv w2.heap.size 0 0 w3 ∧ Below w.heap.size w w3) := ⟨K3.out.1.below k3, K3.out.2.trans (k3.mono K3.out.2.size)⟩
  clear k3 K3 hq
  have z3 := K4.out.2.size
  have z4 := K4.out.1.lt
  have K5 : Hid (N2 w (w3.alloc (.cells #[.int .i64 0, .int .i64 0] 23)) w2.heap.size w3.heap.size) := ⟨K4.out.1.alloc _ _, Sv.new 0 0 w3, by omega, z2, z3, K4.out.2.alloc z3 _⟩
  clear K4
  obtain ⟨b6, hb6⟩ : ∃ b, b = w2.heap.size := ⟨_, rfl⟩
  obtain ⟨b8, hb8⟩ : ∃ b, b = w3.heap.size := ⟨_, rfl⟩
  go_wp2_with fail
  rw [← hb6, ← hb8]
  have K5' : Hid (N2 w (w3.alloc (.cells #[.int .i64 0, .int .i64 0] 23)) b6 b8) := by show N2 _ _ _ _; rw [hb6, hb8]; exact K5.out
  refine (HT.out.1.2 _).mono ?_
  rintro e w5 ⟨x1, rfl, hx1, i5, k5⟩
  have K6 : Hid (N2 w w5 b6 b8 ∧ BigAt w5 x1 ((BN.pk 1 n : Nat) : Int)) := ⟨K5'.out.below k5, i5⟩
  clear k5 i5 hx1 K5 K5' z2 z3 z4 hb6 hb8
  go_wp2_with fail
  refine (HT.out.2.2 _).mono ?_
  rintro e w6 ⟨x3, rfl, hx3, i6, k6⟩
  have K7 : Hid (N2 w w6 b6 b8 ∧ BigAt w6 x1 ((BN.pk 1 n : Nat) : Int) ∧ BigAt w6 x3 ((BN.pk 3 n : Nat) : Int)) := ⟨K6.out.1.below k6, K6.out.2.below k6 (Nat.le_refl _), i6⟩
  clear k6 i6 hx3 K6
  obtain ⟨u0, u1, u2, u3, u4⟩ := K7.out.1.f
  obtain ⟨v0, v1, v2, v3, v4⟩ := K7.out.1.v
  go_wp2_with fail
  have S0 : Hid (Slot (w6.alloc (.cells #[.bool false, .slice none 0 0] 37)) w6.heap.size) := slot_new _ _ _
  have zs := K7.out.1.k.size
  have K8 : Hid (N2 w (w6.alloc (.cells #[.bool false, .slice none 0 0] 37)) b6 b8 ∧ BigAt (w6.alloc (.cells #[.bool false, .slice none 0 0] 37)) x1 ((BN.pk 1 n : Nat) : Int) ∧ BigAt (w6.alloc (.cells #[.bool false, .slice none 0 0] 37)) x3 ((BN.pk 3 n : Nat) : Int)) := ⟨K7.out.1.below (Below.alloc_self _ _), K7.out.2.1.below (Below.alloc_self _ _) (Nat.le_refl _), K7.out.2.2.below (Below.alloc_self _ _) (Nat.le_refl _)⟩
  have HN : Hid (x3 ≠ w6.heap.size ∧ N2 w w6 b6 b8) := ⟨by have := K7.out.2.2.slot.lt; omega, K7.out.1⟩
  clear u0 u1 u2 u3 u4 v0 v1 v2 v3 v4 K7
  refine (Mul_any w6.heap.size x1 x1 _ _ 128 128 _ S0.out K8.out.2.1 K8.out.2.1 (by rw [Int.natAbs_natCast]; exact pk_big (by omega) (by omega)) (by rw [Int.natAbs_natCast]; exact pk_big (by omega) (by omega)) (by omega) (by omega)).mono ?_
  rintro e w7 ⟨rfl, i7, u7⟩
  have i7' : BigAt w7 w6.heap.size ((BN.pk 3 n : Nat) : Int) := by rw [← nicomachus, Int.natCast_mul]; exact i7
  have kz : Below w6.heap.size (w6.alloc (.cells #[.bool false, .slice none 0 0] 37)) w7 := u7.below (by simp) (Nat.le_refl _)
  have K9 : Hid (N2 w w7 b6 b8 ∧ BigAt w7 w6.heap.size ((BN.pk 3 n : Nat) : Int) ∧ BigAt w7 x3 ((BN.pk 3 n : Nat) : Int)) := ⟨HN.out.2.below ((Below.alloc_self _ _).trans kz), i7', K8.out.2.2.upd u7 S0.out HN.out.1⟩
  clear i7 i7' u7 kz K8 S0 HN zs
  go_wp2_with fail
  refine (Cmp_any w6.heap.size x3 _ _ 128 128 w7 K9.out.2.1 K9.out.2.2 (by rw [Int.natAbs_natCast]; exact pk_big (by omega) (by omega)) (by rw [Int.natAbs_natCast]; exact pk_big (by omega) (by omega)) (by omega) (by omega)).mono ?_
  rintro e w8 ⟨rfl, q8, rfl⟩
  have cz : cmpZ ((BN.pk 3 n : Nat) : Int) ((BN.pk 3 n : Nat) : Int) = 0 := by unfold cmpZ; simp
  rw [cz]
  have KA : Hid (N2 w (w7.drewN q8) b6 b8) := K9.out.1.below (below_drewN' (Below.refl _ _))
  clear K9 cz HT
  obtain ⟨w8, hw8⟩ : ∃ w8, w8 = w7.drewN q8 := ⟨_, rfl⟩
  rw [← hw8] at KA ⊢
  clear hw8
  have d2 : decide ((k : Int) < 0) = false := decide_eq_false (by omega)
  have d3 : decide (60 < (k : Int)) = false := decide_eq_false (by omega)
  obtain ⟨Sp, hSp, hDp⟩ := sum_text k n hk (by omega)
  obtain ⟨Sq, hSq, hDq⟩ := sum_text k (n + 1) hk (by omega)
  have HU : Hid ((Sp = ⟨(Lib.decDigits (BN.pk k n)).toArray⟩ ∧ Dn Sp (BN.pk k n)) ∧ (Sq = ⟨(Lib.decDigits (BN.pk k (n + 1))).toArray⟩ ∧ Dn Sq (BN.pk k (n + 1)))) := ⟨⟨hSp, hDp⟩, ⟨hSq, hDq⟩⟩
  clear hSp hDp hSq hDq
  go_wp2_with fail
  have hq := HSm.out k n w8 KA.out.k hk (by omega)
  rw [← HU.out.1.1] at hq
  refine hq.mono ?_
  rintro e w9 ⟨rfl, k9⟩
  have L1 := KA.out.below k9
  have L2 : Hid (N2 w ((w9.setCell ⟨b6, 0, none⟩ (.int .i64 0)).setCell ⟨b6, 1, none⟩ (.int .i64 0)) b6 b8) := L1.set6
  obtain ⟨u0, u1, u2, u3, u4⟩ := L1.f
  clear L1 k9 hq KA
  go_wp2_with fail
  clear u0 u1 u2 u3 u4
  obtain ⟨wa, hwa⟩ : ∃ wa, wa = (w9.setCell ⟨b6, 0, none⟩ (.int .i64 0)).setCell ⟨b6, 1, none⟩ (.int .i64 0) := ⟨_, rfl⟩
  rw [← hwa]
  have L3 : Hid (N2 w wa b6 b8) := by rw [hwa]; exact L2.out
  clear hwa L2
  have hq := HSm.out k (n + 1) wa L3.out.k hk (by omega)
  rw [← HU.out.2.1] at hq
  refine hq.mono ?_
  rintro e wb ⟨rfl, kb⟩
  have M1 := L3.out.below kb
  have M2 : Hid (N2 w ((wb.setCell ⟨b8, 0, none⟩ (.int .i64 0)).setCell ⟨b8, 1, none⟩ (.int .i64 0)) b6 b8) := M1.set8
  obtain ⟨v0, v1, v2, v3, v4⟩ := M1.v
  clear M1 kb hq L3
  go_wp2_with fail
  clear v0 v1 v2 v3 v4
  obtain ⟨wc, hwc⟩ : ∃ wc, wc = (wb.setCell ⟨b8, 0, none⟩ (.int .i64 0)).setCell ⟨b8, 1, none⟩ (.int .i64 0) := ⟨_, rfl⟩
  rw [← hwc]
  have M3 : Hid (N2 w wc b6 b8) := by rw [hwc]; exact M2.out
  clear hwc M2
  refine (HU.out.1.2 _).mono ?_
  rintro e wd ⟨xp, rfl, hxp, id, kd⟩
  have M4 : Hid (N2 w wd b6 b8 ∧ BigAt wd xp ((BN.pk k n : Nat) : Int)) := ⟨M3.out.below kd, id⟩
  clear kd id hxp M3
  go_wp2_with fail
  refine (HU.out.2.2 _).mono ?_
  rintro e we ⟨xq, rfl, hxq, ie, ke⟩
  have M5 : Hid (N2 w we b6 b8 ∧ BigAt we xp ((BN.pk k n : Nat) : Int) ∧ BigAt we xq ((BN.pk k (n + 1) : Nat) : Int)) := ⟨M4.out.1.below ke, M4.out.2.below ke (Nat.le_refl _), ie⟩
  clear ke ie hxq M4
  obtain ⟨u0, u1, u2, u3, u4⟩ := M5.out.1.f
  obtain ⟨v0, v1, v2, v3, v4⟩ := M5.out.1.v
  go_wp2_with fail
  clear u0 u1 u2 u3 u4 v0 v1 v2 v3 v4
  have S0 : Hid (Slot (we.alloc (.cells #[.bool false, .slice none 0 0] 37)) we.heap.size) := slot_new _ _ _
  have M6 : Hid (Below w.heap.size w (we.alloc (.cells #[.bool false, .slice none 0 0] 37)) ∧ BigAt (we.alloc (.cells #[.bool false, .slice none 0 0] 37)) xp ((BN.pk k n : Nat) : Int) ∧ BigAt (we.alloc (.cells #[.bool false, .slice none 0 0] 37)) xq ((BN.pk k (n + 1) : Nat) : Int)) := ⟨M5.out.1.k.alloc M5.out.1.k.size _, M5.out.2.1.below (Below.alloc_self _ _) (Nat.le_refl _), M5.out.2.2.below (Below.alloc_self _ _) (Nat.le_refl _)⟩
  have ze := M5.out.1.k.size
  clear M5
  refine (Sub_any we.heap.size xq xp _ _ 128 128 _ S0.out M6.out.2.2 M6.out.2.1 (by rw [Int.natAbs_natCast]; exact pk_big hk (by omega)) (by rw [Int.natAbs_natCast]; exact pk_big hk (by omega)) (by omega) (by omega)).mono ?_
  rintro e wf ⟨rfl, jf, uf⟩
  rw [sum_next] at jf
  have zf := uf.size
  simp at zf
  have M7 : Hid (Below w.heap.size w wf ∧ BigAt wf we.heap.size (((n : Int) + 1) ^ k)) := ⟨M6.out.1.trans (uf.below (by simp; omega) ze), jf⟩
  clear jf uf M6 S0 HU HSm
  go_wp2_with fail
  have S1 : Hid (Slot (wf.alloc (.cells #[.bool false, .slice none 0 0] 37)) wf.heap.size) := slot_new _ _ _
  have M8 : Hid (Below w.heap.size w (wf.alloc (.cells #[.bool false, .slice none 0 0] 37)) ∧ BigAt (wf.alloc (.cells #[.bool false, .slice none 0 0] 37)) we.heap.size (((n : Int) + 1) ^ k)) := ⟨M7.out.1.alloc M7.out.1.size _, M7.out.2.below (Below.alloc_self _ _) (Nat.le_refl _)⟩
  have zz : Hid (we.heap.size < wf.heap.size) := M7.out.2.slot.lt
  clear M7
  refine (B_any ((n : Int) + 1) _ (by omega) (by omega)).mono ?_
  rintro e wg ⟨bg, rfl, mg⟩
  have zg := mg.2.2.size
  simp at zg
  have M9 : Hid (Below w.heap.size w wg ∧ BigAt wg we.heap.size (((n : Int) + 1) ^ k) ∧ Slot wg wf.heap.size ∧ BigAt wg bg ((n : Int) + 1)) := ⟨M8.out.1.trans (mg.2.2.mono (by simp; omega)), M8.out.2.below mg.2.2 (Nat.le_refl _), S1.out.below mg.2.2 (Nat.le_refl _), mg.2.1⟩
  clear mg M8 S1
  go_wp2_with fail
  refine (B_any (k : Int) wg (by omega) (by omega)).mono ?_
  rintro e wh ⟨bh, rfl, mh⟩
  have zh := mh.2.2.size
  have MA : Hid (Below w.heap.size w wh ∧ BigAt wh we.heap.size (((n : Int) + 1) ^ k) ∧ Slot wh wf.heap.size ∧ BigAt wh bg ((n : Int) + 1) ∧ BigAt wh bh (k : Int)) := ⟨M9.out.1.trans (mh.2.2.mono (by omega)), M9.out.2.1.below mh.2.2 (Nat.le_refl _), M9.out.2.2.1.below mh.2.2 (Nat.le_refl _), M9.out.2.2.2.below mh.2.2 (Nat.le_refl _), mh.2.1⟩
  clear mh M9
  go_wp2_with fail
  refine (Exp_nil wf.heap.size bg bh ((n : Int) + 1) k 2 1 wh MA.out.2.2.1 MA.out.2.2.2.1 MA.out.2.2.2.2 (lt_pw2 (by omega) (by omega)) (by rw [show pw 1 = 4294967296 from by decide]; omega) (by omega) (by omega) (by omega)).mono ?_
  rintro e wi ⟨rfl, ji, ui⟩
  have MB : Hid (Below w.heap.size w wi ∧ BigAt wi we.heap.size (((n : Int) + 1) ^ k) ∧ BigAt wi wf.heap.size (((n : Int) + 1) ^ k)) := ⟨MA.out.1.trans (ui.below (by omega) (by omega)), MA.out.2.1.upd ui MA.out.2.2.1 (by have := zz.out; omega), ji⟩
  clear ji ui MA
  have HP : Hid ((((n : Int) + 1) ^ k).natAbs < pw 128) := by
    have h := pk_big (k := k) (n := n + 1) hk (by omega)
    have h0 := pk_big (k := k) (n := n) hk (by omega)
    show _ < _
    rw [← sum_next]
    omega
  go_wp2_with fail
  refine (Cmp_any we.heap.size wf.heap.size _ _ 128 128 wi MB.out.2.1 MB.out.2.2 HP.out HP.out (by omega) (by omega)).mono ?_
  rintro e wj ⟨rfl, qj, rfl⟩
  have cz : cmpZ (((n : Int) + 1) ^ k) (((n : Int) + 1) ^ k) = 0 := by unfold cmpZ; simp
  rw [cz]
  have MC : Hid (Below w.heap.size w (wi.drewN qj)) := below_drewN' MB.out.1
  clear MB HP cz
  go_wp2
  go_ret
  exact ⟨rfl, MC.out⟩
theorem nico_any (k n : Int) (w : World) (hBg : Calls Tryz.prog 8 #[] w fun e w' => e = .returned (.bool true) ∧ Below w.heap.size w w') (hSm : SumOk w) :
    Calls Tryz.prog 5 #[.int .i64 k, .int .i64 n] w fun e w' => e = .returned (.bool true) ∧ Below w.heap.size w w' := by
  by_cases h : n < 0 ∨ 1000000000000000000 ≤ n
  · exact nico_out k n w h hBg
  · obtain ⟨m, rfl⟩ : ∃ m : Nat, n = (m : Int) := ⟨n.toNat, by omega⟩
    by_cases h2 : k < 0 ∨ 60 < k
    · exact nico_half k m w (by omega) h2 hBg hSm
    · obtain ⟨j, rfl⟩ : ∃ j : Nat, k = (j : Int) := ⟨k.toNat, by omega⟩
      exact nico_all j m w (by omega) (by omega) hBg hSm
end Go.Proofs.YtnkjadpmigpneaaGreatDoor
end

section
set_option linter.unusedSimpArgs false
set_option linter.unusedVariables false
set_option maxRecDepth 100000
namespace Go.Proofs.YtnkjadpmigpneaaGreatDoor
open Go.RowKit LgM
theorem begun (w : World) (hQ : Tq w) (hT : Tb w) :
    Calls Tryz.prog 8 #[] w fun e w' => e = .returned (.bool true) ∧ Below w.heap.size w w' :=
  bernBegun_of w (Number_ok 12 w (by omega) hT hQ)
theorem bern_nico (k n : Int) (w : World) (hQ : Tq w) (hT : Tb w) :
    Calls Tryz.prog 5 #[.int .i64 k, .int .i64 n] w fun e w' => e = .returned (.bool true) ∧ Below w.heap.size w w' :=
  nico_any k n w (begun w hQ hT) (fun k n W kk hk hn => Sum_ok k n W hk hn (hT.below kk) (hQ.below kk))
end Go.Proofs.YtnkjadpmigpneaaGreatDoor
end
